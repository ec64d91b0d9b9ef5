/- A lane, as plain functions. -/
namespace Go.Proofs.YtlapmdgkcidhnaaDoor
set_option linter.unusedVariables false
set_option linter.unusedSimpArgs false
namespace Ln
/-- a round, who holds it, its turn -/
structure H where
  round : Int
  who : Int
  turn : Int
def look : List H → Int → Option H
  | [], _ => none
  | h :: t, r => if h.round = r then some h else look t r
def at_ : List H → Int → Option Nat
  | [], _ => none
  | h :: t, r => if h.round = r then some 0 else (at_ t r).map (· + 1)
def fits (n : Int) : Prop := -9223372036854775808 ≤ n ∧ n ≤ 9223372036854775807
/-- somebody -/
def okW (a : Int) : Bool := decide (0 ≤ a) && decide (a ≤ 63)
/-- a time's round -/
def rnd (len now : Int) : Int := if now < 0 then 0 else now / len
def upd (L : List H) (r w t : Int) : List H := match at_ L r with | some k => L.set k ⟨r, w, t⟩ | none => L ++ [⟨r, w, t⟩]
def setE (L : List H) (r w : Int) : Int := if r < 0 then 2 else if okW w = false then 20 else if (look L r).isSome then 23 else 0
def set (L : List H) (r w : Int) : List H := if setE L r w = 0 then upd L r w 0 else L
def giveE (len : Int) (L : List H) (r a b now : Int) : Int :=
  if okW a = false ∨ okW b = false then 20 else match look L r with
  | none => 34
  | some h => if h.who ≠ a then 21 else if r < rnd len now then 26 else 0
def give (len : Int) (L : List H) (r a b now : Int) : List H :=
  if giveE len L r a b now = 0 then match look L r with | none => L | some h => upd L r b h.turn else L
def whoOf (L : List H) (r : Int) : Int := match look L r with | none => 0 | some h => h.who
def turnOf (L : List H) (r : Int) : Int := match look L r with | none => 0 | some h => h.turn
/-- what is held, behind n calls -/
def Ok (n : Nat) (L : List H) : Prop := L.length ≤ n ∧ ∀ h ∈ L, 0 ≤ h.round ∧ h.round ≤ 9223372036854775807 ∧ 0 ≤ h.who ∧ h.who ≤ 63 ∧ 0 ≤ h.turn ∧ h.turn ≤ n

theorem look_round {L : List H} {r : Int} {h : H} (e : look L r = some h) : h.round = r := by
  induction L with
  | nil => cases e
  | cons x t ih =>
    unfold look at e
    split at e
    · cases e; assumption
    · exact ih e
theorem look_mem {L : List H} {r : Int} {h : H} (e : look L r = some h) : h ∈ L := by
  induction L with
  | nil => cases e
  | cons x t ih =>
    unfold look at e
    split at e
    · cases e; exact List.mem_cons_self
    · exact List.mem_cons_of_mem _ (ih e)
theorem at_none {L : List H} {r : Int} : at_ L r = none ↔ look L r = none := by
  induction L with
  | nil => exact ⟨fun _ => rfl, fun _ => rfl⟩
  | cons x t ih =>
    unfold at_ look
    split
    · simp
    · simpa using ih
theorem at_some {L : List H} {r : Int} {k : Nat} (e : at_ L r = some k) : k < L.length ∧ look L r = L[k]? := by
  induction L generalizing k with
  | nil => cases e
  | cons x t ih =>
    unfold at_ at e
    split at e
    · next hx =>
      cases e
      refine ⟨by simp, ?_⟩
      unfold look
      rw [if_pos hx]; rfl
    · next hx =>
      obtain ⟨j, hj, rfl⟩ := Option.map_eq_some_iff.1 e
      obtain ⟨h1, h2⟩ := ih hj
      refine ⟨by simp; omega, ?_⟩
      unfold look
      rw [if_neg hx, h2]; simp
theorem look_append {L : List H} {x : H} {r : Int} (h : look L x.round = none) : look (L ++ [x]) r = if x.round = r then some x else look L r := by
  induction L with
  | nil => rfl
  | cons y t ih =>
    unfold look at h
    split at h
    · cases h
    · next hy =>
      rw [List.cons_append]
      unfold look
      rw [ih h]
      by_cases h1 : y.round = r
      · rw [if_pos h1, if_pos h1, if_neg]
        intro h2; exact hy (by rw [h1, h2])
      · rw [if_neg h1, if_neg h1]
theorem look_set {L : List H} {x : H} {k : Nat} {r : Int} (h : at_ L x.round = some k) : look (L.set k x) r = if x.round = r then some x else look L r := by
  induction L generalizing k with
  | nil => cases h
  | cons y t ih =>
    unfold at_ at h
    split at h
    · next hy =>
      cases h
      rw [List.set_cons_zero]
      unfold look
      by_cases h1 : x.round = r
      · rw [if_pos h1, if_pos h1]
      · rw [if_neg h1, if_neg h1, if_neg (by rw [hy]; exact h1)]
    · next hy =>
      obtain ⟨j, hj, rfl⟩ := Option.map_eq_some_iff.1 h
      rw [List.set_cons_succ]
      unfold look
      rw [ih hj]
      by_cases h1 : y.round = r
      · rw [if_pos h1, if_pos h1, if_neg]
        intro h2; exact hy (by rw [h1, h2])
      · rw [if_neg h1, if_neg h1]
theorem look_upd (L : List H) (r w t s : Int) : look (upd L r w t) s = if r = s then some ⟨r, w, t⟩ else look L s := by
  unfold upd
  split
  · next k hk => exact look_set (x := ⟨r, w, t⟩) hk
  · next hk => exact look_append (x := ⟨r, w, t⟩) (at_none.1 hk)
theorem length_upd (L : List H) (r w t : Int) : (upd L r w t).length ≤ L.length + 1 := by
  unfold upd
  split <;> simp
theorem Ok.mono {n m : Nat} {L : List H} (h : Ok n L) (hm : n ≤ m) : Ok m L :=
  ⟨by have := h.1; omega, fun x hx => by have := h.2 x hx; omega⟩
theorem Ok.upd {n : Nat} {L : List H} (h : Ok n L) {r w t : Int} (hr : 0 ≤ r ∧ r ≤ 9223372036854775807) (hw : 0 ≤ w ∧ w ≤ 63) (ht : 0 ≤ t ∧ t ≤ n + 1) : Ok (n + 1) (upd L r w t) := by
  have hl := length_upd L r w t
  refine ⟨by have := h.1; omega, fun x hx => ?_⟩
  unfold Ln.upd at hx
  have key : x ∈ L ∨ x = ⟨r, w, t⟩ := by
    split at hx
    · rcases List.mem_or_eq_of_mem_set hx with h1 | h1
      · exact .inl h1
      · exact .inr h1
    · rcases List.mem_append.1 hx with h1 | h1
      · exact .inl h1
      · exact .inr (by simpa using h1)
  rcases key with h1 | rfl
  · have := h.2 x h1; omega
  · exact ⟨hr.1, hr.2, hw.1, hw.2, ht.1, by simpa using ht.2⟩
theorem okW_iff {a : Int} : okW a = true ↔ 0 ≤ a ∧ a ≤ 63 := by simp [okW]
theorem setE_cases (L : List H) (r w : Int) : setE L r w = 0 → 0 ≤ r ∧ okW w = true ∧ look L r = none := by
  unfold setE
  intro h
  split at h
  · cases h
  · split at h
    · cases h
    · next h2 =>
      split at h
      · cases h
      · next h1 h3 => exact ⟨by omega, by simpa using h2, by simpa using h3⟩
theorem Ok.set {n : Nat} {L : List H} (h : Ok n L) {r w : Int} (hr : r ≤ 9223372036854775807) : Ok (n + 1) (set L r w) := by
  unfold Ln.set
  split
  · next h0 =>
    obtain ⟨h1, h2, h3⟩ := setE_cases _ _ _ h0
    exact h.upd ⟨h1, hr⟩ (okW_iff.1 h2) ⟨by omega, by omega⟩
  · exact h.mono (by omega)
theorem Ok.give {n : Nat} {L : List H} (h : Ok n L) {len r a b now : Int} : Ok (n + 1) (give len L r a b now) := by
  unfold Ln.give
  split
  · next h0 =>
    unfold giveE at h0
    split at h0
    · cases h0
    · next hw =>
      split
      · exact h.mono (by omega)
      · next x hx =>
        have hm := h.2 x (look_mem hx)
        have hb : okW b = true := by
          rcases Bool.eq_false_or_eq_true (okW b) with h1 | h1
          · exact h1
          · exact absurd (.inr h1) hw
        have hrr := look_round hx
        exact h.upd ⟨by omega, by omega⟩ (okW_iff.1 hb) ⟨by omega, by omega⟩
  · exact h.mono (by omega)
/-- where a round stands, from a place on -/
def atFrom (r : Int) : Nat → List H → Int
  | _, [] => -1
  | k, h :: t => if h.round = r then (k : Int) else atFrom r (k + 1) t
def atI (L : List H) (r : Int) : Int := match at_ L r with | some k => (k : Int) | none => -1
theorem atFrom_eq (r : Int) : ∀ (L : List H) (k : Nat), atFrom r k L = match at_ L r with | some j => ((j + k : Nat) : Int) | none => -1
  | [], _ => rfl
  | h :: t, k => by
    unfold atFrom at_
    split
    · simp
    · rw [atFrom_eq r t (k + 1)]
      cases at_ t r with
      | none => rfl
      | some j => show ((j + (k + 1) : Nat) : Int) = ((j + 1 + k : Nat) : Int); omega
theorem atI_eq (L : List H) (r : Int) : atI L r = atFrom r 0 L := by
  rw [atFrom_eq]
  unfold atI
  cases at_ L r <;> rfl
theorem atI_neg {L : List H} {r : Int} (h : look L r = none) : atI L r = -1 := by
  unfold atI; rw [at_none.2 h]
theorem atI_pos {L : List H} {r : Int} {x : H} (h : look L r = some x) : ∃ k : Nat, atI L r = (k : Int) ∧ at_ L r = some k ∧ ∃ hk : k < L.length, L[k] = x := by
  rcases e : at_ L r with _ | k
  · rw [at_none.1 e] at h; cases h
  · obtain ⟨h1, h2⟩ := at_some e
    refine ⟨k, by unfold atI; rw [e], rfl, h1, ?_⟩
    rw [h2, List.getElem?_eq_getElem h1] at h
    injection h
theorem upd_some {L : List H} {r w t : Int} {k : Nat} (e : at_ L r = some k) : upd L r w t = L.set k ⟨r, w, t⟩ := by unfold upd; rw [e]
theorem upd_none {L : List H} {r w t : Int} (e : look L r = none) : upd L r w t = L ++ [⟨r, w, t⟩] := by unfold upd; rw [at_none.2 e]
end Ln
end Go.Proofs.YtlapmdgkcidhnaaDoor
