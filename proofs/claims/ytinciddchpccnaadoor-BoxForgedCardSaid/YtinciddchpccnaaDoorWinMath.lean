/- What later texts need of the earlier layers. -/

/- ---- WinMath ---- -/
/- Packing of what stood before, as plain functions of lists of bytes. -/
namespace Go.Proofs.YtinciddchpccnaaDoor
set_option linter.unusedVariables false
set_option linter.unusedSimpArgs false
namespace Win
/-- how many bytes ahead of two lists are the same, m at most -/
def same : List UInt8 → List UInt8 → Nat → Nat
  | x :: r, y :: s, m + 1 => if x = y then same r s m + 1 else 0
  | _, _, _ => 0
theorem same_le (a b : List UInt8) (m : Nat) : same a b m ≤ m ∧ same a b m ≤ a.length ∧ same a b m ≤ b.length := by
  induction a generalizing b m with
  | nil => simp [same]
  | cons x r ih =>
    cases b with
    | nil => simp [same]
    | cons y s =>
      cases m with
      | zero => simp [same]
      | succ m =>
        unfold same
        have := ih s m
        split <;> simp <;> omega
theorem same_next (a b : List UInt8) (m k : Nat) (h : k ≤ same a b m) (ha : k < a.length) (hb : k < b.length) (hm : k < m) :
    (a[k] = b[k] → k + 1 ≤ same a b m) ∧ (a[k] ≠ b[k] → same a b m = k) := by
  induction a generalizing b m k with
  | nil => simp at ha
  | cons x r ih =>
    cases b with
    | nil => simp at hb
    | cons y s =>
      cases m with
      | zero => omega
      | succ m =>
        unfold same at h ⊢
        cases k with
        | zero => exact ⟨fun e => by rw [if_pos (show x = y from e)]; omega, fun e => by rw [if_neg (show ¬ x = y from e)]⟩
        | succ k =>
          by_cases hx : x = y
          · rw [if_pos hx] at h ⊢
            have := ih s m k (by omega) (by simpa using ha) (by simpa using hb) (by omega)
            simp only [List.getElem_cons_succ]
            exact ⟨fun e => by have := this.1 e; omega, fun e => by have := this.2 e; omega⟩
          · rw [if_neg hx] at h; omega
theorem same_get (a b : List UInt8) (m k : Nat) (h : k < same a b m) : a[k]? = b[k]? := by
  induction a generalizing b m k with
  | nil => simp [same] at h
  | cons x r ih =>
    cases b with
    | nil => simp [same] at h
    | cons y s =>
      cases m with
      | zero => simp [same] at h
      | succ m =>
        unfold same at h
        by_cases hx : x = y
        · rw [if_pos hx] at h
          cases k with
          | zero => simp [hx]
          | succ k => simpa using ih s m k (by omega)
        · rw [if_neg hx] at h; omega
theorem same_take (a b : List UInt8) (m : Nat) : a.take (same a b m) = b.take (same a b m) := by
  apply List.ext_getElem?
  intro k
  by_cases h : k < same a b m
  · rw [List.getElem?_take_of_lt h, List.getElem?_take_of_lt h]; exact same_get a b m k h
  · rw [List.getElem?_eq_none (by rw [List.length_take]; omega), List.getElem?_eq_none (by rw [List.length_take]; omega)]
/-- as many as the same, if all of them are -/
theorem same_all (a b : List UInt8) (m n : Nat) (hn : n ≤ m) (ha : n ≤ a.length) (hb : n ≤ b.length) (h : ∀ k, k < n → a[k]? = b[k]?) : n ≤ same a b m := by
  induction a generalizing b m n with
  | nil => simp at ha; omega
  | cons x r ih =>
    cases n with
    | zero => omega
    | succ n =>
      cases b with
      | nil => simp at hb
      | cons y s =>
        cases m with
        | zero => omega
        | succ m =>
          have h0 := h 0 (by omega)
          simp at h0
          unfold same
          rw [if_pos h0]
          have := ih s m n (by omega) (by simpa using ha) (by simpa using hb) (fun k hk => by simpa using h (k + 1) (by omega))
          omega
/-- how many bytes so far back at a place are the same -/
def at_ (K : List UInt8) (at' d : Nat) : Nat := same (K.drop at') (K.drop (at' - d)) 130
/-- the longest match so far back at most, and how far back -/
def bestTo (K : List UInt8) (p : Nat) : Nat → Nat × Nat
  | 0 => (0, 0)
  | d + 1 => if (bestTo K p d).1 < at_ K p (d + 1) then (at_ K p (d + 1), d + 1) else bestTo K p d
theorem bestTo_succ (K : List UInt8) (p d : Nat) : bestTo K p (d + 1) = if (bestTo K p d).1 < at_ K p (d + 1) then (at_ K p (d + 1), d + 1) else bestTo K p d := rfl
def best (K : List UInt8) (p : Nat) : Nat × Nat := bestTo K p (min p 32768)
/-- the same, if it is a match -/
def matTo (K : List UInt8) (p d : Nat) : Nat × Nat := if 4 ≤ (bestTo K p d).1 then bestTo K p d else (0, 0)
def mat (K : List UInt8) (p : Nat) : Nat × Nat := matTo K p (min p 32768)
theorem at_le (K : List UInt8) (p d : Nat) : at_ K p d ≤ 130 ∧ at_ K p d ≤ K.length - p := by
  have := same_le (K.drop p) (K.drop (p - d)) 130
  rw [List.length_drop] at this
  exact ⟨this.1, this.2.1⟩
theorem bestTo_le (K : List UInt8) (p d : Nat) : (bestTo K p d).1 ≤ 130 ∧ (bestTo K p d).1 ≤ K.length - p ∧ (bestTo K p d).2 ≤ d ∧ ((bestTo K p d).1 ≠ 0 → 1 ≤ (bestTo K p d).2 ∧ (bestTo K p d).1 = at_ K p (bestTo K p d).2) := by
  induction d with
  | zero => simp [bestTo]
  | succ d ih =>
    rw [bestTo_succ]
    have := at_le K p (d + 1)
    split
    · exact ⟨this.1, this.2, Nat.le_refl _, fun _ => ⟨by simp, rfl⟩⟩
    · exact ⟨ih.1, ih.2.1, by omega, ih.2.2.2⟩
theorem matTo_zero (K : List UInt8) (p : Nat) : matTo K p 0 = (0, 0) := by simp [matTo, bestTo]
/-- a place at which fewer than four are the same changes nothing -/
theorem matTo_skip {K : List UInt8} {p d : Nat} (h : at_ K p (d + 1) < 4) : matTo K p (d + 1) = matTo K p d := by
  unfold matTo
  rw [bestTo_succ]
  by_cases h1 : (bestTo K p d).1 < at_ K p (d + 1)
  · rw [if_pos h1, if_neg (show ¬ 4 ≤ at_ K p (d + 1) by omega), if_neg (by omega)]
  · rw [if_neg h1]
theorem matTo_next {K : List UInt8} {p d : Nat} (h : 4 ≤ at_ K p (d + 1)) :
    matTo K p (d + 1) = if (matTo K p d).1 < at_ K p (d + 1) then (at_ K p (d + 1), d + 1) else matTo K p d := by
  unfold matTo
  rw [bestTo_succ]
  by_cases h1 : (bestTo K p d).1 < at_ K p (d + 1)
  · rw [if_pos h1, if_pos (show 4 ≤ at_ K p (d + 1) from h)]
    by_cases h2 : 4 ≤ (bestTo K p d).1
    · rw [if_pos h2, if_pos h1]
    · rw [if_neg h2, if_pos (show 0 < at_ K p (d + 1) by omega)]
  · have h2 : 4 ≤ (bestTo K p d).1 := by omega
    rw [if_neg h1, if_pos h2, if_neg h1]
theorem matTo_skips {K : List UInt8} {p d e : Nat} (hde : d ≤ e) (h : ∀ j, d < j → j ≤ e → at_ K p j < 4) : matTo K p e = matTo K p d := by
  induction e with
  | zero => obtain rfl : d = 0 := by omega
            rfl
  | succ e ih =>
    by_cases hd : d = e + 1
    · subst hd; rfl
    · rw [matTo_skip (h _ (by omega) (by omega))]
      exact ih (by omega) (fun j h1 h2 => h j h1 (by omega))
/-- the longest that there can be stays -/
theorem matTo_full {K : List UInt8} {p d e : Nat} (hde : d ≤ e) (h : (matTo K p d).1 = min (K.length - p) 130) : matTo K p e = matTo K p d := by
  induction e with
  | zero => obtain rfl : d = 0 := by omega
            rfl
  | succ e ih =>
    by_cases hd : d = e + 1
    · subst hd; rfl
    · have h1 := ih (by omega)
      have h2 := at_le K p (e + 1)
      by_cases h4 : 4 ≤ at_ K p (e + 1)
      · rw [matTo_next h4, h1, if_neg (by omega)]
      · rw [matTo_skip (by omega), h1]
theorem mat_le (K : List UInt8) (p : Nat) : (mat K p).1 ≤ 130 ∧ (mat K p).1 ≤ K.length - p ∧ (mat K p).2 ≤ p ∧ (mat K p).2 ≤ 32768 ∧ ((mat K p).1 ≠ 0 → 4 ≤ (mat K p).1 ∧ 1 ≤ (mat K p).2 ∧ (mat K p).1 = at_ K p (mat K p).2) := by
  have h := bestTo_le K p (min p 32768)
  unfold mat matTo
  split
  · rename_i h4
    exact ⟨h.1, h.2.1, by omega, by omega, fun _ => ⟨h4, (h.2.2.2 (by omega)).1, (h.2.2.2 (by omega)).2⟩⟩
  · simp
/-- the places at which four bytes stood: the last one ahead of a place -/
def four (K : List UInt8) (p : Nat) : List UInt8 := (K.drop p).take 4
def lastAt (K : List UInt8) (f : List UInt8) : Nat → Option Nat
  | 0 => none
  | i + 1 => if i + 4 ≤ K.length ∧ four K i = f then some i else lastAt K f i
theorem lastAt_some {K f : List UInt8} {n i : Nat} (h : lastAt K f n = some i) : i < n ∧ i + 4 ≤ K.length ∧ four K i = f ∧ ∀ j, i < j → j < n → j + 4 ≤ K.length → four K j ≠ f := by
  induction n with
  | zero => simp [lastAt] at h
  | succ n ih =>
    unfold lastAt at h
    by_cases hc : n + 4 ≤ K.length ∧ four K n = f
    · rw [if_pos hc] at h; cases h
      exact ⟨by omega, hc.1, hc.2, fun j h1 h2 => by omega⟩
    · rw [if_neg hc] at h
      obtain ⟨h1, h2, h3, h4⟩ := ih h
      refine ⟨by omega, h2, h3, fun j hj1 hj2 hj3 => ?_⟩
      by_cases e : j = n
      · subst e; exact fun e => hc ⟨hj3, e⟩
      · exact h4 j hj1 (by omega) hj3
theorem lastAt_none {K f : List UInt8} {n : Nat} (h : lastAt K f n = none) : ∀ j, j < n → j + 4 ≤ K.length → four K j ≠ f := by
  induction n with
  | zero => intro j hj; omega
  | succ n ih =>
    unfold lastAt at h
    by_cases hc : n + 4 ≤ K.length ∧ four K n = f
    · rw [if_pos hc] at h; cases h
    · rw [if_neg hc] at h
      intro j hj1 hj3
      by_cases e : j = n
      · subst e; exact fun e => hc ⟨hj3, e⟩
      · exact ih h j (by omega) hj3
/-- four bytes the same: a match of four at least -/
theorem at_four {K : List UInt8} {p q : Nat} (hq : q < p) (hp : p + 4 ≤ K.length) : 4 ≤ at_ K p (p - q) ↔ four K q = four K p := by
  have e : p - (p - q) = q := by omega
  unfold at_ four
  rw [e]
  constructor
  · intro h
    have := same_take (K.drop p) (K.drop q) 130
    have h2 := congrArg (List.take 4) this
    rw [List.take_take, List.take_take, Nat.min_eq_left h] at h2
    exact h2.symm
  · intro h
    refine same_all _ _ _ _ (by omega) (by rw [List.length_drop]; omega) (by rw [List.length_drop]; omega) (fun k hk => ?_)
    have := congrArg (fun l : List UInt8 => l[k]?) h
    simp only [List.getElem?_take_of_lt hk] at this
    exact this.symm
end Win
end Go.Proofs.YtinciddchpccnaaDoor
