/- A bank, as plain functions of lists of numbers. -/
namespace Go.Proofs.Ytfkejndiobafeaa
set_option linter.unusedVariables false
set_option linter.unusedSimpArgs false
namespace Bank
/-- somebody -/
def okW (a : Int) : Bool := decide (0 ≤ a) && decide (a < 64)
/-- an amount -/
def okN (n : Int) : Bool := decide (0 ≤ n) && decide (n ≤ 1099511627776)
def at_ (L : List Int) (a : Int) : Int := L.getD a.toNat 0
def put (L : List Int) (a n : Int) : Int × List Int :=
  if okW a = false then (20, L) else if okN n = false then (2, L) else
  if 1099511627776 < at_ L a + n then (3, L) else (0, L.set a.toNat (at_ L a + n))
def take (L : List Int) (a n : Int) : Int × List Int :=
  if okW a = false then (20, L) else if okN n = false then (2, L) else
  if at_ L a < n then (28, L) else (0, L.set a.toNat (at_ L a - n))
def move (L : List Int) (a b n : Int) : Int × List Int :=
  if okW a = false ∨ okW b = false then (20, L) else if okN n = false then (2, L) else
  if at_ L a < n then (28, L) else if a = b then (0, L) else
  if 1099511627776 < at_ L b + n then (3, L) else (0, (L.set a.toNat (at_ L a - n)).set b.toNat (at_ L b + n))
/-- what a bank holds -/
def Ok (L : List Int) : Prop := L.length = 64 ∧ ∀ k, k < 64 → 0 ≤ L.getD k 0 ∧ L.getD k 0 ≤ 1099511627776
def none_ : List Int := List.replicate 64 0
theorem getD_zeros (n k : Nat) : (List.replicate n (0 : Int)).getD k 0 = 0 := by
  rw [List.getD_eq_getElem?_getD, List.getElem?_replicate]; split <;> rfl
theorem none_ok : Ok none_ := ⟨by unfold none_; rw [List.length_replicate], fun k hk => by unfold none_; rw [getD_zeros]; omega⟩

theorem okW_iff {a : Int} : okW a = true ↔ 0 ≤ a ∧ a < 64 := by simp [okW]
theorem okN_iff {n : Int} : okN n = true ↔ 0 ≤ n ∧ n ≤ 1099511627776 := by simp [okN]
theorem getD_set_same {L : List Int} {k : Nat} {x : Int} (h : k < L.length) : (L.set k x).getD k 0 = x := by
  simp [List.getD, h]
theorem getD_set_ne {L : List Int} {k j : Nat} {x : Int} (h : k ≠ j) : (L.set k x).getD j 0 = L.getD j 0 := by
  simp [List.getD, List.getElem?_set_ne h]
theorem set_ok {L : List Int} {k : Nat} {x : Int} (h : Ok L) (h0 : 0 ≤ x) (h1 : x ≤ 1099511627776) : Ok (L.set k x) := by
  refine ⟨by simp [h.1], fun j hj => ?_⟩
  by_cases e : k = j
  · subst e
    rw [getD_set_same (by rw [h.1]; exact hj)]
    exact ⟨h0, h1⟩
  · rw [getD_set_ne e]
    exact h.2 j hj
theorem at_ok {L : List Int} {a : Int} (h : Ok L) (ha : okW a = true) : 0 ≤ at_ L a ∧ at_ L a ≤ 1099511627776 := by
  obtain ⟨h0, h1⟩ := okW_iff.1 ha
  exact h.2 a.toNat (by omega)
theorem put_ok {L : List Int} {a n : Int} (h : Ok L) : Ok (put L a n).2 := by
  unfold put
  split
  · exact h
  · next ha =>
    rw [Bool.not_eq_false] at ha
    have hl := at_ok h ha
    split
    · exact h
    · next hn =>
      rw [Bool.not_eq_false, okN_iff] at hn
      split
      · exact h
      · exact set_ok h (by omega) (by omega)
theorem take_ok {L : List Int} {a n : Int} (h : Ok L) : Ok (take L a n).2 := by
  unfold take
  split
  · exact h
  · next ha =>
    rw [Bool.not_eq_false] at ha
    have hl := at_ok h ha
    split
    · exact h
    · next hn =>
      rw [Bool.not_eq_false, okN_iff] at hn
      split
      · exact h
      · exact set_ok h (by omega) (by omega)
theorem move_ok {L : List Int} {a b n : Int} (h : Ok L) : Ok (move L a b n).2 := by
  unfold move
  split
  · exact h
  · next hab =>
    have ha : okW a = true := by
      rcases Bool.eq_false_or_eq_true (okW a) with e | e
      · exact e
      · exact absurd (Or.inl e) hab
    have hb : okW b = true := by
      rcases Bool.eq_false_or_eq_true (okW b) with e | e
      · exact e
      · exact absurd (Or.inr e) hab
    have hl := at_ok h ha
    have hl2 := at_ok h hb
    split
    · exact h
    · next hn =>
      rw [Bool.not_eq_false, okN_iff] at hn
      split
      · exact h
      · split
        · exact h
        · split
          · exact h
          · exact set_ok (set_ok h (by omega) (by omega)) (by omega) (by omega)
/-- all of it -/
def sum : List Int → Int
  | [] => 0
  | x :: r => x + sum r
theorem sum_append (a b : List Int) : sum (a ++ b) = sum a + sum b := by
  induction a with
  | nil => simp [sum]
  | cons x r ih => simp only [List.cons_append, sum, ih]; omega
theorem sum_set {L : List Int} {k : Nat} {x : Int} (h : k < L.length) : sum (L.set k x) = sum L - L.getD k 0 + x := by
  induction L generalizing k with
  | nil => simp at h
  | cons y r ih =>
    cases k with
    | zero => simp [sum, List.getD]; omega
    | succ k =>
      have := ih (k := k) (by simpa using h)
      simp only [List.set_cons_succ, sum, this, List.getD_cons_succ]
      omega
theorem sum_take_succ (L : List Int) (k : Nat) (h : k < L.length) : sum (L.take (k + 1)) = sum (L.take k) + L.getD k 0 := by
  rw [List.take_succ_eq_append_getElem h, sum_append]
  simp [sum, List.getD, h]
theorem sum_bound {L : List Int} (h : Ok L) (k : Nat) (hk : k ≤ 64) : 0 ≤ sum (L.take k) ∧ sum (L.take k) ≤ k * 1099511627776 := by
  induction k with
  | zero => simp [sum]
  | succ k ih =>
    have h1 := ih (by omega)
    have h2 := h.2 k (by omega)
    rw [sum_take_succ L k (by rw [h.1]; omega)]
    omega
end Bank
end Go.Proofs.Ytfkejndiobafeaa
