/- Cutting, as plain functions: which rules there may be, what fits, what is due. -/
namespace Go.Proofs.Ytncahgjmdeepeaa
set_option linter.unusedVariables false
set_option linter.unusedSimpArgs false
namespace Cut
structure Rules where
  parts : Int
  bytes : Int
  age : Int
  lag : Int
def in_ (n least most : Int) : Bool := decide (least ≤ n) && decide (n ≤ most)
def okR (r : Rules) : Bool := in_ r.parts 1 64 && (in_ r.bytes 700 8192 && (in_ r.age 0 1099511627776 && in_ r.lag 0 1099511627776))
theorem in_iff {n a b : Int} : in_ n a b = true ↔ a ≤ n ∧ n ≤ b := by simp [in_]
theorem okR_iff {r : Rules} : okR r = true ↔ (1 ≤ r.parts ∧ r.parts ≤ 64) ∧ (700 ≤ r.bytes ∧ r.bytes ≤ 8192) ∧ (0 ≤ r.age ∧ r.age ≤ 1099511627776) ∧ (0 ≤ r.lag ∧ r.lag ≤ 1099511627776) := by
  simp [okR, in_iff]
/-- how many more fit, where k do and so many bytes are left -/
def go (parts : Int) : List Nat → Nat → Int → Nat
  | [], _, _ => 0
  | x :: r, k, left => if (k : Int) = parts ∨ (0 < k ∧ left < (x : Int)) then 0 else 1 + go parts r (k + 1) (max (left - x) 0)
def fits (r : Rules) (l : List Nat) : Nat := if okR r = true then go r.parts l 0 r.bytes else 0
theorem go_le (parts : Int) : ∀ (l : List Nat) (k : Nat) (left : Int), go parts l k left ≤ l.length
  | [], _, _ => by simp [go]
  | x :: r, k, left => by
    unfold go
    have := go_le parts r (k + 1) (max (left - x) 0)
    split
    · omega
    · simp only [List.length_cons]; omega
theorem go_parts (parts : Int) : ∀ (l : List Nat) (k : Nat) (left : Int), (k : Int) ≤ parts → ((k + go parts l k left : Nat) : Int) ≤ parts
  | [], _, _, h => by simpa [go] using h
  | x :: r, k, left, h => by
    unfold go
    split
    · simpa using h
    · next hn =>
      have := go_parts parts r (k + 1) (max (left - x) 0) (by
        have : ¬ (k : Int) = parts := fun e => hn (.inl e)
        omega)
      omega
theorem fits_le (r : Rules) (l : List Nat) : fits r l ≤ l.length := by
  unfold fits
  split
  · exact go_le _ _ _ _
  · omega
theorem fits_parts (r : Rules) (l : List Nat) (h : okR r = true) : (fits r l : Int) ≤ r.parts := by
  have h' := okR_iff.1 h
  unfold fits
  rw [if_pos h]
  have := go_parts r.parts l 0 r.bytes (by omega)
  simpa using this
/-- is a time at most now less so much? -/
def old (time now wait : Int) : Bool := decide (-9223372036854775808 + wait ≤ now) && decide (time ≤ now - wait)
/-- how far the count has come -/
def Upto (r : Rules) (l : List Nat) (k : Nat) (left : Int) : Prop := k ≤ l.length ∧ 0 ≤ left ∧ left ≤ r.bytes ∧ (k : Int) ≤ r.parts ∧ fits r l = k + go r.parts (l.drop k) k left
theorem Upto.start {r : Rules} {l : List Nat} (h : okR r = true) : Upto r l 0 r.bytes := by
  have h' := okR_iff.1 h
  refine ⟨Nat.zero_le _, by omega, Int.le_refl _, by omega, ?_⟩
  unfold fits; rw [if_pos h]; simp
theorem Upto.stop {r : Rules} {l : List Nat} {k : Nat} {left : Int} (h : Upto r l k left) (hk : l.length ≤ k) : fits r l = k := by
  rw [h.2.2.2.2, List.drop_of_length_le hk]; rfl
theorem Upto.full {r : Rules} {l : List Nat} {k x : Nat} {left : Int} (h : Upto r l k left) (hx : l[k]? = some x) (hf : (k : Int) = r.parts ∨ (0 < k ∧ left < (x : Int))) : fits r l = k := by
  have hk : k < l.length := (List.getElem?_eq_some_iff.1 hx).1
  have e : l.drop k = x :: l.drop (k + 1) := by
    rw [List.drop_eq_getElem_cons hk]
    congr 1
    exact (List.getElem?_eq_some_iff.1 hx).2
  rw [h.2.2.2.2, e, go, if_pos hf]; rfl
theorem Upto.next {r : Rules} {l : List Nat} {k x : Nat} {left : Int} (h : Upto r l k left) (hx : l[k]? = some x) (hf : ¬ ((k : Int) = r.parts ∨ (0 < k ∧ left < (x : Int)))) : Upto r l (k + 1) (max (left - x) 0) := by
  have hk : k < l.length := (List.getElem?_eq_some_iff.1 hx).1
  have e : l.drop k = x :: l.drop (k + 1) := by
    rw [List.drop_eq_getElem_cons hk]
    congr 1
    exact (List.getElem?_eq_some_iff.1 hx).2
  obtain ⟨h1, h2, h3, h4, h5⟩ := h
  have hp : ¬ (k : Int) = r.parts := fun e => hf (.inl e)
  refine ⟨hk, by omega, by omega, by omega, ?_⟩
  rw [h5, e, go, if_neg hf]; omega
end Cut
end Go.Proofs.Ytncahgjmdeepeaa
