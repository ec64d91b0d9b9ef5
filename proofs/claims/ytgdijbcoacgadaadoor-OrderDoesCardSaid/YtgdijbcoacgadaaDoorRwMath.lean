/- Lists of structs as cells, one behind the other: plain mathematics. -/
namespace Go.Proofs.YtgdijbcoacgadaaDoor
set_option linter.unusedVariables false
set_option linter.unusedSimpArgs false
namespace Rw
/-- the cells of a list -/
def flat {α β : Type} (f : α → List β) (l : List α) : List β := l.flatMap f
theorem flat_nil {α β : Type} (f : α → List β) : flat f [] = [] := rfl
theorem flat_cons {α β : Type} (f : α → List β) (x : α) (l : List α) : flat f (x :: l) = f x ++ flat f l := rfl
theorem flat_append {α β : Type} (f : α → List β) (l k : List α) : flat f (l ++ k) = flat f l ++ flat f k := by
  unfold flat; rw [List.flatMap_append]
theorem flat_one {α β : Type} (f : α → List β) (x : α) : flat f [x] = f x := by simp [flat]
theorem flat_push {α β : Type} (f : α → List β) (l : List α) (x : α) : flat f (l ++ [x]) = flat f l ++ f x := by rw [flat_append, flat_one]
theorem flat_len {α β : Type} {f : α → List β} {m : Nat} {l : List α} (h : ∀ x ∈ l, (f x).length = m) : (flat f l).length = l.length * m := by
  induction l with
  | nil => simp [flat]
  | cons x t ih =>
    rw [flat_cons, List.length_append, h x (by simp), ih (fun y hy => h y (by simp [hy])), List.length_cons, Nat.succ_mul]
    omega
theorem flat_at {α β : Type} {f : α → List β} {m : Nat} : ∀ {l : List α} (h : ∀ x ∈ l, (f x).length = m) (i : Nat) (hi : i < l.length) (j : Nat) (v : β), (f l[i])[j]? = some v → (flat f l)[i * m + j]? = some v := fun {l} => by
  induction l with
  | nil => intro h i hi; simp at hi
  | cons x t ih =>
    intro h i hi j v hv
    have hx := h x (by simp)
    rw [flat_cons]
    match i with
    | 0 =>
      rw [Nat.zero_mul, Nat.zero_add, List.getElem?_append_left (by
        have := (List.getElem?_eq_some_iff.1 hv).1
        simpa using this)]
      exact hv
    | i + 1 =>
      rw [List.getElem?_append_right (by rw [hx, Nat.succ_mul]; omega), hx, show (i + 1) * m + j - m = i * m + j by rw [Nat.succ_mul]; omega]
      exact ih (fun y hy => h y (by simp [hy])) i (by simpa using hi) j v hv
theorem flat_set {α β : Type} {f : α → List β} {m : Nat} : ∀ {l : List α} (h : ∀ x ∈ l, (f x).length = m) {y : α} (hy : (f y).length = m) (k : Nat) (hk : k < l.length), (flat f l).take (k * m) ++ (f y ++ (flat f l).drop (k * m + (f y).length)) = flat f (l.set k y) := fun {l} => by
  induction l with
  | nil => intro h y hy k hk; simp at hk
  | cons x t ih =>
    intro h y hy k hk
    have hx := h x (by simp)
    rw [flat_cons]
    match k with
    | 0 =>
      rw [List.set_cons_zero, flat_cons, hy]
      simp only [Nat.zero_mul, List.take_zero, List.nil_append, Nat.zero_add]
      rw [List.drop_left' hx]
    | k + 1 =>
      have ih' := ih (fun z hz => h z (by simp [hz])) hy k (by simpa using hk)
      rw [List.set_cons_succ, flat_cons, ← ih']
      have e1 : (k + 1) * m = (f x).length + k * m := by rw [hx, Nat.succ_mul]; omega
      rw [e1, List.take_length_add_append, Nat.add_assoc, List.drop_length_add_append, List.append_assoc]
theorem flat_take {α β : Type} {f : α → List β} {m : Nat} {l : List α} (h : ∀ x ∈ l, (f x).length = m) (k : Nat) (hk : k ≤ l.length) : flat f (l.take k) = (flat f l).take (k * m) := by
  have e : l = l.take k ++ l.drop k := (List.take_append_drop k l).symm
  have hl : (flat f (l.take k)).length = k * m := by
    rw [flat_len (m := m) (fun x hx => h x (List.mem_of_mem_take hx)), List.length_take, Nat.min_eq_left hk]
  have e2 : flat f l = flat f (l.take k) ++ flat f (l.drop k) := by rw [← flat_append, ← e]
  rw [e2, List.take_left' hl]
/-- a store into a longer row, seen from its beginning -/
theorem splice_take {β : Type} (cur l : List β) (off N : Nat) (h : off + l.length ≤ N) :
    (cur.take off ++ (l ++ cur.drop (off + l.length))).take N = (cur.take N).take off ++ (l ++ (cur.take N).drop (off + l.length)) := by
  apply List.ext_getElem?
  intro k
  by_cases hN : k < N
  · rw [List.getElem?_take_of_lt hN]
    by_cases hoff : off ≤ cur.length
    · by_cases h1 : k < off
      · rw [List.getElem?_append_left (by rw [List.length_take]; omega), List.getElem?_append_left (by simp only [List.length_take]; omega), List.getElem?_take_of_lt h1, List.getElem?_take_of_lt h1, List.getElem?_take_of_lt hN]
      · have e1 : (cur.take off).length = off := by rw [List.length_take]; omega
        have e2 : ((cur.take N).take off).length = off := by simp only [List.length_take]; omega
        rw [List.getElem?_append_right (l₁ := cur.take off) (by omega), List.getElem?_append_right (l₁ := (cur.take N).take off) (by omega), e1, e2]
        by_cases h2 : k - off < l.length
        · rw [List.getElem?_append_left h2, List.getElem?_append_left h2]
        · rw [List.getElem?_append_right (l₁ := l) (by omega), List.getElem?_append_right (l₁ := l) (by omega), List.getElem?_drop, List.getElem?_drop, List.getElem?_take_of_lt (by omega)]
    · have e1 : cur.take off = cur := List.take_of_length_le (by omega)
      have e2 : cur.take N = cur := List.take_of_length_le (by omega)
      rw [e2, e1]
  · rw [List.getElem?_eq_none (by rw [List.length_take]; omega), List.getElem?_eq_none]
    simp only [List.length_append, List.length_take, List.length_drop]
    omega
end Rw
end Go.Proofs.YtgdijbcoacgadaaDoor
