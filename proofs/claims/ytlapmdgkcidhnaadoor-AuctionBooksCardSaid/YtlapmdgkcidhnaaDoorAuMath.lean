/- The auction as plain mathematics: who wins over whom, the best of a list, its price, which bids count. -/
namespace Go.Proofs.YtlapmdgkcidhnaaDoor
set_option linter.unusedVariables false
set_option linter.unusedSimpArgs false
namespace Au
section
variable {α : Type} (amt : α → Int) (sm tx : α → List UInt8)
/-- wins a over b? -/
def higher (a b : α) : Bool := if amt a ≠ amt b then decide (amt b < amt a) else if sm a ≠ sm b then decide (sm a < sm b) else decide (tx a < tx b)
/-- one step of the search -/
def step (b : α → α → Bool) (z : α) (L : List α) (k : Nat) : Option Nat → Option Nat
  | none => some k
  | some a => if b (L.getD k z) (L.getD a z) = true then some k else some a
def bestTo (b : α → α → Bool) (z : α) (L : List α) : Nat → Option Nat
  | 0 => none
  | k + 1 => step b z L k (bestTo b z L k)
def best (b : α → α → Bool) (z : α) (L : List α) : Option Nat := bestTo b z L L.length
def place : Option Nat → Int
  | none => -1
  | some a => (a : Int)
end
variable {α : Type} {amt : α → Int} {sm tx : α → List UInt8}
theorem bestTo_lt {b : α → α → Bool} {z : α} {L : List α} : ∀ {k a : Nat}, bestTo b z L k = some a → a < k
  | 0, a, h => by simp [bestTo] at h
  | k + 1, a, h => by
    simp only [bestTo] at h
    cases hc : bestTo b z L k with
    | none => rw [hc] at h; simp [step] at h; omega
    | some c =>
      rw [hc] at h
      have := bestTo_lt hc
      simp only [step] at h
      split at h <;> simp at h <;> omega
theorem bestTo_pos (b : α → α → Bool) (z : α) (L : List α) (k : Nat) : ∃ a, bestTo b z L (k + 1) = some a := by
  simp only [bestTo]
  cases bestTo b z L k with
  | none => exact ⟨_, rfl⟩
  | some c => simp only [step]; split <;> exact ⟨_, rfl⟩
theorem best_none {b : α → α → Bool} {z : α} {L : List α} : best b z L = none ↔ L = [] := by
  cases L with
  | nil => simp [best, bestTo]
  | cons x t =>
    obtain ⟨a, ha⟩ := bestTo_pos b z (x :: t) t.length
    simp only [best, List.length_cons, ha]
    simp
/-- the best is at least as good as all -/
theorem bestTo_max {b : α → α → Bool} {z : α} {L : List α} {R : α → α → Prop} (hr : ∀ x, R x x) (ht : ∀ x y v, R x y → R y v → R x v) (h1 : ∀ x y, b x y = true → R x y) (h0 : ∀ x y, b x y = false → R y x) :
    ∀ {k a : Nat}, bestTo b z L k = some a → ∀ i, i < k → R (L.getD a z) (L.getD i z)
  | 0, a, h, i, hi => by omega
  | k + 1, a, h, i, hi => by
    simp only [bestTo] at h
    cases hc : bestTo b z L k with
    | none =>
      rw [hc] at h
      simp [step] at h
      subst h
      have : k = 0 := by
        cases k with
        | zero => rfl
        | succ j => obtain ⟨c, hc'⟩ := bestTo_pos b z L j; rw [hc'] at hc; cases hc
      have : i = k := by omega
      subst this
      exact hr _
    | some c =>
      rw [hc] at h
      simp only [step] at h
      have ih := bestTo_max (R := R) hr ht h1 h0 hc
      split at h
      · next hb =>
        simp only [Option.some.injEq] at h
        subst h
        by_cases e : i = k
        · subst e; exact hr _
        · exact ht _ _ _ (h1 _ _ hb) (ih i (by omega))
      · next hb =>
        simp only [Option.some.injEq] at h
        subst h
        by_cases e : i = k
        · subst e; exact h0 _ _ (by simpa using hb)
        · exact ih i (by omega)
theorem amt_of {x y : α} : higher amt sm tx x y = true → amt y ≤ amt x := by
  unfold higher
  split
  · simp; omega
  · intro _; next h => simp at h; omega
theorem amt_not {x y : α} : higher amt sm tx x y = false → amt x ≤ amt y := by
  unfold higher
  split
  · simp
  · intro _; next h => simp at h; omega
theorem list_tri (x y : List UInt8) : x < y ∨ x = y ∨ y < x := by
  rcases List.le_total x y with h | h
  · by_cases e : y < x
    · exact absurd e (List.not_lt.2 h)
    · by_cases e2 : x < y
      · exact .inl e2
      · exact .inr (.inl (List.le_antisymm (List.not_lt.1 e) (List.not_lt.1 e2)))
  · by_cases e : y < x
    · exact .inr (.inr e)
    · by_cases e2 : x < y
      · exact .inl e2
      · exact .inr (.inl (List.le_antisymm (List.not_lt.1 e) (List.not_lt.1 e2)))
/-- at least as good -/
def ge (amt : α → Int) (sm tx : α → List UInt8) (x y : α) : Prop := higher amt sm tx y x = false
theorem ge_refl (x : α) : ge amt sm tx x x := by
  unfold ge higher
  simp [List.lt_irrefl]
theorem ge_of {x y : α} (h : higher amt sm tx x y = true) : ge amt sm tx x y := by
  unfold ge
  unfold higher at h ⊢
  by_cases e : amt x = amt y
  · rw [if_neg (by simp [e])] at h
    rw [if_neg (by simp [e])]
    by_cases e2 : sm x = sm y
    · rw [if_neg (by simp [e2])] at h
      rw [if_neg (by simp [e2])]
      simp only [decide_eq_true_eq] at h
      simp only [decide_eq_false_iff_not]
      exact List.lt_asymm h
    · rw [if_pos e2] at h
      rw [if_pos (Ne.symm e2)]
      simp only [decide_eq_true_eq] at h
      simp only [decide_eq_false_iff_not]
      exact List.lt_asymm h
  · rw [if_pos e] at h
    rw [if_pos (Ne.symm e)]
    simp only [decide_eq_true_eq] at h
    simp only [decide_eq_false_iff_not]
    omega
theorem ge_iff {x y : α} : ge amt sm tx x y ↔ amt y < amt x ∨ (amt x = amt y ∧ (sm x < sm y ∨ (sm x = sm y ∧ ¬ tx y < tx x))) := by
  unfold ge higher
  by_cases e : amt y = amt x
  · rw [if_neg (by simp [e])]
    by_cases e2 : sm y = sm x
    · rw [if_neg (by simp [e2])]
      simp [e, e2, List.lt_irrefl]
    · rw [if_pos e2]
      simp only [decide_eq_false_iff_not]
      rcases list_tri (sm x) (sm y) with h | h | h
      · simp [e, h, List.lt_asymm h]
      · exact absurd h.symm e2
      · simp [e, h, List.lt_asymm h, Ne.symm e2]
  · rw [if_pos e]
    simp only [decide_eq_false_iff_not]
    constructor
    · intro h; left; omega
    · rintro (h | ⟨h, _⟩) <;> omega
theorem ge_trans {x y v : α} (h : ge amt sm tx x y) (k : ge amt sm tx y v) : ge amt sm tx x v := by
  rw [ge_iff] at h k ⊢
  rcases h with h | ⟨h, h2⟩
  · left
    rcases k with k | ⟨k, _⟩ <;> omega
  · rcases k with k | ⟨k, k2⟩
    · left; omega
    · right
      refine ⟨by omega, ?_⟩
      rcases h2 with h2 | ⟨h2, h3⟩
      · left
        rcases k2 with k2 | ⟨k2, _⟩
        · exact List.lt_trans h2 k2
        · rw [← k2]; exact h2
      · rcases k2 with k2 | ⟨k2, k3⟩
        · left; rw [h2]; exact k2
        · right
          refine ⟨h2.trans k2, fun hh => ?_⟩
          exact h3 (by
            rcases list_tri (tx y) (tx v) with q | q | q
            · exact List.lt_trans q hh
            · rw [q]; exact hh
            · exact absurd q k3)
/-- the best one is unique, where the texts tell elements apart -/
theorem ge_anti {x y : α} (h : ge amt sm tx x y) (k : ge amt sm tx y x) : tx x = tx y := by
  rw [ge_iff] at h k
  rcases h with h | ⟨h, h2⟩
  · rcases k with k | ⟨k, _⟩ <;> omega
  · rcases k with k | ⟨k, k2⟩
    · omega
    · rcases h2 with h2 | ⟨h2, h3⟩
      · rcases k2 with k2 | ⟨k2, _⟩
        · exact absurd k2 (List.lt_asymm h2)
        · rw [k2] at h2; exact absurd h2 (List.lt_irrefl _)
      · rcases k2 with k2 | ⟨k2, k3⟩
        · rw [h2] at k2; exact absurd k2 (List.lt_irrefl _)
        · rcases list_tri (tx x) (tx y) with q | q | q
          · exact absurd q k3
          · exact q
          · exact absurd q h3
/-- who wins, and what it pays -/
def win (amt : α → Int) (sm tx : α → List UInt8) (z : α) (floor : Int) (L : List α) : Option (α × Int) :=
  match best (higher amt sm tx) z L with
  | none => none
  | some a => some (L.getD a z, match best (higher amt sm tx) z (L.eraseIdx a) with
    | none => floor
    | some c => amt ((L.eraseIdx a).getD c z))
/-- the plain price -/
def priceTo (amt : α → Int) (z : α) (floor : Int) (a : Nat) (L : List α) : Nat → Int
  | 0 => floor
  | i + 1 => if i ≠ a ∧ priceTo amt z floor a L i < amt (L.getD i z) then amt (L.getD i z) else priceTo amt z floor a L i
theorem priceTo_ge {z : α} {floor : Int} {a : Nat} {L : List α} (k : Nat) : floor ≤ priceTo amt z floor a L k := by
  induction k with
  | zero => exact Int.le_refl _
  | succ k ih => simp only [priceTo]; split <;> omega
theorem priceTo_max {z : α} {floor : Int} {a : Nat} {L : List α} (k : Nat) : ∀ i, i < k → i ≠ a → amt (L.getD i z) ≤ priceTo amt z floor a L k := by
  induction k with
  | zero => intro i h; omega
  | succ k ih =>
    intro i h hi
    simp only [priceTo]
    by_cases e : i = k
    · subst e
      split <;> omega
    · have := ih i (by omega) hi
      split <;> omega
theorem priceTo_is {z : α} {floor : Int} {a : Nat} {L : List α} (k : Nat) : priceTo amt z floor a L k = floor ∨ ∃ i, i < k ∧ i ≠ a ∧ priceTo amt z floor a L k = amt (L.getD i z) := by
  induction k with
  | zero => exact .inl rfl
  | succ k ih =>
    simp only [priceTo]
    split
    · next h => exact .inr ⟨k, by omega, h.1, rfl⟩
    · rcases ih with h | ⟨i, h1, h2, h3⟩
      · exact .inl h
      · exact .inr ⟨i, by omega, h2, h3⟩
/-- what lies beside a place -/
theorem erase_at {z : α} {L : List α} {a c : Nat} (hc : c < (L.eraseIdx a).length) : ∃ i, i < L.length ∧ i ≠ a ∧ (L.eraseIdx a).getD c z = L.getD i z := by
  by_cases h : c < a
  · refine ⟨c, ?_, by omega, ?_⟩
    · have := List.length_eraseIdx_le L a; omega
    · rw [List.getD_eq_getElem?_getD, List.getD_eq_getElem?_getD, List.getElem?_eraseIdx_of_lt h]
  · by_cases ha : a < L.length
    · rw [List.length_eraseIdx_of_lt ha] at hc
      exact ⟨c + 1, by omega, by omega, by rw [List.getD_eq_getElem?_getD, List.getD_eq_getElem?_getD, List.getElem?_eraseIdx_of_ge (by omega)]⟩
    · rw [List.eraseIdx_of_length_le (by omega)] at hc
      omega
theorem erase_of {z : α} {L : List α} {a i : Nat} (hi : i < L.length) (h : i ≠ a) : ∃ c, c < (L.eraseIdx a).length ∧ (L.eraseIdx a).getD c z = L.getD i z := by
  by_cases h2 : i < a
  · refine ⟨i, ?_, ?_⟩
    · by_cases ha : a < L.length
      · rw [List.length_eraseIdx_of_lt ha]; omega
      · rw [List.eraseIdx_of_length_le (by omega)]; exact hi
    · rw [List.getD_eq_getElem?_getD, List.getD_eq_getElem?_getD, List.getElem?_eraseIdx_of_lt h2]
  · refine ⟨i - 1, ?_, ?_⟩
    · rw [List.length_eraseIdx_of_lt (by omega)]; omega
    · rw [List.getD_eq_getElem?_getD, List.getD_eq_getElem?_getD, List.getElem?_eraseIdx_of_ge (by omega), show i - 1 + 1 = i by omega]
theorem amt_max {z : α} {L : List α} {a : Nat} (h : best (higher amt sm tx) z L = some a) (i : Nat) (hi : i < L.length) : amt (L.getD i z) ≤ amt (L.getD a z) :=
  bestTo_max (R := fun x y => amt y ≤ amt x) (fun _ => Int.le_refl _) (fun _ _ _ h1 h2 => Int.le_trans h2 h1) (fun _ _ h => amt_of h) (fun _ _ h => amt_not h) h i hi
theorem ge_max {z : α} {L : List α} {a : Nat} (h : best (higher amt sm tx) z L = some a) (i : Nat) (hi : i < L.length) : ge amt sm tx (L.getD a z) (L.getD i z) :=
  bestTo_max (R := ge amt sm tx) ge_refl (fun _ _ _ => ge_trans) (fun _ _ h => ge_of h) (fun _ _ h => h) h i hi
theorem getD_mem {z : α} {L : List α} {i : Nat} (h : i < L.length) : L.getD i z ∈ L := by
  rw [List.getD_eq_getElem?_getD, List.getElem?_eq_getElem h]; exact List.getElem_mem h
/-- the plain price is the winner's -/
theorem win_plain {z : α} {floor : Int} {L : List α} {a : Nat} (hf : ∀ x ∈ L, floor ≤ amt x) (h : best (higher amt sm tx) z L = some a) : win amt sm tx z floor L = some (L.getD a z, priceTo amt z floor a L L.length) := by
  unfold win
  rw [h]
  simp only [Option.some.injEq, Prod.mk.injEq, true_and]
  cases hc : best (higher amt sm tx) z (L.eraseIdx a) with
  | none =>
    rw [best_none] at hc
    simp only
    rcases priceTo_is (amt := amt) (z := z) (floor := floor) (a := a) (L := L) L.length with e | ⟨i, h1, h2, h3⟩
    · exact e.symm
    · obtain ⟨c, hc2, _⟩ := erase_of (z := z) h1 h2
      rw [hc] at hc2
      simp at hc2
  | some c =>
    simp only
    have hlt : c < (L.eraseIdx a).length := bestTo_lt hc
    obtain ⟨i, h1, h2, h3⟩ := erase_at (z := z) hlt
    have hle : amt ((L.eraseIdx a).getD c z) ≤ priceTo amt z floor a L L.length := by rw [h3]; exact priceTo_max _ i h1 h2
    rcases priceTo_is (amt := amt) (z := z) (floor := floor) (a := a) (L := L) L.length with e | ⟨j, j1, j2, j3⟩
    · have := hf _ (getD_mem (z := z) h1)
      rw [← h3] at this
      omega
    · obtain ⟨d, d1, d2⟩ := erase_of (z := z) j1 j2
      have := amt_max hc d d1
      rw [d2] at this
      omega
theorem win_none {z : α} {floor : Int} {L : List α} : win amt sm tx z floor L = none ↔ L = [] := by
  unfold win
  cases h : best (higher amt sm tx) z L with
  | none => simp only [true_iff]; exact best_none.1 h
  | some a =>
    simp only [reduceCtorEq, false_iff]
    intro e
    rw [best_none.2 e] at h
    cases h
/-- what a winner is -/
structure Won (amt : α → Int) (sm tx : α → List UInt8) (floor : Int) (L : List α) (x : α) (p : Int) : Prop where
  mem : x ∈ L
  ge : ∀ y ∈ L, ge amt sm tx x y
  low : floor ≤ p
  is : p = floor ∨ ∃ y ∈ L, y ≠ x ∧ p = amt y
  max : ∀ y ∈ L, y ≠ x → amt y ≤ p
theorem win_won {z : α} {floor : Int} {L : List α} (hf : ∀ x ∈ L, floor ≤ amt x) (hd : L.Nodup) {x : α} {p : Int} (h : win amt sm tx z floor L = some (x, p)) : Won amt sm tx floor L x p := by
  cases hb : best (higher amt sm tx) z L with
  | none => rw [win_none.2 (best_none.1 hb)] at h; cases h
  | some a =>
    rw [win_plain hf hb] at h
    simp only [Option.some.injEq, Prod.mk.injEq] at h
    obtain ⟨rfl, rfl⟩ := h
    have ha : a < L.length := bestTo_lt hb
    have hat : ∀ y ∈ L, ∃ i, i < L.length ∧ L.getD i z = y := fun y hy => by
      obtain ⟨i, hi, e⟩ := List.getElem_of_mem hy
      exact ⟨i, hi, by rw [List.getD_eq_getElem?_getD, List.getElem?_eq_getElem hi]; exact e⟩
    refine ⟨getD_mem ha, fun y hy => ?_, priceTo_ge _, ?_, fun y hy hne => ?_⟩
    · obtain ⟨i, hi, rfl⟩ := hat y hy
      exact ge_max hb i hi
    · rcases priceTo_is (amt := amt) (z := z) (floor := floor) (a := a) (L := L) L.length with e | ⟨i, h1, h2, h3⟩
      · exact .inl e
      · refine .inr ⟨L.getD i z, getD_mem h1, fun e => h2 ?_, h3⟩
        rw [List.getD_eq_getElem?_getD, List.getD_eq_getElem?_getD, List.getElem?_eq_getElem h1, List.getElem?_eq_getElem ha] at e
        exact (List.getElem_inj hd).1 e
    · obtain ⟨i, hi, rfl⟩ := hat y hy
      exact priceTo_max _ i hi (fun e => hne (by rw [e]))
theorem Won.unique {floor : Int} {L L' : List α} (hm : ∀ x, x ∈ L ↔ x ∈ L') (ht : ∀ x ∈ L, ∀ y ∈ L, tx x = tx y → x = y) {x y : α} {p q : Int} (h : Won amt sm tx floor L x p) (k : Won amt sm tx floor L' y q) : x = y ∧ p = q := by
  have e : x = y := ht x h.mem y ((hm y).2 k.mem) (ge_anti (h.ge y ((hm y).2 k.mem)) (k.ge x ((hm x).1 h.mem)))
  subst e
  refine ⟨rfl, ?_⟩
  have h1 : p ≤ q := by
    rcases h.is with e | ⟨y, hy, hne, e⟩
    · have := k.low; omega
    · have := k.max y ((hm y).1 hy) hne; omega
  have h2 : q ≤ p := by
    rcases k.is with e | ⟨y, hy, hne, e⟩
    · have := h.low; omega
    · have := h.max y ((hm y).2 hy) hne; omega
  omega
/-- which bids count -/
def cstep (ok : α → Bool) (who : α → Int) (out : List α) (b : α) : List α := if (ok b && !(out.any fun x => who x == who b)) = true then out ++ [b] else out
def counts (ok : α → Bool) (who : α → Int) (L : List α) : List α := L.foldl (cstep ok who) []
def countsTo (ok : α → Bool) (who : α → Int) (L : List α) (k : Nat) : List α := counts ok who (L.take k)
theorem countsTo_zero (ok : α → Bool) (who : α → Int) (L : List α) : countsTo ok who L 0 = [] := rfl
theorem countsTo_succ (ok : α → Bool) (who : α → Int) (L : List α) (k : Nat) (hk : k < L.length) : countsTo ok who L (k + 1) = cstep ok who (countsTo ok who L k) L[k] := by
  unfold countsTo counts
  rw [List.take_add_one, List.getElem?_eq_getElem hk, Option.toList_some, List.foldl_append]
  rfl
theorem countsTo_all (ok : α → Bool) (who : α → Int) (L : List α) : countsTo ok who L L.length = counts ok who L := by unfold countsTo; rw [List.take_length]
theorem counts_push (ok : α → Bool) (who : α → Int) (L : List α) (x : α) : counts ok who (L ++ [x]) = cstep ok who (counts ok who L) x := by unfold counts; rw [List.foldl_append]; rfl
theorem countsTo_len (ok : α → Bool) (who : α → Int) (L : List α) (k : Nat) : (countsTo ok who L k).length ≤ k := by
  induction k with
  | zero => simp [countsTo_zero]
  | succ k ih =>
    by_cases hk : k < L.length
    · rw [countsTo_succ ok who L k hk]
      unfold cstep
      split
      · rw [List.length_append]; simp; omega
      · omega
    · have : countsTo ok who L (k + 1) = countsTo ok who L k := by
        unfold countsTo
        rw [List.take_of_length_le (by omega), List.take_of_length_le (by omega)]
      rw [this]; omega
theorem foldl_mem (ok : α → Bool) (who : α → Int) : ∀ (L acc : List α) (x : α), x ∈ L.foldl (cstep ok who) acc → x ∈ acc ∨ (x ∈ L ∧ ok x = true)
  | [], acc, x, h => .inl h
  | b :: L, acc, x, h => by
    rcases foldl_mem ok who L _ x h with h | ⟨h1, h2⟩
    · unfold cstep at h
      split at h
      · next hc =>
        rcases List.mem_append.1 h with h | h
        · exact .inl h
        · simp only [List.mem_singleton] at h
          subst h
          simp only [Bool.and_eq_true] at hc
          exact .inr ⟨by simp, hc.1⟩
      · exact .inl h
    · exact .inr ⟨by simp [h1], h2⟩
theorem counts_mem {ok : α → Bool} {who : α → Int} {L : List α} {x : α} (h : x ∈ counts ok who L) : x ∈ L ∧ ok x = true := by
  rcases foldl_mem ok who L [] x h with h | h
  · cases h
  · exact h
theorem counts_nodup (ok : α → Bool) (who : α → Int) (L : List α) : ∀ acc : List α, (acc.Pairwise fun x y => who x ≠ who y) → ((L.foldl (cstep ok who) acc).Pairwise fun x y => who x ≠ who y) := by
  induction L with
  | nil => intro acc h; exact h
  | cons b L ih =>
    intro acc h
    refine ih _ ?_
    unfold cstep
    split
    · next hc =>
      simp only [Bool.and_eq_true, Bool.not_eq_true', List.any_eq_false, beq_iff_eq] at hc
      rw [List.pairwise_append]
      exact ⟨h, by simp, fun x hx y hy => by simp only [List.mem_singleton] at hy; subst hy; exact hc.2 x hx⟩
    · exact h
theorem counts_apart (ok : α → Bool) (who : α → Int) (L : List α) : (counts ok who L).Pairwise fun x y => who x ≠ who y := counts_nodup ok who L [] List.Pairwise.nil
theorem nodup_of {who : α → Int} {L : List α} (h : L.Pairwise fun x y => who x ≠ who y) : L.Nodup := h.imp (fun h e => h (by rw [e]))
theorem apart_who {who : α → Int} {L : List α} (h : L.Pairwise fun x y => who x ≠ who y) : ∀ x ∈ L, ∀ y ∈ L, who x = who y → x = y := by
  induction h with
  | nil => intro x hx; cases hx
  | @cons a l h1 h2 ih =>
    intro x hx y hy e
    rcases List.mem_cons.1 hx with e1 | hx
    · rcases List.mem_cons.1 hy with e2 | hy
      · rw [e1, e2]
      · rw [e1] at e; exact absurd e (h1 y hy)
    · rcases List.mem_cons.1 hy with e2 | hy
      · rw [e2] at e; exact absurd e.symm (h1 x hx)
      · exact ih x hx y hy e
/-- of bids of different accounts, those that count are those that may -/
theorem foldl_all (ok : α → Bool) (who : α → Int) : ∀ (L acc : List α), (acc ++ L).Pairwise (fun x y => who x ≠ who y) → L.foldl (cstep ok who) acc = acc ++ L.filter ok
  | [], acc, _ => by simp
  | b :: L, acc, h => by
    have e : cstep ok who acc b = acc ++ [b].filter ok := by
      unfold cstep
      by_cases hb : ok b = true
      · have : (acc.any fun x => who x == who b) = false := by
          rw [List.any_eq_false]
          intro x hx
          rw [beq_iff_eq]
          exact (List.pairwise_append.1 h).2.2 x hx b (by simp)
        rw [if_pos (by rw [hb, this]; rfl)]
        simp [hb]
      · rw [if_neg (by simp [hb])]
        simp [hb]
    rw [List.foldl_cons, e, foldl_all ok who L _ ?_]
    · rw [List.append_assoc, ← List.filter_append]; rfl
    · have h2 : (acc ++ [b].filter ok ++ L).Sublist (acc ++ b :: L) := by
        rw [List.append_assoc]
        refine List.Sublist.append (List.Sublist.refl _) ?_
        rw [show b :: L = [b] ++ L from rfl]
        exact List.Sublist.append (List.filter_sublist) (List.Sublist.refl _)
      exact h.sublist h2
theorem counts_all {ok : α → Bool} {who : α → Int} {L : List α} (h : L.Pairwise fun x y => who x ≠ who y) : counts ok who L = L.filter ok := by
  have := foldl_all ok who L [] (by simpa using h)
  simpa [counts] using this
/-- the order plays no part -/
theorem win_perm {z : α} {floor : Int} {ok : α → Bool} {who : α → Int} {L L' : List α} (hp : L.Perm L') (hd : L.Pairwise fun x y => who x ≠ who y) (hf : ∀ x, ok x = true → floor ≤ amt x) (ht : ∀ x y, ok x = true → ok y = true → tx x = tx y → x = y) :
    win amt sm tx z floor (counts ok who L) = win amt sm tx z floor (counts ok who L') := by
  have hd' : L'.Pairwise fun x y => who x ≠ who y := hp.pairwise hd (fun h e => h e.symm)
  have hm : ∀ x, x ∈ counts ok who L ↔ x ∈ counts ok who L' := fun x => by
    rw [counts_all hd, counts_all hd', List.mem_filter, List.mem_filter, hp.mem_iff]
  cases h1 : win amt sm tx z floor (counts ok who L) with
  | none =>
    rw [win_none] at h1
    symm
    rw [win_none]
    refine List.eq_nil_iff_forall_not_mem.2 fun x hx => ?_
    rw [← hm, h1] at hx
    cases hx
  | some w1 =>
    obtain ⟨x, p⟩ := w1
    cases h2 : win amt sm tx z floor (counts ok who L') with
    | none =>
      rw [win_none] at h2
      have hx := (win_won (fun x hx => hf x (counts_mem hx).2) (nodup_of (counts_apart ok who L)) h1).mem
      rw [hm, h2] at hx
      cases hx
    | some w2 =>
      obtain ⟨y, q⟩ := w2
      have k1 := win_won (fun x hx => hf x (counts_mem hx).2) (nodup_of (counts_apart ok who L)) h1
      have k2 := win_won (fun x hx => hf x (counts_mem hx).2) (nodup_of (counts_apart ok who L')) h2
      obtain ⟨rfl, rfl⟩ := k1.unique hm (fun x hx y hy => ht x y (counts_mem hx).2 (counts_mem hy).2) k2
      rfl
/-- a lower bid of somebody new -/
theorem win_more {z : α} {floor : Int} {ok : α → Bool} {who : α → Int} {L : List α} {b x : α} {p : Int} (hf : ∀ x, ok x = true → floor ≤ amt x) (ht : ∀ x y, ok x = true → ok y = true → tx x = tx y → x = y)
    (h : win amt sm tx z floor (counts ok who L) = some (x, p)) (hb : amt b < amt x) : ∃ q, win amt sm tx z floor (counts ok who (L ++ [b])) = some (x, q) ∧ p ≤ q := by
  rw [counts_push]
  unfold cstep
  split
  · next hc =>
    have k := win_won (fun x hx => hf x (counts_mem hx).2) (nodup_of (counts_apart ok who L)) h
    have hmem : ∀ y ∈ counts ok who L ++ [b], ok y = true := fun y hy => by
      rcases List.mem_append.1 hy with hy | hy
      · exact (counts_mem hy).2
      · simp only [List.mem_singleton] at hy
        subst hy
        simp only [Bool.and_eq_true] at hc
        exact hc.1
    have hnd : (counts ok who L ++ [b]).Nodup := by
      have := counts_apart ok who (L ++ [b])
      rw [counts_push, cstep, if_pos hc] at this
      exact nodup_of this
    cases h2 : win amt sm tx z floor (counts ok who L ++ [b]) with
    | none => rw [win_none] at h2; simp at h2
    | some w2 =>
      obtain ⟨y, q⟩ := w2
      have k2 := win_won (fun x hx => hf x (hmem x hx)) hnd h2
      have hxy : ge amt sm tx y x := k2.ge x (by simp [k.mem])
      have hyx : ge amt sm tx x y := by
        rcases List.mem_append.1 k2.mem with hy | hy
        · exact k.ge y hy
        · simp only [List.mem_singleton] at hy
          subst hy
          rw [ge_iff]
          exact .inl hb
      have e : x = y := ht x y (counts_mem k.mem).2 (hmem y k2.mem) (ge_anti hyx hxy)
      subst e
      refine ⟨q, rfl, ?_⟩
      rcases k.is with e | ⟨v, hv, hne, e⟩
      · have := k2.low; omega
      · have := k2.max v (by simp [hv]) hne; omega
  · exact ⟨p, h, Int.le_refl _⟩
end Au
end Go.Proofs.YtlapmdgkcidhnaaDoor
