/- Layer 22's laws PostAgain and PostCovers: mathematics. -/
import Derived.Test.YtedncgidjllapaaPostAwk
namespace Go.Proofs.Ytedncgidjllapaa
set_option linter.unusedVariables false
set_option linter.unusedSimpArgs false
namespace Post
theorem many_one (seq : Int) : many 1 seq (seq + 1) = 1 := by unfold many; omega
theorem look_one (f : Out) (p h seq : Int) (h0 : 0 ≤ h) (s0 : 0 ≤ seq) :
    look f p 1 h seq (seq + 1) = ((if dueB f p seq h = true then [seq] else []), after (trim f seq) p h seq 1) := by
  unfold look bad
  have e1 : (decide (h < 0) || (decide (seq < 0) || decide (seq + 1 < 0))) = false := by
    simp only [Bool.or_eq_false_iff, decide_eq_false_iff_not]; omega
  have e3 : trim f seq seq = f seq := by unfold trim; rw [if_neg (by omega)]
  have e2 : dueB (trim f seq) p (seq + ((0 : Nat) : Int)) h = dueB f p seq h := by
    have : seq + ((0 : Nat) : Int) = seq := by omega
    rw [this]
    unfold dueB; rw [e3]
  rw [e1, if_neg Bool.false_ne_true, many_one]
  congr 1
  show (if dueB (trim f seq) p (seq + ((0 : Nat) : Int)) h = true then [] ++ [seq + ((0 : Nat) : Int)] else []) = _
  rw [e2]
  simp
theorem after_one (f : Out) (p h seq : Int) : after (trim f seq) p h seq 1 seq = if dueB f p seq h = true then some h else f seq := by
  have e3 : trim f seq seq = f seq := by unfold trim; rw [if_neg (by omega)]
  have e2 : dueB (trim f seq) p seq h = dueB f p seq h := by unfold dueB; rw [e3]
  unfold after
  rw [e2, e3]
  by_cases hd : dueB f p seq h = true
  · rw [if_pos ⟨by omega, by omega, hd⟩, if_pos hd]
  · rw [if_neg (fun e => hd e.2.2), if_neg hd]
/-- when it was handed over last -/
def last (at_ : Int) (n : Nat) : Nat → Option Int
  | 0 => none
  | k + 1 => some (at_ + ((n * (k / n) : Nat) : Int))
theorem due_last (f : Out) (at_ seq : Int) (n k : Nat) (hn : 1 ≤ n) (hf : f seq = last at_ n k) : dueB f (n : Int) seq (at_ + k) = decide (k % n = 0) := by
  unfold dueB
  rw [hf]
  cases k with
  | zero => simp [last]
  | succ k =>
    simp only [last]
    have hd := Nat.div_add_mod k n
    have hm := Nat.mod_lt k (show 0 < n by omega)
    generalize hq : n * (k / n) = q at *
    have e1 : decide (at_ + ((k + 1 : Nat) : Int) < at_ + (q : Int)) = false := by simp only [decide_eq_false_iff_not]; omega
    rw [e1, Bool.false_or]
    have e2 : (k + 1) % n = 0 ↔ k % n + 1 = n := by
      rw [Nat.add_mod]
      by_cases h1 : n = 1
      · subst h1; omega
      · rw [Nat.mod_eq_of_lt (show 1 < n by omega)]
        by_cases h2 : k % n + 1 = n
        · rw [h2, Nat.mod_self]; simp
        · rw [Nat.mod_eq_of_lt (by omega)]; omega
    rw [Bool.eq_iff_iff, decide_eq_true_eq, decide_eq_true_eq, e2]
    omega
theorem last_next (f : Out) (at_ seq : Int) (n k : Nat) (hn : 1 ≤ n) (hf : f seq = last at_ n k) :
    (if dueB f (n : Int) seq (at_ + k) = true then some (at_ + (k : Int)) else f seq) = last at_ n (k + 1) := by
  rw [due_last f at_ seq n k hn hf]
  unfold last
  by_cases h : k % n = 0
  · rw [if_pos (by simpa using h)]
    have hd := Nat.div_add_mod k n
    congr 2
    omega
  · rw [if_neg (by simpa using h), hf]
    cases k with
    | zero => simp at h
    | succ k =>
      simp only [last]
      congr 3
      have : (k + 1) / n = k / n := by
        rw [Nat.succ_div, if_neg]
        · rfl
        · intro hdv
          exact h (Nat.mod_eq_zero_of_dvd hdv)
      rw [this]
/-- where nothing has been told yet, all is told -/
theorem list_all (f : Out) (p h landed : Int) (hf : ∀ x, landed ≤ x → f x = none) : ∀ m, (list f p h landed m).length = m ∧ ∀ i, i < m → (list f p h landed m).getD i 0 = landed + i
  | 0 => ⟨rfl, fun i hi => absurd hi (by omega)⟩
  | m + 1 => by
    have ih := list_all f p h landed hf m
    have hd : dueB f p (landed + m) h = true := by unfold dueB; rw [hf _ (by omega)]
    unfold list
    rw [if_pos hd]
    refine ⟨by rw [List.length_append, ih.1]; rfl, fun i hi => ?_⟩
    by_cases him : i < m
    · have : (list f p h landed m ++ [landed + (m : Int)]).getD i 0 = (list f p h landed m).getD i 0 := by simp [List.getD, List.getElem?_append, ih.1, him]
      rw [this]; exact ih.2 i him
    · obtain rfl : i = m := by omega
      simp [List.getD, ih.1]
theorem look_all (f : Out) (p win h landed cuts : Int) (h0 : 0 ≤ h) (l0 : 0 ≤ landed) (c0 : 0 ≤ cuts) (hf : ∀ x, landed ≤ x → f x = none) :
    (look f p win h landed cuts).1.length = many win landed cuts ∧ (∀ i, i < many win landed cuts → (look f p win h landed cuts).1.getD i 0 = landed + i) ∧
      ∀ x, landed + many win landed cuts ≤ x → (look f p win h landed cuts).2 x = none := by
  unfold look bad
  have e1 : (decide (h < 0) || (decide (landed < 0) || decide (cuts < 0))) = false := by
    simp only [Bool.or_eq_false_iff, decide_eq_false_iff_not]; omega
  rw [e1, if_neg Bool.false_ne_true]
  have ht : ∀ x, landed ≤ x → trim f landed x = none := fun x hx => by unfold trim; rw [if_neg (by omega)]; exact hf x hx
  have := list_all (trim f landed) p h landed ht (many win landed cuts)
  refine ⟨this.1, this.2, fun x hx => ?_⟩
  show after _ _ _ _ _ x = none
  unfold after
  rw [if_neg (by omega)]
  exact ht x (by omega)
end Post
end Go.Proofs.Ytedncgidjllapaa
