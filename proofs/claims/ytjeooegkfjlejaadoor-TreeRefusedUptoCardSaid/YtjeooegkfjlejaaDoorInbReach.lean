/- What a call reaches, as plain data. -/
import Derived.WalkKit
namespace Go.Proofs.YtjeooegkfjlejaaDoor
set_option linter.unusedVariables false
namespace Inb
/-- how many of the first entries are low enough -/
def low (B : Int) : List Int → Nat
  | [] => 0
  | x :: r => if x ≤ B then low B r + 1 else 0
def reach (l : List Int) (n at_ wait : Int) : Int :=
  if n < 0 ∨ wait < 0 ∨ at_ < -9223372036854775808 + wait then 0 else (low (at_ - wait) (l.take n.toNat) : Int)
theorem low_le (B : Int) : ∀ l : List Int, low B l ≤ l.length
  | [] => Nat.le_refl 0
  | x :: r => by
    unfold low
    split
    · have := low_le B r
      simp only [List.length_cons]; omega
    · exact Nat.zero_le _
theorem low_mono {B C : Int} (h : B ≤ C) : ∀ l m : List Int, l <+: m → low B l ≤ low C m
  | [], _, _ => Nat.zero_le _
  | x :: r, m, hp => by
    obtain ⟨t, rfl⟩ := hp
    show low B (x :: r) ≤ low C (x :: (r ++ t))
    unfold low
    by_cases h1 : x ≤ B
    · rw [if_pos h1, if_pos (by omega)]
      have := low_mono h r (r ++ t) (List.prefix_append _ _)
      omega
    · rw [if_neg h1]; exact Nat.zero_le _
/-- all of the first k are low -/
theorem low_take {B : Int} : ∀ (l : List Int) (k : Nat), k ≤ l.length → (∀ i (h : i < l.length), i < k → l[i] ≤ B) → (∀ h : k < l.length, B < l[k]) → low B l = k
  | [], k, hk, _, _ => by simp at hk; subst hk; rfl
  | x :: r, 0, _, _, h => by
    have := h (by simp)
    simp only [List.getElem_cons_zero] at this
    unfold low
    rw [if_neg (by omega)]
  | x :: r, k + 1, hk, h, h2 => by
    have h0 := h 0 (by simp) (by omega)
    simp only [List.getElem_cons_zero] at h0
    unfold low
    rw [if_pos h0, low_take r k (by simpa using hk) (fun i hi hik => by have := h (i + 1) (by simpa using hi) (by omega); simpa using this) (fun hi => by have := h2 (by simpa using hi); simpa using this)]
theorem low_at {B : Int} {l : List Int} {m k : Nat} (hk : k < m) (hkl : k < l.length) (h : ∀ i (h : i < l.length), i < k → l[i] ≤ B) (h2 : B < l[k]) : low B (l.take m) = k := by
  refine low_take _ _ (by rw [List.length_take]; omega) (fun i hi hik => ?_) (fun hi => ?_)
  · rw [List.getElem_take]; exact h i (by rw [List.length_take] at hi; omega) hik
  · rw [List.getElem_take]; exact h2
theorem low_all {B : Int} {l : List Int} {m : Nat} (h : ∀ i (h : i < l.length), i < m → l[i] ≤ B) : low B (l.take m) = min m l.length := by
  refine low_take _ _ (by rw [List.length_take]; omega) (fun i hi hik => ?_) (fun hi => ?_)
  · rw [List.getElem_take]
    rw [List.length_take] at hi
    exact h i (by omega) (by omega)
  · rw [List.length_take] at hi; omega
theorem reach_nonneg (l : List Int) (n a w : Int) : 0 ≤ reach l n a w := by unfold reach; split <;> omega
theorem reach_len (l : List Int) (n a w : Int) : reach l n a w ≤ l.length := by
  unfold reach
  split
  · omega
  · have := low_le (a - w) (l.take n.toNat)
    rw [List.length_take] at this
    omega
theorem reach_n (l : List Int) (n a w : Int) : reach l n a w ≤ max n 0 := by
  unfold reach
  split
  · omega
  · have := low_le (a - w) (l.take n.toNat)
    rw [List.length_take] at this
    omega
theorem reach_mono (l : List Int) (n a w n' a' w' : Int) (h1 : n ≤ n') (h2 : a ≤ a') (h3 : w' ≤ w) (h4 : 0 ≤ w') : reach l n a w ≤ reach l n' a' w' := by
  unfold reach
  split
  · split <;> omega
  · next h =>
    rw [if_neg (by omega)]
    have := low_mono (B := a - w) (C := a' - w') (by omega) (l.take n.toNat) (l.take n'.toNat) (List.take_prefix_take_left (by omega))
    omega
end Inb
end Go.Proofs.YtjeooegkfjlejaaDoor
