/- notes: itemMayBe. -/
import Derived.Test.YtdekcicgiflnbaaDoorNoNums
namespace Go.Proofs.YtdekcicgiflnbaaDoor
open Go.RowKit
set_option linter.unusedVariables false
set_option linter.unusedSimpArgs false

def Item.v (kd who n : Int) (s : ByteArray) : Value := .agg #[.int .i64 kd, .int .i64 who, .int .i64 n, .string s]
theorem item_a10 (kd who n : Int) (s : ByteArray) (w : World) (k1 : (kd == 1) = true) (b0 : ¬ 0 ≤ who) : Calls Tryd.prog 85 #[.agg #[.int .i64 kd, .int .i64 who, .int .i64 n, .string s]] w fun e w' => e = .returned (.bool false) ∧ Below w.heap.size w w' := by
  go_enter Tryd.func85, Tryd.ntmps85
  go_wp2_with fail
  go_ret
  exact ⟨by first | rfl | (simp; done) | (simp; omega), (Below.refl w.heap.size w).alloc (Nat.le_refl _) _⟩
theorem item_a11 (kd who n : Int) (s : ByteArray) (w : World) (k1 : (kd == 1) = true) (b0 : 0 ≤ who) (b1 : ¬ who ≤ 64) : Calls Tryd.prog 85 #[.agg #[.int .i64 kd, .int .i64 who, .int .i64 n, .string s]] w fun e w' => e = .returned (.bool false) ∧ Below w.heap.size w w' := by
  go_enter Tryd.func85, Tryd.ntmps85
  go_wp2_with fail
  go_ret
  exact ⟨by first | rfl | (simp; done) | (simp; omega), (Below.refl w.heap.size w).alloc (Nat.le_refl _) _⟩
theorem item_a12 (kd who n : Int) (s : ByteArray) (w : World) (k1 : (kd == 1) = true) (b0 : 0 ≤ who) (b1 : who ≤ 64) (n0 : (n == 0) = false) : Calls Tryd.prog 85 #[.agg #[.int .i64 kd, .int .i64 who, .int .i64 n, .string s]] w fun e w' => e = .returned (.bool false) ∧ Below w.heap.size w w' := by
  go_enter Tryd.func85, Tryd.ntmps85
  go_wp2_with fail
  go_ret
  exact ⟨by first | rfl | (simp; done) | (simp; omega), (Below.refl w.heap.size w).alloc (Nat.le_refl _) _⟩
theorem item_a13 (kd who n : Int) (s : ByteArray) (w : World) (k1 : (kd == 1) = true) (b0 : 0 ≤ who) (b1 : who ≤ 64) (n0 : (n == 0) = true) (t0 : ¬ (s.size : Int) ≤ 65472) : Calls Tryd.prog 85 #[.agg #[.int .i64 kd, .int .i64 who, .int .i64 n, .string s]] w fun e w' => e = .returned (.bool false) ∧ Below w.heap.size w w' := by
  go_enter Tryd.func85, Tryd.ntmps85
  go_wp2_with fail
  go_ret
  exact ⟨by first | rfl | (simp; done) | (simp; omega), (Below.refl w.heap.size w).alloc (Nat.le_refl _) _⟩
theorem item_a14 (kd who n : Int) (s : ByteArray) (w : World) (k1 : (kd == 1) = true) (b0 : 0 ≤ who) (b1 : who ≤ 64) (n0 : (n == 0) = true) (t0 : (s.size : Int) ≤ 65472) : Calls Tryd.prog 85 #[.agg #[.int .i64 kd, .int .i64 who, .int .i64 n, .string s]] w fun e w' => e = .returned (.bool true) ∧ Below w.heap.size w w' := by
  go_enter Tryd.func85, Tryd.ntmps85
  go_wp2_with fail
  go_ret
  exact ⟨by first | rfl | (simp; done) | (simp; omega), (Below.refl w.heap.size w).alloc (Nat.le_refl _) _⟩
theorem item_a30 (kd who n : Int) (s : ByteArray) (w : World) (k1 : (kd == 1) = false) (k3 : (kd == 3) = true) (b0 : ¬ 0 ≤ who) : Calls Tryd.prog 85 #[.agg #[.int .i64 kd, .int .i64 who, .int .i64 n, .string s]] w fun e w' => e = .returned (.bool false) ∧ Below w.heap.size w w' := by
  go_enter Tryd.func85, Tryd.ntmps85
  go_wp2_with fail
  go_ret
  exact ⟨by first | rfl | (simp; done) | (simp; omega), (Below.refl w.heap.size w).alloc (Nat.le_refl _) _⟩
theorem item_a31 (kd who n : Int) (s : ByteArray) (w : World) (k1 : (kd == 1) = false) (k3 : (kd == 3) = true) (b0 : 0 ≤ who) (b1 : ¬ who ≤ 64) : Calls Tryd.prog 85 #[.agg #[.int .i64 kd, .int .i64 who, .int .i64 n, .string s]] w fun e w' => e = .returned (.bool false) ∧ Below w.heap.size w w' := by
  go_enter Tryd.func85, Tryd.ntmps85
  go_wp2_with fail
  go_ret
  exact ⟨by first | rfl | (simp; done) | (simp; omega), (Below.refl w.heap.size w).alloc (Nat.le_refl _) _⟩
theorem item_a32 (kd who n : Int) (s : ByteArray) (w : World) (k1 : (kd == 1) = false) (k3 : (kd == 3) = true) (b0 : 0 ≤ who) (b1 : who ≤ 64) (n0 : (n == 0) = false) : Calls Tryd.prog 85 #[.agg #[.int .i64 kd, .int .i64 who, .int .i64 n, .string s]] w fun e w' => e = .returned (.bool false) ∧ Below w.heap.size w w' := by
  go_enter Tryd.func85, Tryd.ntmps85
  go_wp2_with fail
  go_ret
  exact ⟨by first | rfl | (simp; done) | (simp; omega), (Below.refl w.heap.size w).alloc (Nat.le_refl _) _⟩
theorem item_a33 (kd who n : Int) (s : ByteArray) (w : World) (k1 : (kd == 1) = false) (k3 : (kd == 3) = true) (b0 : 0 ≤ who) (b1 : who ≤ 64) (n0 : (n == 0) = true) (t0 : ¬ (s.size : Int) ≤ 65472) : Calls Tryd.prog 85 #[.agg #[.int .i64 kd, .int .i64 who, .int .i64 n, .string s]] w fun e w' => e = .returned (.bool false) ∧ Below w.heap.size w w' := by
  go_enter Tryd.func85, Tryd.ntmps85
  go_wp2_with fail
  go_ret
  exact ⟨by first | rfl | (simp; done) | (simp; omega), (Below.refl w.heap.size w).alloc (Nat.le_refl _) _⟩
theorem item_a34 (kd who n : Int) (s : ByteArray) (w : World) (k1 : (kd == 1) = false) (k3 : (kd == 3) = true) (b0 : 0 ≤ who) (b1 : who ≤ 64) (n0 : (n == 0) = true) (t0 : (s.size : Int) ≤ 65472) : Calls Tryd.prog 85 #[.agg #[.int .i64 kd, .int .i64 who, .int .i64 n, .string s]] w fun e w' => e = .returned (.bool true) ∧ Below w.heap.size w w' := by
  go_enter Tryd.func85, Tryd.ntmps85
  go_wp2_with fail
  go_ret
  exact ⟨by first | rfl | (simp; done) | (simp; omega), (Below.refl w.heap.size w).alloc (Nat.le_refl _) _⟩
theorem item_d (kd who n : Int) (s : ByteArray) (w : World) (k1 : (kd == 1) = false) (k3 : (kd == 3) = false) (k2 : (kd == 2) = false) : Calls Tryd.prog 85 #[.agg #[.int .i64 kd, .int .i64 who, .int .i64 n, .string s]] w fun e w' => e = .returned (.bool false) ∧ Below w.heap.size w w' := by
  go_enter Tryd.func85, Tryd.ntmps85
  go_wp2_with fail
  go_ret
  exact ⟨by first | rfl | (simp; done), (Below.refl w.heap.size w).alloc (Nat.le_refl _) _⟩
theorem item_c0 (kd who n : Int) (s : ByteArray) (w : World) (k1 : (kd == 1) = false) (k3 : (kd == 3) = false) (k2 : (kd == 2) = true) (b0 : (who == 0) = false) : Calls Tryd.prog 85 #[.agg #[.int .i64 kd, .int .i64 who, .int .i64 n, .string s]] w fun e w' => e = .returned (.bool false) ∧ Below w.heap.size w w' := by
  go_enter Tryd.func85, Tryd.ntmps85
  go_wp2_with fail
  go_ret
  exact ⟨by first | rfl | (simp; done), (Below.refl w.heap.size w).alloc (Nat.le_refl _) _⟩
theorem item_c1 (kd who n : Int) (s : ByteArray) (w : World) (k1 : (kd == 1) = false) (k3 : (kd == 3) = false) (k2 : (kd == 2) = true) (b0 : (who == 0) = true) (nn : Tx.num n = false) : Calls Tryd.prog 85 #[.agg #[.int .i64 kd, .int .i64 who, .int .i64 n, .string s]] w fun e w' => e = .returned (.bool false) ∧ Below w.heap.size w w' := by
  have NN := fun W => nnumber_any n W
  rw [nn] at NN
  clear nn
  go_enter Tryd.func85, Tryd.ntmps85
  go_wp2_with fail
  refine (NN _).mono ?_
  rintro _ w1 ⟨rfl, rfl⟩
  go_wp2_with fail
  go_ret
  exact ⟨by first | rfl | (simp; done), (Below.refl w.heap.size w).alloc (Nat.le_refl _) _⟩
theorem item_c2 (kd who n : Int) (s : ByteArray) (w : World) (k1 : (kd == 1) = false) (k3 : (kd == 3) = false) (k2 : (kd == 2) = true) (b0 : (who == 0) = true) (nn : Tx.num n = true) : Calls Tryd.prog 85 #[.agg #[.int .i64 kd, .int .i64 who, .int .i64 n, .string s]] w fun e w' => e = .returned (.bool s.toList.isEmpty) ∧ Below w.heap.size w w' := by
  have NN := fun W => nnumber_any n W
  rw [nn] at NN
  clear nn
  go_enter Tryd.func85, Tryd.ntmps85
  go_wp2_with fail
  refine (NN _).mono ?_
  rintro _ w1 ⟨rfl, rfl⟩
  go_wp2_with fail
  go_ret
  exact ⟨by first | rfl | (simp; done), (Below.refl w.heap.size w).alloc (Nat.le_refl _) _⟩
/-- which items there may be -/
def Item.ok (kd who n : Int) (s : ByteArray) : Bool :=
  if (kd == 1) = true ∨ (kd == 3) = true then decide (0 ≤ who ∧ who ≤ 64 ∧ (n == 0) = true ∧ (s.size : Int) ≤ 65472)
  else if (kd == 2) = true ∧ (who == 0) = true ∧ Tx.num n = true then s.toList.isEmpty else false
theorem itemMayBe_any (kd who n : Int) (s : ByteArray) (w : World) : Calls Tryd.prog 85 #[.agg #[.int .i64 kd, .int .i64 who, .int .i64 n, .string s]] w fun e w' => e = .returned (.bool (Item.ok kd who n s)) ∧ Below w.heap.size w w' := by
  unfold Item.ok
  rcases Bool.eq_false_or_eq_true (kd == 1) with k1 | k1
  · rw [if_pos (.inl k1)]
    by_cases b0 : 0 ≤ who
    · by_cases b1 : who ≤ 64
      · rcases Bool.eq_false_or_eq_true (n == 0) with n0 | n0
        · by_cases t0 : (s.size : Int) ≤ 65472
          · rw [decide_eq_true ⟨b0, b1, n0, t0⟩]; exact item_a14 kd who n s w k1 b0 b1 n0 t0
          · rw [decide_eq_false (fun h => t0 h.2.2.2)]; exact item_a13 kd who n s w k1 b0 b1 n0 t0
        · rw [decide_eq_false (fun h => by rw [n0] at h; exact absurd h.2.2.1 (by simp))]; exact item_a12 kd who n s w k1 b0 b1 n0
      · rw [decide_eq_false (fun h => b1 h.2.1)]; exact item_a11 kd who n s w k1 b0 b1
    · rw [decide_eq_false (fun h => b0 h.1)]; exact item_a10 kd who n s w k1 b0
  rcases Bool.eq_false_or_eq_true (kd == 3) with k3 | k3
  · rw [if_pos (.inr k3)]
    by_cases b0 : 0 ≤ who
    · by_cases b1 : who ≤ 64
      · rcases Bool.eq_false_or_eq_true (n == 0) with n0 | n0
        · by_cases t0 : (s.size : Int) ≤ 65472
          · rw [decide_eq_true ⟨b0, b1, n0, t0⟩]; exact item_a34 kd who n s w k1 k3 b0 b1 n0 t0
          · rw [decide_eq_false (fun h => t0 h.2.2.2)]; exact item_a33 kd who n s w k1 k3 b0 b1 n0 t0
        · rw [decide_eq_false (fun h => by rw [n0] at h; exact absurd h.2.2.1 (by simp))]; exact item_a32 kd who n s w k1 k3 b0 b1 n0
      · rw [decide_eq_false (fun h => b1 h.2.1)]; exact item_a31 kd who n s w k1 k3 b0 b1
    · rw [decide_eq_false (fun h => b0 h.1)]; exact item_a30 kd who n s w k1 k3 b0
  rw [if_neg (by simp [k1, k3])]
  rcases Bool.eq_false_or_eq_true (kd == 2) with k2 | k2
  · rcases Bool.eq_false_or_eq_true (who == 0) with b0 | b0
    · rcases Bool.eq_false_or_eq_true (Tx.num n) with nn | nn
      · rw [if_pos ⟨k2, b0, nn⟩]; exact item_c2 kd who n s w k1 k3 k2 b0 nn
      · rw [if_neg (by simp [nn])]; exact item_c1 kd who n s w k1 k3 k2 b0 nn
    · rw [if_neg (by simp [b0])]; exact item_c0 kd who n s w k1 k3 k2 b0
  · rw [if_neg (by simp [k2])]; exact item_d kd who n s w k1 k3 k2
end Go.Proofs.YtdekcicgiflnbaaDoor
