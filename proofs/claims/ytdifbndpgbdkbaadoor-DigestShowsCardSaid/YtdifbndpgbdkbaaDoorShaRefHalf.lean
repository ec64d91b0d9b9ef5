/- cavalcaderef02.half: what it returns. -/
import Derived.Test.YtdifbndpgbdkbaaDoorShaHalf
namespace Go.Proofs.YtdifbndpgbdkbaaDoor
open Go.RowKit
set_option linter.unusedVariables false
set_option linter.unusedSimpArgs false

theorem half_unique (n j : Nat) (h2 : 2 ≤ n) (h : 2 ^ j < n) (h1 : n ≤ 2 * 2 ^ j) : Sha.half n = 2 ^ j := by
  unfold Sha.half
  have : Nat.log2 (n - 1) = j := (Nat.log2_eq_iff (by omega)).2 ⟨by omega, by rw [Nat.pow_succ]; omega⟩
  rw [this]
theorem refHalf_any (n : Nat) (w : World) (h2 : 2 ≤ n) (h : n ≤ 4611686018427387904) :
    Calls Tryd.prog 45 #[.int .i64 n] w fun e w' => e = .returned (.int .i64 (Sha.half n : Nat)) ∧ w' = w := by
  go_enter Tryd.func45, Tryd.ntmps45
  go_wp2_with fail
  go_loopw [3] (fun i wr => ∃ j k : Nat, k = 2 ^ j ∧ k < n ∧ i = .int .i64 (k : Int) ∧ wr = w) (fun i _ => n - (intOf i).toNat)
  case atStart => exact ⟨0, 1, rfl, by omega, rfl, rfl⟩
  case round =>
    obtain ⟨j, k, hk, hkn, rfl, rfl⟩ := hrel
    have Hk := Lib.hid hk
    have hpos : 0 < k := by rw [hk]; exact Nat.two_pow_pos j
    have hw1 : IntKind.i64.wrap ((n : Int) - (k : Int)) = (n : Int) - (k : Int) := by rw [IntKind.wrap_i64]; omega
    have hw2 : IntKind.i64.wrap ((k : Int) * 2) = (k : Int) * 2 := by rw [IntKind.wrap_i64]; omega
    clear hk
    by_cases hlt : k < n - k
    · have ht : decide ((k : Int) < (n : Int) - (k : Int)) = true := by simp; omega
      go_wp2_with fail
      refine ⟨⟨j + 1, k * 2, by rw [Nat.pow_succ, Hk.out], by omega, by go_num, trivial⟩, by simp [intOf]; omega⟩
    · have ht : decide ((k : Int) < (n : Int) - (k : Int)) = false := by simp; omega
      have hhalf := half_unique n j h2 (by rw [← Hk.out]; exact hkn) (by rw [← Hk.out]; omega)
      rw [← Hk.out] at hhalf
      have HH := Lib.hid hhalf
      clear hhalf
      go_wp2_with fail
      go_ret
      exact ⟨by rw [HH.out]; rfl, rfl⟩
end Go.Proofs.YtdifbndpgbdkbaaDoor
