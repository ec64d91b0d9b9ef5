/- digest.half: what it returns. -/
import Derived.Shelf.Small.Bits
import Derived.Test.YtdifbndpgbdkbaaDoorShaChain
namespace Go.Proofs.YtdifbndpgbdkbaaDoor
open Go.RowKit
set_option linter.unusedVariables false
set_option linter.unusedSimpArgs false

/-- the numbers of the library's names here -/
def lenRen : Go.Shelf.Ren := ⟨fun | 125 => 52 | 128 => 55 | 129 => 56 | n => n, fun | 46 => 44 | 3 => 3 | 51 => 56 | 53 => 80 | 4 => 4 | 5 => 5 | 9 => 9 | n => n, fun | n => n⟩
theorem lenLays : Go.Proofs.Lays.n125 Tryd.prog lenRen := {
  mixed := by kernel_rfl
  f125 := Tryd.func52.trans (congrArg some (by kernel_rfl))
  f128 := Tryd.func55.trans (congrArg some (by kernel_rfl))
  f129 := Tryd.func56.trans (congrArg some (by kernel_rfl))
  t3 := Tryd.underlying3
  a3 := Tryd.isAgg3
  z3 := Tryd.sizeOf3
  v3 := Tryd.zeroValue3
  t4 := Tryd.underlying4
  a4 := Tryd.isAgg4
  z4 := Tryd.sizeOf4
  v4 := Tryd.zeroValue4
  t5 := Tryd.underlying5
  a5 := Tryd.isAgg5
  z5 := Tryd.sizeOf5
  v5 := Tryd.zeroValue5
  t9 := Tryd.underlying9
  a9 := Tryd.isAgg9
  z9 := Tryd.sizeOf9
  v9 := Tryd.zeroValue9
  t46 := Tryd.underlying44
  a46 := Tryd.isAgg44
  z46 := Tryd.sizeOf44
  v46 := Tryd.zeroValue44
  t51 := Tryd.underlying56
  a51 := Tryd.isAgg56
  z51 := Tryd.sizeOf56
  v51 := Tryd.zeroValue56
  t53 := Tryd.underlying80
  a53 := Tryd.isAgg80
  z53 := Tryd.sizeOf80
  v53 := Tryd.zeroValue80 }
theorem len_any (x : Int) (w : World) (h0 : 0 ≤ x) (h1 : x ≤ 18446744073709551615) :
    Calls Tryd.prog 52 #[.int .u64 x] w fun e w' => e = .returned (.int .i64 (Lib.bitLen x.toNat)) ∧ w' = w := Any.bits_Len lenLays x w h0 h1

namespace Sha
/-- the greatest power of two below a number -/
def half (n : Nat) : Nat := 2 ^ Nat.log2 (n - 1)
theorem half_lt (n : Nat) (h : 2 ≤ n) : half n < n := by
  have := Nat.log2_self_le (n := n - 1) (by omega)
  unfold half; omega
theorem half_pos (n : Nat) : 0 < half n := Nat.two_pow_pos _
theorem half_ge (n : Nat) (h : 2 ≤ n) : n ≤ 2 * half n := by
  have := Nat.lt_log2_self (n := n - 1)
  rw [Nat.pow_succ] at this
  unfold half; omega
end Sha
theorem bitLen_log2 : ∀ k x : Nat, x < 2 ^ k → k ≤ 64 → 0 < x → Lib.bitLen x = Nat.log2 x + 1
  | 0, x, h, _, h0 => by simp at h; omega
  | k + 1, x, h, hk, h0 => by
    have hp : (2 : Nat) ^ (k + 1) ≤ 2 ^ 64 := Nat.pow_le_pow_right (by omega) hk
    rw [Lib.bitLen_half x (by omega) (by omega)]
    by_cases h2 : x < 2
    · have e : x = 1 := by omega
      subst e
      decide
    · rw [bitLen_log2 k (x / 2) (by rw [Nat.pow_succ] at h; omega) (by omega) (by omega)]
      conv => rhs; rw [Nat.log2_def, if_pos (by omega)]
      omega
set_option maxHeartbeats 1000000 in
set_option maxRecDepth 100000 in
theorem half_any (n : Nat) (w : World) (h2 : 2 ≤ n) (h : n ≤ 9223372036854775807) :
    Calls Tryd.prog 43 #[.int .i64 n] w fun e w' => e = .returned (.int .i64 (Sha.half n : Nat)) ∧ w' = w := by
  have hl : Lib.bitLen (n - 1) = Nat.log2 (n - 1) + 1 := bitLen_log2 64 (n - 1) (by omega) (by omega) (by omega)
  have hlog : Nat.log2 (n - 1) < 63 := (Nat.log2_lt (by omega)).2 (by omega)
  have hx : ((n : Int) - 1).toNat = n - 1 := by omega
  have hc := len_any ((n : Int) - 1) w (by omega) (by omega)
  rw [hx, hl] at hc
  have HC := Lib.hid hc
  have hw1 : IntKind.i64.wrap ((n : Int) - 1) = (n : Int) - 1 := by rw [IntKind.wrap_i64]; omega
  have hw2 : IntKind.u64.wrap ((n : Int) - 1) = (n : Int) - 1 := by rw [IntKind.wrap_u64]; omega
  clear hc hl hx
  obtain ⟨L, hL⟩ : ∃ L, L = Nat.log2 (n - 1) := ⟨_, rfl⟩
  have e1 : (((n - 1).log2 + 1 : Nat) : Int) = (L : Int) + 1 := by rw [hL]; simp
  have hhalf : Sha.half n = 2 ^ L := by rw [hL]; rfl
  rw [← hL] at hlog
  have hp : (2 : Nat) ^ L ≤ 2 ^ 62 := Nat.pow_le_pow_right (by omega) (by omega)
  have hpc : (2 : Int) ^ L = ((2 ^ L : Nat) : Int) := by simp
  obtain ⟨P, hP⟩ : ∃ P, P = (2 : Nat) ^ L := ⟨_, rfl⟩
  rw [← hP] at hpc hp hhalf
  have hp1 : (P : Int) ≤ 4611686018427387904 := by omega
  rw [hhalf]
  have hc2 := HC.out
  rw [e1] at hc2
  have HC2 := Lib.hid hc2
  clear e1 hhalf hL HC hp hP hc2
  have hs : ((L : Int) + 1 - 1).toNat = L := by omega
  have hw3 : IntKind.i64.wrap ((L : Int) + 1 - 1) = (L : Int) + 1 - 1 := by rw [IntKind.wrap_i64]; omega
  have hw4 : IntKind.i64.wrap (P : Int) = (P : Int) := by rw [IntKind.wrap_i64]; omega
  go_enter Tryd.func43, Tryd.ntmps43
  go_wp2_with fail
  refine HC2.out.mono ?_
  rintro e w1 ⟨rfl, rfl⟩
  go_wp2_with fail
  go_ret
  exact ⟨rfl, rfl⟩
end Go.Proofs.YtdifbndpgbdkbaaDoor
