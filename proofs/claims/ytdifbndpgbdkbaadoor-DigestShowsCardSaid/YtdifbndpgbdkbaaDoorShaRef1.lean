/- cavalcaderef02.right, three, word: what they return. -/
import Derived.Test.YtdifbndpgbdkbaaDoorShaRoot
import Derived.Deep.QuietTactic
import Derived.BigQuiet
namespace Go.Proofs.YtdifbndpgbdkbaaDoor
open Go.RowKit
set_option linter.unusedVariables false
set_option linter.unusedSimpArgs false

theorem shift_split (x n : Nat) : ((x : Int) / 2 ^ n) = ((x / 2 ^ n : Nat) : Int) := by simp
theorem right_any (x n : Nat) (w : World) (hx : x < 4294967296) (h1 : 1 ≤ n) (h2 : n ≤ 31) :
    Calls Tryd.prog 38 #[.int .u32 x, .int .i64 n] w fun e w' => e = .returned (.int .u32 (Sha.rot n x)) ∧ ∃ m, w' = w.drewN m := by
  have hn0 : (0 : Int) ≤ (n : Int) := by omega
  have hn1 : (0 : Int) ≤ 32 - (n : Int) := by omega
  have hw1 : IntKind.i64.wrap (32 - (n : Int)) = 32 - (n : Int) := by rw [IntKind.wrap_i64]; omega
  have ht : (32 - (n : Int)).toNat = 32 - n := by omega
  go_enter Tryd.func38, Tryd.ntmps38
  go_wp2_with fail
  go_quiet (fail)
  go_wp2_with fail
  go_ret
  have hr := Sha.rot_lt n x h1 h2 hx
  have e : (((x : Int) / 2 ^ n + (x : Int) * 2 ^ (32 - n) % 4294967296) % 4294967296) = ((Sha.rot n x : Nat) : Int) := by
    have e1 : (x : Int) * 2 ^ (32 - n) % 4294967296 = ((x * 2 ^ (32 - n) % 4294967296 : Nat) : Int) := by simp
    rw [shift_split, e1]
    unfold Sha.rot at hr ⊢
    generalize x / 2 ^ n = A at *
    generalize x * 2 ^ (32 - n) % 4294967296 = B at *
    omega
  exact ⟨by rw [e]; rfl, nq, rfl⟩
theorem three_any (x a b c : Nat) (w : World) (hx : x < 4294967296) (ha1 : 1 ≤ a) (ha2 : a ≤ 31) (hb1 : 1 ≤ b) (hb2 : b ≤ 31) (hc1 : 1 ≤ c) (hc2 : c ≤ 31) :
    Calls Tryd.prog 39 #[.int .u32 x, .int .i64 a, .int .i64 b, .int .i64 c] w fun e w' => e = .returned (.int .u32 ((Sha.rot a x ^^^ Sha.rot b x ^^^ Sha.rot c x : Nat) : Int)) ∧ ∃ m, w' = w.drewN m := by
  have hA := Sha.rot_lt a x ha1 ha2 hx
  have hB := Sha.rot_lt b x hb1 hb2 hx
  have hC := Sha.rot_lt c x hc1 hc2 hx
  have x1 := xor32 hA hB
  have x2 := xor32 (Sha.xor_lt hA hB) hC
  go_enter Tryd.func39, Tryd.ntmps39
  go_wp2_with fail
  refine (right_any x a _ hx ha1 ha2).mono ?_
  rintro e w1 ⟨rfl, m1, rfl⟩
  go_wp2_with fail
  refine (right_any x b _ hx hb1 hb2).mono ?_
  rintro e w1 ⟨rfl, m2, rfl⟩
  go_wp2_with fail
  refine (right_any x c _ hx hc1 hc2).mono ?_
  rintro e w1 ⟨rfl, m3, rfl⟩
  go_wp2_with fail
  go_ret
  exact ⟨rfl, _, rfl⟩
theorem word_at (t : Nat) (ht : t < 64) : (Sha.kk.map fun (k : Nat) => Value.int .u32 (k : Int))[t]'(by rw [List.length_map]; exact ht) = Value.int .u32 (Sha.kk.getD t 0 : Nat) := by
  have h : t < Sha.kk.length := ht
  rw [List.getElem_map]
  simp [List.getD, h]
set_option maxHeartbeats 1000000 in
set_option maxRecDepth 100000 in
theorem word_any (t : Nat) (w : World) (ht : t < 64) :
    Calls Tryd.prog 40 #[.int .i64 t] w fun e w' => e = .returned (.int .u32 (Sha.kk.getD t 0 : Nat)) ∧ Below w.heap.size w w' := by
  have ht0 : (0 : Int) ≤ (t : Int) := by omega
  have ht1 : (t : Int) < 64 := by omega
  go_enter Tryd.func40, Tryd.ntmps40
  go_wp2_with fail
  go_ret
  refine ⟨?_, (Below.refl _ _).alloc (Nat.le_refl _) _⟩
  exact congrArg Ending.returned (word_at t ht)
end Go.Proofs.YtdifbndpgbdkbaaDoor
