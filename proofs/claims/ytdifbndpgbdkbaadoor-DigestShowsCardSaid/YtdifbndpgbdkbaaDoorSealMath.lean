/- Keys and tags, as plain functions of bytes. -/
import Derived.Test.YtdifbndpgbdkbaaDoorShaMath
import Derived.Test.YtdifbndpgbdkbaaDoorOctMath
namespace Go.Proofs.YtdifbndpgbdkbaaDoor
set_option linter.unusedVariables false
set_option linter.unusedSimpArgs false
namespace Seal
/-- 32 bytes of nothing -/
def hz : List UInt8 := List.replicate 32 0
def keyL (who : Nat) : List UInt8 := Sha.sum ([107, 101, 121] ++ Oct.num who)
def key (who : Int) : List UInt8 × Int := if who < 0 ∨ 64 < who then (hz, 20) else (keyL who.toNat, 0)
def tagL (k : List UInt8) (dom : Nat) (body : List UInt8) : List UInt8 := Sha.sum (k ++ UInt8.ofNat dom :: body)
def tag (who dom : Int) (body : List UInt8) : List UInt8 × Int :=
  if who < 0 ∨ 64 < who then (hz, 20) else if dom < 1 ∨ 4 < dom then (hz, 2) else (tagL (keyL who.toNat) dom.toNat body, 0)
def check (who dom : Int) (body t : List UInt8) : Int :=
  if who < 0 ∨ 64 < who then 20 else if dom < 1 ∨ 4 < dom then 2 else if tagL (keyL who.toNat) dom.toNat body ≠ t then 21 else 0
theorem hz_len : hz.length = 32 := by simp [hz]
theorem keyL_len (who : Nat) : (keyL who).length = 32 := Sha.sum_len _
theorem tagL_len (k : List UInt8) (dom : Nat) (body : List UInt8) : (tagL k dom body).length = 32 := Sha.sum_len _
theorem key_len (who : Int) : (key who).1.length = 32 := by unfold key; split; exact hz_len; exact keyL_len _
theorem tag_len (who dom : Int) (body : List UInt8) : (tag who dom body).1.length = 32 := by
  unfold tag; split
  · exact hz_len
  · split
    · exact hz_len
    · exact tagL_len _ _ _
theorem num_zero : Oct.num 0 = [0] := by decide
theorem num_small (n : Nat) (h0 : 0 < n) (h1 : n ≤ 64) : Oct.num n = [1, UInt8.ofNat n] := by
  have e : Oct.bigs 8 n = [UInt8.ofNat n] := by
    simp only [Oct.bigs]
    rw [if_neg (by omega), if_pos (by omega), Nat.mod_eq_of_lt (by omega)]
    rfl
  unfold Oct.num
  rw [e]
  rfl
theorem keyL_zero : keyL 0 = Sha.sum [107, 101, 121, 0] := by unfold keyL; rw [num_zero]; rfl
theorem keyL_pos (n : Nat) (h0 : 0 < n) (h1 : n ≤ 64) : keyL n = Sha.sum [107, 101, 121, 1, UInt8.ofNat n] := by unfold keyL; rw [num_small n h0 h1]; rfl
end Seal
end Go.Proofs.YtdifbndpgbdkbaaDoor
