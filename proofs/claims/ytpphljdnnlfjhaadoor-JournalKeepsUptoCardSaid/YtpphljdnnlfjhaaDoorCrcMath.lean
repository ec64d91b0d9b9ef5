/- CRC-32 as a plain function of lists of bytes. -/
import Derived.Test.YtpphljdnnlfjhaaDoorOctMath
namespace Go.Proofs.YtpphljdnnlfjhaaDoor
set_option linter.unusedVariables false
set_option linter.unusedSimpArgs false
namespace Cr
def shift (x : Nat) : Nat := if x % 2 = 0 then x / 2 else x / 2 ^^^ 3988292384
def shifts : Nat → Nat → Nat
  | 0, x => x
  | k + 1, x => shift (shifts k x)
def byte (x : Nat) (b : UInt8) : Nat := shifts 8 (x ^^^ b.toNat)
def regs (x : Nat) (l : List UInt8) : Nat := l.foldl byte x
def sum (l : List UInt8) : Nat := 4294967295 - regs 4294967295 l
def four (x : Nat) : List UInt8 := [UInt8.ofNat (x / 16777216 % 256), UInt8.ofNat (x / 65536 % 256), UInt8.ofNat (x / 256 % 256), UInt8.ofNat (x % 256)]
theorem xor_lt {a b : Nat} (ha : a < 4294967296) (hb : b < 4294967296) : a ^^^ b < 4294967296 := Nat.xor_lt_two_pow (n := 32) ha hb
theorem shift_lt {x : Nat} (h : x < 4294967296) : shift x < 4294967296 := by
  unfold shift
  split
  · omega
  · exact xor_lt (by omega) (by omega)
theorem shifts_lt {x : Nat} (h : x < 4294967296) (k : Nat) : shifts k x < 4294967296 := by
  induction k with
  | zero => exact h
  | succ k ih => exact shift_lt ih
theorem byte_lt {x : Nat} (h : x < 4294967296) (b : UInt8) : byte x b < 4294967296 := shifts_lt (xor_lt h (by have := b.toNat_lt; omega)) 8
theorem regs_lt {x : Nat} (h : x < 4294967296) (l : List UInt8) : regs x l < 4294967296 := by
  induction l generalizing x with
  | nil => exact h
  | cons b r ih => exact ih (byte_lt h b)
theorem sum_lt (l : List UInt8) : sum l < 4294967296 := by unfold sum; omega
theorem xor_cancel {a b t : Nat} (h : a ^^^ t = b ^^^ t) : a = b := by
  have h2 := congrArg (· ^^^ t) h
  simpa [Nat.xor_assoc] using h2
theorem half_ne {x y : Nat} (hx : x < 4294967296) (hy : y < 4294967296) : x / 2 ≠ y / 2 ^^^ 3988292384 := by
  intro h
  have h2 := congrArg (fun n : Nat => n.testBit 31) h
  simp only [Nat.testBit_xor] at h2
  have e1 : (x / 2).testBit 31 = false := Nat.testBit_lt_two_pow (by omega)
  have e2 : (y / 2).testBit 31 = false := Nat.testBit_lt_two_pow (by omega)
  have e3 : Nat.testBit 3988292384 31 = true := by decide
  rw [e1, e2, e3] at h2
  cases h2
theorem shift_inj {x y : Nat} (hx : x < 4294967296) (hy : y < 4294967296) (h : shift x = shift y) : x = y := by
  unfold shift at h
  by_cases h1 : x % 2 = 0 <;> by_cases h2 : y % 2 = 0
  · rw [if_pos h1, if_pos h2] at h; omega
  · rw [if_pos h1, if_neg h2] at h; exact absurd h (half_ne hx hy)
  · rw [if_neg h1, if_pos h2] at h; exact absurd h.symm (half_ne hy hx)
  · rw [if_neg h1, if_neg h2] at h
    have := xor_cancel h
    omega
theorem shifts_inj {x y : Nat} (hx : x < 4294967296) (hy : y < 4294967296) (k : Nat) (h : shifts k x = shifts k y) : x = y := by
  induction k with
  | zero => exact h
  | succ k ih => exact ih (shift_inj (shifts_lt hx k) (shifts_lt hy k) h)
theorem byte_inj {x y : Nat} (hx : x < 4294967296) (hy : y < 4294967296) (b : UInt8) (h : byte x b = byte y b) : x = y := by
  have hb := b.toNat_lt
  exact xor_cancel (shifts_inj (xor_lt hx (by omega)) (xor_lt hy (by omega)) 8 h)
theorem byte_ne {x : Nat} (hx : x < 4294967296) {b c : UInt8} (h : byte x b = byte x c) : b = c := by
  have hb := b.toNat_lt
  have hc := c.toNat_lt
  have := shifts_inj (xor_lt hx (by omega)) (xor_lt hx (by omega)) 8 h
  rw [Nat.xor_comm x, Nat.xor_comm x] at this
  exact UInt8.toNat_inj.1 (xor_cancel this)
theorem regs_inj {x y : Nat} (hx : x < 4294967296) (hy : y < 4294967296) (l : List UInt8) (h : regs x l = regs y l) : x = y := by
  induction l generalizing x y with
  | nil => exact h
  | cons b r ih => exact byte_inj hx hy b (ih (byte_lt hx b) (byte_lt hy b) h)
theorem regs_app (x : Nat) (a b : List UInt8) : regs x (a ++ b) = regs (regs x a) b := List.foldl_append
/-- one byte turned turns the sum -/
theorem sum_turned (a c : List UInt8) {b b' : UInt8} (h : b ≠ b') : sum (a ++ b :: c) ≠ sum (a ++ b' :: c) := by
  intro e
  have l1 := regs_lt (x := 4294967295) (by omega) (a ++ b :: c)
  have l2 := regs_lt (x := 4294967295) (by omega) (a ++ b' :: c)
  have la := regs_lt (x := 4294967295) (by omega) a
  unfold sum at e
  have e2 : regs 4294967295 (a ++ b :: c) = regs 4294967295 (a ++ b' :: c) := by omega
  rw [regs_app, regs_app] at e2
  exact h (byte_ne la (regs_inj (byte_lt la b) (byte_lt la b') c e2))
theorem four_inj {x y : Nat} (hx : x < 4294967296) (hy : y < 4294967296) (h : four x = four y) : x = y := by
  unfold four at h
  simp only [List.cons.injEq, and_true] at h
  obtain ⟨h1, h2, h3, h4⟩ := h
  have g1 := congrArg UInt8.toNat h1
  have g2 := congrArg UInt8.toNat h2
  have g3 := congrArg UInt8.toNat h3
  have g4 := congrArg UInt8.toNat h4
  simp only [UInt8.toNat_ofNat'] at g1 g2 g3 g4
  omega
theorem four_len (x : Nat) : (four x).length = 4 := rfl
end Cr
end Go.Proofs.YtpphljdnnlfjhaaDoor
