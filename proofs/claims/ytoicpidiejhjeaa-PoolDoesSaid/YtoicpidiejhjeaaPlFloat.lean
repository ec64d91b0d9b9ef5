/- Whole numbers as floats: those below 2^53 stand in their order. -/
import Derived.Laws.Cover2
import Derived.Laws.Cover3
namespace Go.Proofs.Ytoicpidiejhjeaa
set_option linter.unusedVariables false
set_option linter.unusedSimpArgs false

theorem cmp_int (x y : Int) : compare x y = if x < y then .lt else if x = y then .eq else .gt := rfl
open Ieee in
theorem cut_zero (n : Nat) : Toward.even.cut false n 0 = n := by
  unfold Toward.cut
  simp only [Nat.zero_min, Nat.shiftLeft_zero, Nat.div_one, Nat.mod_one]
  simp
open Ieee in
theorem nearest_pos {m : Nat} (h0 : 0 < m) (h : m < 2 ^ 53) :
    double.nearest false m 0 = (m.log2 + 1022) * 2 ^ 52 + m * 2 ^ (52 - m.log2) := by
  have hL : m.log2 ≤ 52 := by
    have := (Nat.log2_lt (by omega : m ≠ 0)).2 h
    omega
  have h1 : m < 2 ^ (m.log2 + 1) := Nat.lt_log2_self
  have h2 : 2 ^ m.log2 ≤ m := Nat.log2_self_le (by omega)
  unfold Format.nearest
  rw [if_neg (by omega : ¬ m = 0)]
  have hlp : double.leastPlace = -1074 := by decide
  have hb : double.binade = 2 ^ 52 := by decide
  have hi : double.infRung = 2047 * 2 ^ 52 := by decide
  have hf : double.fractionBits = 52 := rfl
  rw [hlp, hb, hi, hf]
  have e1 : max ((0 : Int) + (m.log2 : Nat) - (52 : Nat)) (-1074) = (m.log2 : Int) - 52 := by omega
  simp only [e1]
  have e2 : ((0 : Int) - ((m.log2 : Int) - 52)).toNat = 52 - m.log2 := by omega
  have e3 : ((m.log2 : Int) - 52 - 0).toNat = 0 := by omega
  have e4 : ((m.log2 : Int) - 52 - -1074).toNat = m.log2 + 1022 := by omega
  rw [e2, e3, e4, cut_zero, Nat.shiftLeft_eq]
  have h3 : m * 2 ^ (52 - m.log2) < 2 ^ 53 := by
    have : 2 ^ (m.log2 + 1) * 2 ^ (52 - m.log2) = 2 ^ 53 := by rw [← Nat.pow_add]; congr 1; omega
    rw [← this]
    exact Nat.mul_lt_mul_of_pos_right h1 (Nat.pow_pos (by decide))
  generalize m * 2 ^ (52 - m.log2) = q at *
  rw [Nat.min_eq_left (by omega)]
  rfl
open Ieee in
theorem read_nearest {m : Nat} (h0 : 0 < m) (h : m < 2 ^ 53) :
    double.read (double.nearest false m 0) = .number false (m * 2 ^ (52 - m.log2)) ((m.log2 : Int) - 52) := by
  rw [nearest_pos h0 h]
  have hL : m.log2 ≤ 52 := by
    have := (Nat.log2_lt (by omega : m ≠ 0)).2 h
    omega
  have h1 : m < 2 ^ (m.log2 + 1) := Nat.lt_log2_self
  have h2 : 2 ^ m.log2 ≤ m := Nat.log2_self_le (by omega)
  have h3 : m * 2 ^ (52 - m.log2) < 2 ^ 53 := by
    have : 2 ^ (m.log2 + 1) * 2 ^ (52 - m.log2) = 2 ^ 53 := by rw [← Nat.pow_add]; congr 1; omega
    rw [← this]
    exact Nat.mul_lt_mul_of_pos_right h1 (Nat.pow_pos (by decide))
  have h4 : 2 ^ 52 ≤ m * 2 ^ (52 - m.log2) := by
    have : 2 ^ m.log2 * 2 ^ (52 - m.log2) = 2 ^ 52 := by rw [← Nat.pow_add]; congr 1; omega
    rw [← this]
    exact Nat.mul_le_mul_right _ h2
  generalize m * 2 ^ (52 - m.log2) = q at *
  have hlp : double.leastPlace = -1074 := by decide
  have hb : double.binade = 2 ^ 52 := by decide
  have hi : double.infRung = 2047 * 2 ^ 52 := by decide
  have hs : double.signWeight = 2 ^ 63 := by decide
  have r1 : (m.log2 + 1022) * 2 ^ 52 + q < 2 ^ 63 := by omega
  unfold Format.read
  rw [hlp, hb, hi, hs]
  simp only
  rw [Nat.mod_eq_of_lt r1, Nat.div_eq_of_lt r1]
  rw [if_neg (by omega), if_pos (by omega)]
  have e5 : ((m.log2 + 1022) * 2 ^ 52 + q) % 2 ^ 52 = q - 2 ^ 52 := by omega
  have e6 : ((m.log2 + 1022) * 2 ^ 52 + q) / 2 ^ 52 = m.log2 + 1023 := by omega
  rw [e5, e6]
  have e7 : 2 ^ 52 + (q - 2 ^ 52) = q := by omega
  have e8 : ((m.log2 + 1023 - 1 : Nat) : Int) = (m.log2 : Int) + 1022 := by omega
  have e9 : (-1074 : Int) + ((m.log2 : Int) + 1022) = (m.log2 : Int) - 52 := by omega
  rw [e7, e8, e9]
  rfl
open Ieee in
theorem read_zero : double.read (double.nearest false 0 0) = .number false 0 (-1074) := by decide
open Ieee in
theorem signed_shift (q a : Nat) : signed false q a = ((q * 2 ^ a : Nat) : Int) := by
  unfold signed
  rw [if_neg (by decide), Nat.shiftLeft_eq]
open Ieee in
/-- a word stands for m -/
theorem read_any {m : Nat} (h : m < 2 ^ 53) : ∃ (q : Nat) (p : Int), double.read (double.nearest false m 0) = .number false q p ∧ p ≤ 0 ∧ q = m * 2 ^ (-p).toNat := by
  rcases Nat.eq_zero_or_pos m with rfl | h0
  · exact ⟨0, -1074, read_zero, by decide, (Nat.zero_mul _).symm⟩
  · refine ⟨_, _, read_nearest h0 h, ?_, ?_⟩
    · have := (Nat.log2_lt (by omega : m ≠ 0)).2 h
      omega
    · congr 2
      omega
open Ieee in
theorem order_any {a b : Nat} (ha : a < 2 ^ 53) (hb : b < 2 ^ 53) : double.order (double.nearest false a 0) (double.nearest false b 0) = some (compare (a : Int) (b : Int)) := by
  obtain ⟨q, i, h1, hi, hq⟩ := read_any ha
  obtain ⟨r, j, h2, hj, hr⟩ := read_any hb
  unfold Format.order
  rw [h1, h2]
  unfold Datum.order
  simp only
  rw [signed_shift, signed_shift]
  congr 1
  have k : ∀ (x : Nat) (p m : Int), p ≤ 0 → m ≤ p → x * 2 ^ (-p).toNat * 2 ^ (p - m).toNat = x * 2 ^ (-m).toNat := by
    intro x p m hp hm
    rw [Nat.mul_assoc, ← Nat.pow_add]
    congr 2
    omega
  rw [hq, hr, k a i _ hi (Int.min_le_left _ _), k b j _ hj (Int.min_le_right _ _)]
  generalize (-(min i j)).toNat = n
  have hp : (0 : Int) < ((2 ^ n : Nat) : Int) := by exact_mod_cast Nat.pow_pos (by decide : 0 < 2)
  rw [Int.natCast_mul, Int.natCast_mul]
  generalize ((2 ^ n : Nat) : Int) = z at *
  generalize (a : Int) = x
  generalize (b : Int) = y
  rw [cmp_int, cmp_int]
  have i1 : x * z < y * z ↔ x < y := ⟨fun h => Int.lt_of_mul_lt_mul_right h (Int.le_of_lt hp), fun h => Int.mul_lt_mul_of_pos_right h hp⟩
  have i2 : x * z = y * z ↔ x = y := ⟨fun h => Int.eq_of_mul_eq_mul_right (Int.ne_of_gt hp) h, fun h => by rw [h]⟩
  simp only [i1, i2]
/-- the floats of two whole numbers stand as these do -/
theorem float_order {a b : Int} (ha : 0 ≤ a ∧ a < 2 ^ 53) (hb : 0 ≤ b ∧ b < 2 ^ 53) : FloatKind.f64.format.order (floatOfInt .f64 a) (floatOfInt .f64 b) = some (compare a b) := by
  have k : ∀ x : Int, 0 ≤ x → floatOfInt .f64 x = Ieee.double.nearest false x.natAbs 0 := by
    intro x hx
    have : decide (x < 0) = false := by simpa using hx
    unfold floatOfInt FloatKind.nearest FloatKind.encode
    rw [this]
    rfl
  have := order_any (a := a.natAbs) (b := b.natAbs) (by omega) (by omega)
  rw [k a ha.1, k b hb.1]
  rw [show FloatKind.f64.format = Ieee.double from rfl, this, Int.natAbs_of_nonneg ha.1, Int.natAbs_of_nonneg hb.1]
theorem float_lt {a b : Int} (ha : 0 ≤ a ∧ a < 2 ^ 53) (hb : 0 ≤ b ∧ b < 2 ^ 53) : (FloatKind.f64.format.order (floatOfInt .f64 a) (floatOfInt .f64 b) == some .lt) = decide (a < b) := by
  rw [float_order ha hb, cmp_int]
  by_cases h : a < b
  · rw [if_pos h]; simp [h]
  · rw [if_neg h]; by_cases h2 : a = b
    · rw [if_pos h2]; simp [h]
    · rw [if_neg h2]; simp [h]
theorem float_eq {a b : Int} (ha : 0 ≤ a ∧ a < 2 ^ 53) (hb : 0 ≤ b ∧ b < 2 ^ 53) : (FloatKind.f64.format.order (floatOfInt .f64 a) (floatOfInt .f64 b) == some .eq) = decide (a = b) := by
  rw [float_order ha hb, cmp_int]
  by_cases h : a < b
  · rw [if_pos h]; simp [Int.ne_of_lt h]
  · rw [if_neg h]; by_cases h2 : a = b
    · rw [if_pos h2]; simp [h2]
    · rw [if_neg h2]; simp [h2]
end Go.Proofs.Ytoicpidiejhjeaa
