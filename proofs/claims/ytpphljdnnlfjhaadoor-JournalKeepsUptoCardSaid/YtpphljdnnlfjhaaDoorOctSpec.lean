/- How a number is read, by its cases: over a string's bytes. Plain mathematics. -/
import Derived.Test.YtpphljdnnlfjhaaDoorOctMath
namespace Go.Proofs.YtpphljdnnlfjhaaDoor
set_option linter.unusedVariables false
set_option linter.unusedSimpArgs false
namespace Oct
theorem val_foldl (l : List UInt8) (a : Nat) : l.foldl (fun a b => a * 256 + b.toNat) a = a * 256 ^ l.length + val l := by
  induction l generalizing a with
  | nil => simp [val]
  | cons b r ih =>
    rw [List.foldl_cons, ih]
    have e : val (b :: r) = b.toNat * 256 ^ r.length + val r := by
      show List.foldl _ (0 * 256 + b.toNat) r = _
      rw [ih]; simp
    rw [e, List.length_cons, Nat.pow_succ, Nat.add_mul, Nat.mul_assoc, Nat.mul_comm 256, Nat.add_assoc]
theorem val_cons (b : UInt8) (r : List UInt8) : val (b :: r) = b.toNat * 256 ^ r.length + val r := by
  show List.foldl _ (0 * 256 + b.toNat) r = _
  rw [val_foldl]; simp

theorem bytes_drop (s : ByteArray) (p : Nat) (hp : p < s.size) : s.data.toList.drop p = s[p] :: s.data.toList.drop (p + 1) := by
  rw [List.drop_eq_getElem_cons (by simpa using hp)]; rfl
theorem bytes_len (s : ByteArray) : s.data.toList.length = s.size := rfl

/-- the bytes of the number that stands at p -/
def own (s : ByteArray) (p k : Nat) : List UInt8 := (s.data.toList.drop (p + 1)).take k
theorem own_snoc (s : ByteArray) (p j : Nat) (h : p + 1 + j < s.size) : own s p (j + 1) = own s p j ++ [s[p + 1 + j]] := by
  unfold own
  rw [List.take_succ_eq_append_getElem (by rw [List.length_drop, bytes_len]; omega)]
  simp; rfl
theorem own_len (s : ByteArray) (p k : Nat) (h : p + 1 + k ≤ s.size) : (own s p k).length = k := by
  unfold own
  rw [List.length_take, List.length_drop, bytes_len]; omega
theorem own_head (s : ByteArray) (p k : Nat) (h : p + 1 + k ≤ s.size) (hk : 0 < k) : own s p k = s[p + 1]'(by omega) :: (s.data.toList.drop (p + 2)).take (k - 1) := by
  unfold own
  obtain ⟨j, rfl⟩ : ∃ j, k = j + 1 := ⟨k - 1, by omega⟩
  rw [bytes_drop s (p + 1) (by omega)]
  simp

theorem own_val_le (s : ByteArray) (p j k : Nat) (hj : j ≤ k) (h : p + 1 + k ≤ s.size) : val (own s p j) ≤ val (own s p k) := by
  induction k with
  | zero => have : j = 0 := by omega
            subst this; exact Nat.le_refl _
  | succ k ih =>
    rcases Nat.lt_or_ge j (k + 1) with h1 | h1
    · have := ih (by omega) (by omega)
      rw [own_snoc s p k (by omega), val_snoc]; omega
    · have : j = k + 1 := by omega
      subst this; exact Nat.le_refl _

theorem rdNum_neg (l : List UInt8) (p : Int) (h : p < 0 ∨ (l.length : Int) < p) : rdNum l p = (0, 0, 4) := by
  unfold rdNum; rw [if_pos h]
theorem rdNum_end (s : ByteArray) : rdNum s.data.toList s.size = (0, 0, 5) := by
  unfold rdNum
  rw [bytes_len, if_neg (by omega), Int.toNat_natCast, List.drop_of_length_le (by rw [bytes_len]; omega)]
theorem rdNum_at (s : ByteArray) (p : Nat) (hp : p < s.size) : rdNum s.data.toList p =
    if 8 < s[p].toNat then (0, 0, 6) else
    if s.size < p + 1 + s[p].toNat then (0, 0, 5) else
    if (own s p s[p].toNat).head? = some 0 ∨ 2 ^ 63 ≤ val (own s p s[p].toNat) then (0, 0, 6) else
        (((val (own s p s[p].toNat) : Nat) : Int), (p : Int) + 1 + ((s[p].toNat : Nat) : Int), (0 : Int)) := by
  unfold rdNum
  rw [bytes_len, if_neg (by omega), Int.toNat_natCast, bytes_drop s p hp]
  simp only
  by_cases h8 : 8 < s[p].toNat
  · rw [if_pos h8, if_pos h8]
  rw [if_neg h8, if_neg h8]
  have e : (s.data.toList.drop (p + 1)).length = s.size - (p + 1) := by rw [List.length_drop, bytes_len]
  rw [e]
  by_cases h9 : s.size < p + 1 + s[p].toNat
  · rw [if_pos h9, if_pos (by omega)]
  · rw [if_neg h9, if_neg (by omega)]; rfl
theorem rdNum_big (s : ByteArray) (p : Nat) (hp : p < s.size) (h : 8 < s[p].toNat) : rdNum s.data.toList p = (0, 0, 6) := by
  rw [rdNum_at s p hp, if_pos h]
theorem rdNum_short (s : ByteArray) (p : Nat) (hp : p < s.size) (h : s[p].toNat ≤ 8) (h2 : s.size < p + 1 + s[p].toNat) : rdNum s.data.toList p = (0, 0, 5) := by
  rw [rdNum_at s p hp, if_neg (by omega), if_pos h2]
theorem rdNum_bad (s : ByteArray) (p : Nat) (hp : p < s.size) (h : s[p].toNat ≤ 8) (h2 : p + 1 + s[p].toNat ≤ s.size)
    (h3 : (own s p s[p].toNat).head? = some 0 ∨ 2 ^ 63 ≤ val (own s p s[p].toNat)) : rdNum s.data.toList p = (0, 0, 6) := by
  rw [rdNum_at s p hp, if_neg (by omega), if_neg (by omega), if_pos h3]
theorem rdNum_fine (s : ByteArray) (p : Nat) (hp : p < s.size) (h : s[p].toNat ≤ 8) (h2 : p + 1 + s[p].toNat ≤ s.size)
    (h3 : ¬ ((own s p s[p].toNat).head? = some 0 ∨ 2 ^ 63 ≤ val (own s p s[p].toNat))) : rdNum s.data.toList p = (((val (own s p s[p].toNat) : Nat) : Int), (p : Int) + 1 + ((s[p].toNat : Nat) : Int), (0 : Int)) := by
  rw [rdNum_at s p hp, if_neg (by omega), if_neg (by omega), if_neg h3]

theorem head_zero (s : ByteArray) (p k : Nat) (h : p + 1 + k ≤ s.size) (hk : 0 < k) : ((own s p k).head? = some 0) ↔ (s[p + 1]'(by omega)).toNat = 0 := by
  rw [own_head s p k h hk]
  simp only [List.head?_cons, Option.some.injEq]
  constructor
  · intro e; rw [e]; rfl
  · intro e; exact UInt8.toNat_inj.1 (by simpa using e)
theorem own_zero (s : ByteArray) (p : Nat) : own s p 0 = [] := rfl
theorem val_small (s : ByteArray) (p k : Nat) (hk : k ≤ 7) (h : p + 1 + k ≤ s.size) : val (own s p k) < 2 ^ 63 := by
  have h1 := val_lt (own s p k)
  rw [own_len s p k h] at h1
  have h2 : 256 ^ k ≤ 256 ^ 7 := Nat.pow_le_pow_right (by decide) hk
  have h3 : (256 : Nat) ^ 7 < 2 ^ 63 := by decide
  omega
theorem val_top (s : ByteArray) (p : Nat) (h : p + 1 + 8 ≤ s.size) : 2 ^ 63 ≤ val (own s p 8) ↔ 127 < (s[p + 1]'(by omega)).toNat := by
  have e := own_head s p 8 h (by omega)
  have hl : ((s.data.toList.drop (p + 2)).take (8 - 1)).length = 7 := by rw [List.length_take, List.length_drop, bytes_len]; omega
  have hr := val_lt ((s.data.toList.drop (p + 2)).take (8 - 1))
  rw [hl] at hr
  rw [e, val_cons, hl]
  generalize val ((s.data.toList.drop (p + 2)).take (8 - 1)) = v at *
  generalize (s[p + 1]'(by omega)).toNat = b
  have e7 : (256 : Nat) ^ 7 = 72057594037927936 := by decide
  have e63 : (2 : Nat) ^ 63 = 128 * 72057594037927936 := by decide
  rw [e7] at *; rw [e63]
  omega
theorem or_byte (m b : Nat) (h : b < 256) : (m * 256) ||| b = m * 256 + b := by
  have := Nat.shiftLeft_add_eq_or_of_lt (i := 8) (b := b) (by simpa using h) m
  rw [Nat.shiftLeft_eq] at this
  exact this.symm
end Oct
end Go.Proofs.YtpphljdnnlfjhaaDoor
