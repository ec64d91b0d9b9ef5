/- How a number is read, by its cases: over a string's bytes. Plain mathematics. -/
/- octets.ReadNumber: what it returns. -/
import Derived.Test.YtmcdanodacbpbaaOctMath
import Derived.Test.YtmcdanodacbpbaaChecked
import Derived.WalkKit
import Derived.Below
import Derived.Lib.Hide
import Derived.LoopTactic
import Derived.Outline
import Derived.Laws.BitsAllLaws
import Derived.Laws.BitsLemmas
import Derived.BigQuiet
import Derived.Deep.QuietTactic
namespace Go.Proofs.Ytmcdanodacbpbaa
set_option linter.unusedVariables false
set_option linter.unusedSimpArgs false
namespace Oct
theorem val_foldl (l : List UInt8) (a : Nat) : l.foldl (fun a b => a * 256 + b.toNat) a = a * 256 ^ l.length + val l := by
  induction l generalizing a with
  | nil => simp [val]
  | cons b r ih =>
    rw [List.foldl_cons, ih]
    have e : val (b :: r) = b.toNat * 256 ^ r.length + val r := by
      show List.foldl _ (0 * 256 + b.toNat) r = _
      rw [ih]; simp
    rw [e, List.length_cons, Nat.pow_succ, Nat.add_mul, Nat.mul_assoc, Nat.mul_comm 256, Nat.add_assoc]
theorem val_cons (b : UInt8) (r : List UInt8) : val (b :: r) = b.toNat * 256 ^ r.length + val r := by
  show List.foldl _ (0 * 256 + b.toNat) r = _
  rw [val_foldl]; simp

theorem bytes_drop (s : ByteArray) (p : Nat) (hp : p < s.size) : s.data.toList.drop p = s[p] :: s.data.toList.drop (p + 1) := by
  rw [List.drop_eq_getElem_cons (by simpa using hp)]; rfl
theorem bytes_len (s : ByteArray) : s.data.toList.length = s.size := rfl

/-- the bytes of the number that stands at p -/
def own (s : ByteArray) (p k : Nat) : List UInt8 := (s.data.toList.drop (p + 1)).take k
theorem own_snoc (s : ByteArray) (p j : Nat) (h : p + 1 + j < s.size) : own s p (j + 1) = own s p j ++ [s[p + 1 + j]] := by
  unfold own
  rw [List.take_succ_eq_append_getElem (by rw [List.length_drop, bytes_len]; omega)]
  simp; rfl
theorem own_len (s : ByteArray) (p k : Nat) (h : p + 1 + k ≤ s.size) : (own s p k).length = k := by
  unfold own
  rw [List.length_take, List.length_drop, bytes_len]; omega
theorem own_head (s : ByteArray) (p k : Nat) (h : p + 1 + k ≤ s.size) (hk : 0 < k) : own s p k = s[p + 1]'(by omega) :: (s.data.toList.drop (p + 2)).take (k - 1) := by
  unfold own
  obtain ⟨j, rfl⟩ : ∃ j, k = j + 1 := ⟨k - 1, by omega⟩
  rw [bytes_drop s (p + 1) (by omega)]
  simp

theorem own_val_le (s : ByteArray) (p j k : Nat) (hj : j ≤ k) (h : p + 1 + k ≤ s.size) : val (own s p j) ≤ val (own s p k) := by
  induction k with
  | zero => have : j = 0 := by omega
            subst this; exact Nat.le_refl _
  | succ k ih =>
    rcases Nat.lt_or_ge j (k + 1) with h1 | h1
    · have := ih (by omega) (by omega)
      rw [own_snoc s p k (by omega), val_snoc]; omega
    · have : j = k + 1 := by omega
      subst this; exact Nat.le_refl _

theorem rdNum_neg (l : List UInt8) (p : Int) (h : p < 0 ∨ (l.length : Int) < p) : rdNum l p = (0, 0, 4) := by
  unfold rdNum; rw [if_pos h]
theorem rdNum_end (s : ByteArray) : rdNum s.data.toList s.size = (0, 0, 5) := by
  unfold rdNum
  rw [bytes_len, if_neg (by omega), Int.toNat_natCast, List.drop_of_length_le (by rw [bytes_len]; omega)]
theorem rdNum_at (s : ByteArray) (p : Nat) (hp : p < s.size) : rdNum s.data.toList p =
    if 8 < s[p].toNat then (0, 0, 6) else
    if s.size < p + 1 + s[p].toNat then (0, 0, 5) else
    if (own s p s[p].toNat).head? = some 0 ∨ 2 ^ 63 ≤ val (own s p s[p].toNat) then (0, 0, 6) else
        (((val (own s p s[p].toNat) : Nat) : Int), (p : Int) + 1 + ((s[p].toNat : Nat) : Int), (0 : Int)) := by
  unfold rdNum
  rw [bytes_len, if_neg (by omega), Int.toNat_natCast, bytes_drop s p hp]
  simp only
  by_cases h8 : 8 < s[p].toNat
  · rw [if_pos h8, if_pos h8]
  rw [if_neg h8, if_neg h8]
  have e : (s.data.toList.drop (p + 1)).length = s.size - (p + 1) := by rw [List.length_drop, bytes_len]
  rw [e]
  by_cases h9 : s.size < p + 1 + s[p].toNat
  · rw [if_pos h9, if_pos (by omega)]
  · rw [if_neg h9, if_neg (by omega)]; rfl
theorem rdNum_big (s : ByteArray) (p : Nat) (hp : p < s.size) (h : 8 < s[p].toNat) : rdNum s.data.toList p = (0, 0, 6) := by
  rw [rdNum_at s p hp, if_pos h]
theorem rdNum_short (s : ByteArray) (p : Nat) (hp : p < s.size) (h : s[p].toNat ≤ 8) (h2 : s.size < p + 1 + s[p].toNat) : rdNum s.data.toList p = (0, 0, 5) := by
  rw [rdNum_at s p hp, if_neg (by omega), if_pos h2]
theorem rdNum_bad (s : ByteArray) (p : Nat) (hp : p < s.size) (h : s[p].toNat ≤ 8) (h2 : p + 1 + s[p].toNat ≤ s.size)
    (h3 : (own s p s[p].toNat).head? = some 0 ∨ 2 ^ 63 ≤ val (own s p s[p].toNat)) : rdNum s.data.toList p = (0, 0, 6) := by
  rw [rdNum_at s p hp, if_neg (by omega), if_neg (by omega), if_pos h3]
theorem rdNum_fine (s : ByteArray) (p : Nat) (hp : p < s.size) (h : s[p].toNat ≤ 8) (h2 : p + 1 + s[p].toNat ≤ s.size)
    (h3 : ¬ ((own s p s[p].toNat).head? = some 0 ∨ 2 ^ 63 ≤ val (own s p s[p].toNat))) : rdNum s.data.toList p = (((val (own s p s[p].toNat) : Nat) : Int), (p : Int) + 1 + ((s[p].toNat : Nat) : Int), (0 : Int)) := by
  rw [rdNum_at s p hp, if_neg (by omega), if_neg (by omega), if_neg h3]

theorem head_zero (s : ByteArray) (p k : Nat) (h : p + 1 + k ≤ s.size) (hk : 0 < k) : ((own s p k).head? = some 0) ↔ (s[p + 1]'(by omega)).toNat = 0 := by
  rw [own_head s p k h hk]
  simp only [List.head?_cons, Option.some.injEq]
  constructor
  · intro e; rw [e]; rfl
  · intro e; exact UInt8.toNat_inj.1 (by simpa using e)
theorem own_zero (s : ByteArray) (p : Nat) : own s p 0 = [] := rfl
theorem val_small (s : ByteArray) (p k : Nat) (hk : k ≤ 7) (h : p + 1 + k ≤ s.size) : val (own s p k) < 2 ^ 63 := by
  have h1 := val_lt (own s p k)
  rw [own_len s p k h] at h1
  have h2 : 256 ^ k ≤ 256 ^ 7 := Nat.pow_le_pow_right (by decide) hk
  have h3 : (256 : Nat) ^ 7 < 2 ^ 63 := by decide
  omega
theorem val_top (s : ByteArray) (p : Nat) (h : p + 1 + 8 ≤ s.size) : 2 ^ 63 ≤ val (own s p 8) ↔ 127 < (s[p + 1]'(by omega)).toNat := by
  have e := own_head s p 8 h (by omega)
  have hl : ((s.data.toList.drop (p + 2)).take (8 - 1)).length = 7 := by rw [List.length_take, List.length_drop, bytes_len]; omega
  have hr := val_lt ((s.data.toList.drop (p + 2)).take (8 - 1))
  rw [hl] at hr
  rw [e, val_cons, hl]
  generalize val ((s.data.toList.drop (p + 2)).take (8 - 1)) = v at *
  generalize (s[p + 1]'(by omega)).toNat = b
  have e7 : (256 : Nat) ^ 7 = 72057594037927936 := by decide
  have e63 : (2 : Nat) ^ 63 = 128 * 72057594037927936 := by decide
  rw [e7] at *; rw [e63]
  omega
theorem or_byte (m b : Nat) (h : b < 256) : (m * 256) ||| b = m * 256 + b := by
  have := Nat.shiftLeft_add_eq_or_of_lt (i := 8) (b := b) (by simpa using h) m
  rw [Nat.shiftLeft_eq] at this
  exact this.symm
end Oct
end Go.Proofs.Ytmcdanodacbpbaa
namespace Go.Proofs.Ytmcdanodacbpbaa
open Go.RowKit
set_option linter.unusedVariables false
set_option linter.unusedSimpArgs false

def three (a b c : Int) : Value := .tuple #[.int .i64 a, .int .i64 b, .int .i64 c]
def rdNumV (s : ByteArray) (p : Int) : Value := three (Oct.rdNum s.data.toList p).1 (Oct.rdNum s.data.toList p).2.1 (Oct.rdNum s.data.toList p).2.2

set_option maxHeartbeats 400000 in
theorem readNumber_out (s : ByteArray) (p : Int) (w : World) (hs : s.size ≤ 9223372036854775807) (h : p < 0 ∨ (s.size : Int) < p) :
    Calls Try.prog 21 #[.string s, .int .i64 p] w fun e w' => e = .returned (three 0 0 4) ∧ w = w' := by
  by_cases h0 : p < 0
  · have hd : decide (p < 0) = true := by simpa using h0
    go_enter Try.func21, Try.ntmps21
    go_wp2
    go_ret3
    exact ⟨rfl, rfl⟩
  · have hd : decide (p < 0) = false := by simpa using h0
    have h1 : (s.size : Int) < p := by omega
    have hd1 : decide ((s.size : Int) < p) = true := by simpa using h1
    go_enter Try.func21, Try.ntmps21
    go_wp2
    go_ret3
    exact ⟨rfl, rfl⟩
set_option maxHeartbeats 400000 in
theorem readNumber_end (s : ByteArray) (w : World) (hs : s.size ≤ 9223372036854775807) :
    Calls Try.prog 21 #[.string s, .int .i64 s.size] w fun e w' => e = .returned (three 0 0 5) ∧ w = w' := by
  go_enter Try.func21, Try.ntmps21
  go_wp2
  go_ret3
  exact ⟨rfl, rfl⟩
theorem byte_le (b : UInt8) : (b.toNat : Int) ≤ 255 := by have := b.toNat_lt; omega
set_option maxHeartbeats 400000 in
theorem readNumber_big (s : ByteArray) (p : Nat) (w : World) (hs : s.size ≤ 9223372036854775807) (hp : p < s.size) (hk : 8 < s[p].toNat) :
    Calls Try.prog 21 #[.string s, .int .i64 p] w fun e w' => e = .returned (three 0 0 6) ∧ w = w' := by
  have hd : decide ((p : Int) < 0) = false := by simp
  have hd1 : decide (s.size < p) = false := by simp; omega
  have hd2 : ((p : Int) == (s.size : Int)) = false := by simp; omega
  have hb := byte_le s[p]
  have hd3 : decide ((8 : Int) < (s[p].toNat : Int)) = true := by simp; omega
  go_enter Try.func21, Try.ntmps21
  go_wp2
  go_ret3
  exact ⟨rfl, rfl⟩
set_option maxHeartbeats 400000 in
theorem readNumber_short (s : ByteArray) (p : Nat) (w : World) (hs : s.size ≤ 9223372036854775807) (hp : p < s.size) (hk : s[p].toNat ≤ 8) (hk2 : s.size < p + 1 + s[p].toNat) :
    Calls Try.prog 21 #[.string s, .int .i64 p] w fun e w' => e = .returned (three 0 0 5) ∧ w = w' := by
  have hd : decide ((p : Int) < 0) = false := by simp
  have hd1 : decide (s.size < p) = false := by simp; omega
  have hd2 : ((p : Int) == (s.size : Int)) = false := by simp; omega
  have hb := byte_le s[p]
  have hd3 : decide ((8 : Int) < (s[p].toNat : Int)) = false := by simp; omega
  have hd4 : decide ((s.size : Int) - ((p : Int) + 1) < (s[p].toNat : Int)) = true := by simp; omega
  go_enter Try.func21, Try.ntmps21
  go_wp2
  go_ret3
  exact ⟨rfl, rfl⟩
set_option maxHeartbeats 400000 in
theorem readNumber_zero (s : ByteArray) (p : Nat) (w : World) (hs : s.size ≤ 9223372036854775807) (hp : p < s.size) (hk : s[p].toNat ≤ 8) (hk2 : p + 1 + s[p].toNat ≤ s.size)
    (hk3 : 0 < s[p].toNat) (h0 : s[p + 1].toNat = 0) :
    Calls Try.prog 21 #[.string s, .int .i64 p] w fun e w' => e = .returned (three 0 0 6) ∧ w = w' := by
  have hd : decide ((p : Int) < 0) = false := by simp
  have hd1 : decide (s.size < p) = false := by simp; omega
  have hd2 : ((p : Int) == (s.size : Int)) = false := by simp; omega
  have hb := byte_le s[p]
  have hd3 : decide ((8 : Int) < (s[p].toNat : Int)) = false := by simp; omega
  have hd4 : decide ((s.size : Int) - ((p : Int) + 1) < (s[p].toNat : Int)) = false := by simp; omega
  have hd5 : decide ((0 : Int) < (s[p].toNat : Int)) = true := by simp; omega
  have hd6 : decide (0 < s[p].toNat) = true := by simp; omega
  have hd7 : ((s[p + 1].toNat : Int) == 0) = true := by simp [h0]
  have hp1 : p + 1 < s.size := by omega
  have hp2 : (p : Int) + 1 < s.size := by omega
  have H0 := Lib.hid h0; clear h0
  go_enter Try.func21, Try.ntmps21
  go_wp2
  go_ret3
  exact ⟨rfl, rfl⟩
set_option maxHeartbeats 400000 in
theorem readNumber_top (s : ByteArray) (p : Nat) (w : World) (hs : s.size ≤ 9223372036854775807) (hp : p < s.size) (hk : s[p].toNat ≤ 8) (hk' : 8 ≤ s[p].toNat) (hk2 : p + 1 + s[p].toNat ≤ s.size)
    (h0 : 127 < s[p + 1].toNat) :
    Calls Try.prog 21 #[.string s, .int .i64 p] w fun e w' => e = .returned (three 0 0 6) ∧ w = w' := by
  have hd : decide ((p : Int) < 0) = false := by simp
  have hd1 : decide (s.size < p) = false := by simp; omega
  have hd2 : ((p : Int) == (s.size : Int)) = false := by simp; omega
  have hb := byte_le s[p]
  have hd3 : decide ((8 : Int) < (s[p].toNat : Int)) = false := by simp; omega
  have hd4 : decide ((s.size : Int) - ((p : Int) + 1) < (s[p].toNat : Int)) = false := by simp; omega
  have hd5 : decide ((0 : Int) < (s[p].toNat : Int)) = true := by simp; omega
  have hd6 : decide (0 < s[p].toNat) = true := by simp; omega
  have hd7 : ((s[p + 1].toNat : Int) == 0) = false := by simp; omega
  have hd8 : ((s[p].toNat : Int) == 8) = true := by simp; omega
  have hd9 : decide ((127 : Int) < (s[p + 1].toNat : Int)) = true := by simp; omega
  have hp1 : p + 1 < s.size := by omega
  have hp2 : (p : Int) + 1 < s.size := by omega
  go_enter Try.func21, Try.ntmps21
  go_wp2
  go_ret3
  exact ⟨rfl, rfl⟩
theorem toNat_ofInt64 (a : Nat) (ha : a ≤ 9223372036854775807) : (BitVec.ofInt 64 (a : Int)).toNat = a := by
  simp only [BitVec.ofInt_natCast, BitVec.toNat_ofNat]
  exact Nat.mod_eq_of_lt (by omega)
theorem or_i64 (m b : Nat) (hb : b < 256) (hm : m * 256 + b ≤ 9223372036854775807) : bits .or .i64 ((m : Int) * 256) (b : Int) = ((m * 256 + b : Nat) : Int) := by
  have h1 : m * 256 ≤ 9223372036854775807 := Nat.le_trans (Nat.le_add_right _ _) hm
  have h2 : b ≤ 9223372036854775807 := Nat.le_trans (Nat.le_add_left _ _) hm
  have e : (m : Int) * 256 = ((m * 256 : Nat) : Int) := by omega
  rw [e]
  show IntKind.i64.wrap ((BitVec.ofInt 64 ((m * 256 : Nat) : Int) ||| BitVec.ofInt 64 (b : Int)).toNat : Int) = _
  rw [BitVec.toNat_or, toNat_ofInt64 (m * 256) h1, toNat_ofInt64 b h2, Oct.or_byte m b hb, IntKind.wrap_i64]
  omega
theorem getD_bytes (s : ByteArray) (p : Nat) (h : p < s.size) : s.data.toList.getD p 0 = s[p] := by
  have h' : p < s.data.toList.length := by simpa using h
  rw [List.getD_eq_getElem?_getD, List.getElem?_eq_getElem h', Option.getD_some]; rfl
set_option maxHeartbeats 800000 in
theorem readNumber_loop (s : ByteArray) (p : Nat) (w : World) (hs : s.size ≤ 9223372036854775807) (hp : p < s.size) (hk : s[p].toNat ≤ 8) (hk2 : p + 1 + s[p].toNat ≤ s.size)
    (h1 : (0 < s[p].toNat) → 0 < (s.data.toList.getD (p + 1) 0).toNat) (h2 : s[p].toNat = 8 → (s.data.toList.getD (p + 1) 0).toNat ≤ 127) (hv : Oct.val (Oct.own s p s[p].toNat) < 2 ^ 63) :
    Calls Try.prog 21 #[.string s, .int .i64 p] w fun e w' => e = .returned (three (Oct.val (Oct.own s p s[p].toNat)) (p + 1 + s[p].toNat) 0) ∧ w = w' := by
  have hd : decide ((p : Int) < 0) = false := by simp
  have hd1 : decide (s.size < p) = false := by simp; omega
  have hd2 : ((p : Int) == (s.size : Int)) = false := by simp; omega
  have hb := byte_le s[p]
  have hd3 : decide ((8 : Int) < (s[p].toNat : Int)) = false := by simp; omega
  have hd4 : decide ((s.size : Int) - ((p : Int) + 1) < (s[p].toNat : Int)) = false := by simp; omega
  have Hv := Lib.hid hv; clear hv
  by_cases hk0 : 0 < s[p].toNat
  · have hp1 : p + 1 < s.size := by omega
    have hp2 : (p : Int) + 1 < s.size := by omega
    have eg := getD_bytes s (p + 1) hp1
    rw [eg] at h1 h2
    have h1' := h1 hk0
    have hd5 : decide ((0 : Int) < (s[p].toNat : Int)) = true := by simp; omega
    have hd6 : decide (0 < s[p].toNat) = true := by simp; omega
    have hd7 : ((s[p + 1].toNat : Int) == 0) = false := by simp; omega
    clear eg h1
    by_cases hk8 : 8 ≤ s[p].toNat
    · have hd8 : ((s[p].toNat : Int) == 8) = true := by simp; omega
      have h2' := h2 (by omega)
      have hd9 : decide ((127 : Int) < (s[p + 1].toNat : Int)) = false := by simp; omega
      clear h2
      go_enter Try.func21, Try.ntmps21
      go_wp2
      go_loop [8, 55] (fun n c => ∃ j : Nat, j ≤ s[p].toNat ∧ c = .int .i64 j ∧ n = .int .i64 (Oct.val (Oct.own s p j))) (fun _ c => s[p].toNat - (intOf c).toNat)
      case atStart => exact ⟨0, by omega, rfl, rfl⟩
      case round =>
        obtain ⟨j, hj, rfl, rfl⟩ := hrel
        by_cases hlt : j < s[p].toNat
        · have hsn := Oct.own_snoc s p j (by omega)
          have hle := Oct.own_val_le s p (j + 1) s[p].toNat (by omega) (by omega)
          have hvs : Oct.val (Oct.own s p (j + 1)) = Oct.val (Oct.own s p j) * 256 + (s[p + 1 + j]'(by omega)).toNat := by rw [hsn, Oct.val_snoc]
          have hvv := Hv.out
          have hor := or_i64 (Oct.val (Oct.own s p j)) (s[p + 1 + j]'(by omega)).toNat (by have := (s[p + 1 + j]'(by omega)).toNat_lt; omega) (by omega)
          have hb2 := byte_le (s[p + 1 + j]'(by omega))
          have hb3 : (Oct.val (Oct.own s p j) : Int) * 256 ≤ 9223372036854775807 := by omega
          rw [← hvs] at hor
          have Hor := Lib.hid hor
          clear hor hvs hsn hle hvv
          go_wp2
          go_round
          case rel => exact ⟨j + 1, by omega, by go_num, by rw [Hor.out]⟩
          case measure => simp [intOf]; omega
        · have ej : j = s[p].toNat := by omega
          have Ej := Lib.hid ej; clear ej
          go_wp2
          go_ret3
          rw [Ej.out]
          exact ⟨rfl, rfl⟩
    · have hd8 : ((s[p].toNat : Int) == 8) = false := by simp; omega
      clear h2
      go_enter Try.func21, Try.ntmps21
      go_wp2
      go_loop [8, 55] (fun n c => ∃ j : Nat, j ≤ s[p].toNat ∧ c = .int .i64 j ∧ n = .int .i64 (Oct.val (Oct.own s p j))) (fun _ c => s[p].toNat - (intOf c).toNat)
      case atStart => exact ⟨0, by omega, rfl, rfl⟩
      case round =>
        obtain ⟨j, hj, rfl, rfl⟩ := hrel
        by_cases hlt : j < s[p].toNat
        · have hsn := Oct.own_snoc s p j (by omega)
          have hle := Oct.own_val_le s p (j + 1) s[p].toNat (by omega) (by omega)
          have hvs : Oct.val (Oct.own s p (j + 1)) = Oct.val (Oct.own s p j) * 256 + (s[p + 1 + j]'(by omega)).toNat := by rw [hsn, Oct.val_snoc]
          have hvv := Hv.out
          have hor := or_i64 (Oct.val (Oct.own s p j)) (s[p + 1 + j]'(by omega)).toNat (by have := (s[p + 1 + j]'(by omega)).toNat_lt; omega) (by omega)
          have hb2 := byte_le (s[p + 1 + j]'(by omega))
          have hb3 : (Oct.val (Oct.own s p j) : Int) * 256 ≤ 9223372036854775807 := by omega
          rw [← hvs] at hor
          have Hor := Lib.hid hor
          clear hor hvs hsn hle hvv
          go_wp2
          go_round
          case rel => exact ⟨j + 1, by omega, by go_num, by rw [Hor.out]⟩
          case measure => simp [intOf]; omega
        · have ej : j = s[p].toNat := by omega
          have Ej := Lib.hid ej; clear ej
          go_wp2
          go_ret3
          rw [Ej.out]
          exact ⟨rfl, rfl⟩
  · have hk8 : s[p].toNat ≤ 0 := by omega
    have hd5 : decide ((0 : Int) < (s[p].toNat : Int)) = false := by simp; omega
    have hd6 : decide (0 < s[p].toNat) = false := by simp; omega
    have hd8 : ((s[p].toNat : Int) == 8) = false := by simp; omega
    clear h1 h2
    go_enter Try.func21, Try.ntmps21
    go_wp2
    go_loop [8, 55] (fun n c => ∃ j : Nat, j ≤ s[p].toNat ∧ c = .int .i64 j ∧ n = .int .i64 (Oct.val (Oct.own s p j))) (fun _ c => s[p].toNat - (intOf c).toNat)
    case atStart => exact ⟨0, by omega, rfl, rfl⟩
    case round =>
      obtain ⟨j, hj, rfl, rfl⟩ := hrel
      by_cases hlt : j < s[p].toNat
      · omega
      · have ej : j = s[p].toNat := by omega
        have Ej := Lib.hid ej; clear ej
        go_wp2
        go_ret3
        rw [Ej.out]
        exact ⟨rfl, rfl⟩
theorem readNumber_any (s : ByteArray) (p : Int) (w : World) (hs : s.size ≤ 9223372036854775807) :
    Calls Try.prog 21 #[.string s, .int .i64 p] w fun e w' => e = .returned (rdNumV s p) ∧ w = w' := by
  have hl := Oct.bytes_len s
  unfold rdNumV
  by_cases h0 : p < 0 ∨ (s.size : Int) < p
  · rw [Oct.rdNum_neg _ _ (by rw [hl]; exact h0)]
    exact readNumber_out s p w hs h0
  obtain ⟨k, rfl⟩ := Int.eq_ofNat_of_zero_le (show 0 ≤ p by omega)
  by_cases h1 : k = s.size
  · subst h1
    rw [Oct.rdNum_end]
    exact readNumber_end s w hs
  have hp : k < s.size := by omega
  by_cases h2 : 8 < s[k].toNat
  · rw [Oct.rdNum_big s k hp h2]
    exact readNumber_big s k w hs hp h2
  by_cases h3 : s.size < k + 1 + s[k].toNat
  · rw [Oct.rdNum_short s k hp (by omega) h3]
    exact readNumber_short s k w hs hp (by omega) h3
  by_cases h4 : (0 < s[k].toNat) ∧ (s.data.toList.getD (k + 1) 0).toNat = 0
  · have e := getD_bytes s (k + 1) (by omega)
    rw [e] at h4
    rw [Oct.rdNum_bad s k hp (by omega) (by omega) (.inl ((Oct.head_zero s k _ (by omega) h4.1).2 h4.2))]
    exact readNumber_zero s k w hs hp (by omega) (by omega) h4.1 h4.2
  by_cases h5 : s[k].toNat = 8 ∧ 127 < (s.data.toList.getD (k + 1) 0).toNat
  · have e := getD_bytes s (k + 1) (by omega)
    rw [e] at h5 h4
    have h6 := (Oct.val_top s k (by omega)).2 h5.2
    rw [Oct.rdNum_bad s k hp (by omega) (by omega) (.inr (by rw [h5.1]; exact h6))]
    exact readNumber_top s k w hs hp (by omega) (by omega) (by omega) h5.2
  have hv : Oct.val (Oct.own s k s[k].toNat) < 2 ^ 63 := by
    rcases Nat.lt_or_ge s[k].toNat 8 with h | h
    · exact Oct.val_small s k _ (by omega) (by omega)
    · have e8 : s[k].toNat = 8 := by omega
      have e := getD_bytes s (k + 1) (by omega)
      rw [e8]
      rcases Nat.lt_or_ge (Oct.val (Oct.own s k 8)) (2 ^ 63) with h9 | h9
      · exact h9
      · exact absurd ⟨e8, by rw [e]; exact (Oct.val_top s k (by omega)).1 h9⟩ h5
  have hf := Oct.rdNum_fine s k hp (by omega) (by omega) (by
    rintro (h | h)
    · rcases Nat.eq_zero_or_pos s[k].toNat with h7 | h7
      · rw [h7, Oct.own_zero] at h; simp at h
      · refine h4 ⟨h7, ?_⟩
        have e := getD_bytes s (k + 1) (by omega)
        rw [e]; exact (Oct.head_zero s k _ (by omega) h7).1 h
    · omega)
  rw [hf]
  exact readNumber_loop s k w hs hp (by omega) (by omega) (fun h => by
    rcases Nat.eq_zero_or_pos (s.data.toList.getD (k + 1) 0).toNat with h7 | h7
    · exact absurd ⟨h, h7⟩ h4
    · exact h7) (fun h => by
    rcases Nat.lt_or_ge 127 (s.data.toList.getD (k + 1) 0).toNat with h7 | h7
    · exact absurd ⟨h, h7⟩ h5
    · exact h7) hv
end Go.Proofs.Ytmcdanodacbpbaa
