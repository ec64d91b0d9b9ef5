/- octets.ReadNumber: what it returns. -/
import Derived.Test.YtpphljdnnlfjhaaDoorChecked
import Derived.Test.YtpphljdnnlfjhaaDoorOctSpec
import Derived.WalkKit
import Derived.Below
import Derived.Lib.Hide
import Derived.LoopTactic
import Derived.Outline
import Derived.Laws.BitsAllLaws
import Derived.Laws.BitsLemmas
import Derived.BigQuiet
import Derived.Deep.QuietTactic
namespace Go.Proofs.YtpphljdnnlfjhaaDoor
open Go.RowKit
set_option linter.unusedVariables false
set_option linter.unusedSimpArgs false

def three (a b c : Int) : Value := .tuple #[.int .i64 a, .int .i64 b, .int .i64 c]
def rdNumV (s : ByteArray) (p : Int) : Value := three (Oct.rdNum s.data.toList p).1 (Oct.rdNum s.data.toList p).2.1 (Oct.rdNum s.data.toList p).2.2

set_option maxHeartbeats 400000 in
theorem readNumber_out (s : ByteArray) (p : Int) (w : World) (hs : s.size ≤ 9223372036854775807) (h : p < 0 ∨ (s.size : Int) < p) :
    Calls Tryd.prog 44 #[.string s, .int .i64 p] w fun e w' => e = .returned (three 0 0 4) ∧ w = w' := by
  by_cases h0 : p < 0
  · have hd : decide (p < 0) = true := by simpa using h0
    go_enter Tryd.func44, Tryd.ntmps44
    go_wp2
    go_ret3
    exact ⟨rfl, rfl⟩
  · have hd : decide (p < 0) = false := by simpa using h0
    have h1 : (s.size : Int) < p := by omega
    have hd1 : decide ((s.size : Int) < p) = true := by simpa using h1
    go_enter Tryd.func44, Tryd.ntmps44
    go_wp2
    go_ret3
    exact ⟨rfl, rfl⟩
set_option maxHeartbeats 400000 in
theorem readNumber_end (s : ByteArray) (w : World) (hs : s.size ≤ 9223372036854775807) :
    Calls Tryd.prog 44 #[.string s, .int .i64 s.size] w fun e w' => e = .returned (three 0 0 5) ∧ w = w' := by
  go_enter Tryd.func44, Tryd.ntmps44
  go_wp2
  go_ret3
  exact ⟨rfl, rfl⟩
theorem byte_le (b : UInt8) : (b.toNat : Int) ≤ 255 := by have := b.toNat_lt; omega
set_option maxHeartbeats 400000 in
theorem readNumber_big (s : ByteArray) (p : Nat) (w : World) (hs : s.size ≤ 9223372036854775807) (hp : p < s.size) (hk : 8 < s[p].toNat) :
    Calls Tryd.prog 44 #[.string s, .int .i64 p] w fun e w' => e = .returned (three 0 0 6) ∧ w = w' := by
  have hd : decide ((p : Int) < 0) = false := by simp
  have hd1 : decide (s.size < p) = false := by simp; omega
  have hd2 : ((p : Int) == (s.size : Int)) = false := by simp; omega
  have hb := byte_le s[p]
  have hd3 : decide ((8 : Int) < (s[p].toNat : Int)) = true := by simp; omega
  go_enter Tryd.func44, Tryd.ntmps44
  go_wp2
  go_ret3
  exact ⟨rfl, rfl⟩
set_option maxHeartbeats 400000 in
theorem readNumber_short (s : ByteArray) (p : Nat) (w : World) (hs : s.size ≤ 9223372036854775807) (hp : p < s.size) (hk : s[p].toNat ≤ 8) (hk2 : s.size < p + 1 + s[p].toNat) :
    Calls Tryd.prog 44 #[.string s, .int .i64 p] w fun e w' => e = .returned (three 0 0 5) ∧ w = w' := by
  have hd : decide ((p : Int) < 0) = false := by simp
  have hd1 : decide (s.size < p) = false := by simp; omega
  have hd2 : ((p : Int) == (s.size : Int)) = false := by simp; omega
  have hb := byte_le s[p]
  have hd3 : decide ((8 : Int) < (s[p].toNat : Int)) = false := by simp; omega
  have hd4 : decide ((s.size : Int) - ((p : Int) + 1) < (s[p].toNat : Int)) = true := by simp; omega
  go_enter Tryd.func44, Tryd.ntmps44
  go_wp2
  go_ret3
  exact ⟨rfl, rfl⟩
set_option maxHeartbeats 400000 in
theorem readNumber_zero (s : ByteArray) (p : Nat) (w : World) (hs : s.size ≤ 9223372036854775807) (hp : p < s.size) (hk : s[p].toNat ≤ 8) (hk2 : p + 1 + s[p].toNat ≤ s.size)
    (hk3 : 0 < s[p].toNat) (h0 : s[p + 1].toNat = 0) :
    Calls Tryd.prog 44 #[.string s, .int .i64 p] w fun e w' => e = .returned (three 0 0 6) ∧ w = w' := by
  have hd : decide ((p : Int) < 0) = false := by simp
  have hd1 : decide (s.size < p) = false := by simp; omega
  have hd2 : ((p : Int) == (s.size : Int)) = false := by simp; omega
  have hb := byte_le s[p]
  have hd3 : decide ((8 : Int) < (s[p].toNat : Int)) = false := by simp; omega
  have hd4 : decide ((s.size : Int) - ((p : Int) + 1) < (s[p].toNat : Int)) = false := by simp; omega
  have hd5 : decide ((0 : Int) < (s[p].toNat : Int)) = true := by simp; omega
  have hd6 : decide (0 < s[p].toNat) = true := by simp; omega
  have hd7 : ((s[p + 1].toNat : Int) == 0) = true := by simp [h0]
  have hp1 : p + 1 < s.size := by omega
  have hp2 : (p : Int) + 1 < s.size := by omega
  have H0 := Lib.hid h0; clear h0
  go_enter Tryd.func44, Tryd.ntmps44
  go_wp2
  go_ret3
  exact ⟨rfl, rfl⟩
set_option maxHeartbeats 400000 in
theorem readNumber_top (s : ByteArray) (p : Nat) (w : World) (hs : s.size ≤ 9223372036854775807) (hp : p < s.size) (hk : s[p].toNat ≤ 8) (hk' : 8 ≤ s[p].toNat) (hk2 : p + 1 + s[p].toNat ≤ s.size)
    (h0 : 127 < s[p + 1].toNat) :
    Calls Tryd.prog 44 #[.string s, .int .i64 p] w fun e w' => e = .returned (three 0 0 6) ∧ w = w' := by
  have hd : decide ((p : Int) < 0) = false := by simp
  have hd1 : decide (s.size < p) = false := by simp; omega
  have hd2 : ((p : Int) == (s.size : Int)) = false := by simp; omega
  have hb := byte_le s[p]
  have hd3 : decide ((8 : Int) < (s[p].toNat : Int)) = false := by simp; omega
  have hd4 : decide ((s.size : Int) - ((p : Int) + 1) < (s[p].toNat : Int)) = false := by simp; omega
  have hd5 : decide ((0 : Int) < (s[p].toNat : Int)) = true := by simp; omega
  have hd6 : decide (0 < s[p].toNat) = true := by simp; omega
  have hd7 : ((s[p + 1].toNat : Int) == 0) = false := by simp; omega
  have hd8 : ((s[p].toNat : Int) == 8) = true := by simp; omega
  have hd9 : decide ((127 : Int) < (s[p + 1].toNat : Int)) = true := by simp; omega
  have hp1 : p + 1 < s.size := by omega
  have hp2 : (p : Int) + 1 < s.size := by omega
  go_enter Tryd.func44, Tryd.ntmps44
  go_wp2
  go_ret3
  exact ⟨rfl, rfl⟩
theorem toNat_ofInt64 (a : Nat) (ha : a ≤ 9223372036854775807) : (BitVec.ofInt 64 (a : Int)).toNat = a := by
  simp only [BitVec.ofInt_natCast, BitVec.toNat_ofNat]
  exact Nat.mod_eq_of_lt (by omega)
theorem or_i64 (m b : Nat) (hb : b < 256) (hm : m * 256 + b ≤ 9223372036854775807) : bits .or .i64 ((m : Int) * 256) (b : Int) = ((m * 256 + b : Nat) : Int) := by
  have h1 : m * 256 ≤ 9223372036854775807 := Nat.le_trans (Nat.le_add_right _ _) hm
  have h2 : b ≤ 9223372036854775807 := Nat.le_trans (Nat.le_add_left _ _) hm
  have e : (m : Int) * 256 = ((m * 256 : Nat) : Int) := by omega
  rw [e]
  show IntKind.i64.wrap ((BitVec.ofInt 64 ((m * 256 : Nat) : Int) ||| BitVec.ofInt 64 (b : Int)).toNat : Int) = _
  rw [BitVec.toNat_or, toNat_ofInt64 (m * 256) h1, toNat_ofInt64 b h2, Oct.or_byte m b hb, IntKind.wrap_i64]
  omega
theorem getD_bytes (s : ByteArray) (p : Nat) (h : p < s.size) : s.data.toList.getD p 0 = s[p] := by
  have h' : p < s.data.toList.length := by simpa using h
  rw [List.getD_eq_getElem?_getD, List.getElem?_eq_getElem h', Option.getD_some]; rfl
set_option maxHeartbeats 800000 in
theorem readNumber_loop (s : ByteArray) (p : Nat) (w : World) (hs : s.size ≤ 9223372036854775807) (hp : p < s.size) (hk : s[p].toNat ≤ 8) (hk2 : p + 1 + s[p].toNat ≤ s.size)
    (h1 : (0 < s[p].toNat) → 0 < (s.data.toList.getD (p + 1) 0).toNat) (h2 : s[p].toNat = 8 → (s.data.toList.getD (p + 1) 0).toNat ≤ 127) (hv : Oct.val (Oct.own s p s[p].toNat) < 2 ^ 63) :
    Calls Tryd.prog 44 #[.string s, .int .i64 p] w fun e w' => e = .returned (three (Oct.val (Oct.own s p s[p].toNat)) (p + 1 + s[p].toNat) 0) ∧ w = w' := by
  have hd : decide ((p : Int) < 0) = false := by simp
  have hd1 : decide (s.size < p) = false := by simp; omega
  have hd2 : ((p : Int) == (s.size : Int)) = false := by simp; omega
  have hb := byte_le s[p]
  have hd3 : decide ((8 : Int) < (s[p].toNat : Int)) = false := by simp; omega
  have hd4 : decide ((s.size : Int) - ((p : Int) + 1) < (s[p].toNat : Int)) = false := by simp; omega
  have Hv := Lib.hid hv; clear hv
  by_cases hk0 : 0 < s[p].toNat
  · have hp1 : p + 1 < s.size := by omega
    have hp2 : (p : Int) + 1 < s.size := by omega
    have eg := getD_bytes s (p + 1) hp1
    rw [eg] at h1 h2
    have h1' := h1 hk0
    have hd5 : decide ((0 : Int) < (s[p].toNat : Int)) = true := by simp; omega
    have hd6 : decide (0 < s[p].toNat) = true := by simp; omega
    have hd7 : ((s[p + 1].toNat : Int) == 0) = false := by simp; omega
    clear eg h1
    by_cases hk8 : 8 ≤ s[p].toNat
    · have hd8 : ((s[p].toNat : Int) == 8) = true := by simp; omega
      have h2' := h2 (by omega)
      have hd9 : decide ((127 : Int) < (s[p + 1].toNat : Int)) = false := by simp; omega
      clear h2
      go_enter Tryd.func44, Tryd.ntmps44
      go_wp2
      go_loop [8, 55] (fun n c => ∃ j : Nat, j ≤ s[p].toNat ∧ c = .int .i64 j ∧ n = .int .i64 (Oct.val (Oct.own s p j))) (fun _ c => s[p].toNat - (intOf c).toNat)
      case atStart => exact ⟨0, by omega, rfl, rfl⟩
      case round =>
        obtain ⟨j, hj, rfl, rfl⟩ := hrel
        by_cases hlt : j < s[p].toNat
        · have hsn := Oct.own_snoc s p j (by omega)
          have hle := Oct.own_val_le s p (j + 1) s[p].toNat (by omega) (by omega)
          have hvs : Oct.val (Oct.own s p (j + 1)) = Oct.val (Oct.own s p j) * 256 + (s[p + 1 + j]'(by omega)).toNat := by rw [hsn, Oct.val_snoc]
          have hvv := Hv.out
          have hor := or_i64 (Oct.val (Oct.own s p j)) (s[p + 1 + j]'(by omega)).toNat (by have := (s[p + 1 + j]'(by omega)).toNat_lt; omega) (by omega)
          have hb2 := byte_le (s[p + 1 + j]'(by omega))
          have hb3 : (Oct.val (Oct.own s p j) : Int) * 256 ≤ 9223372036854775807 := by omega
          rw [← hvs] at hor
          have Hor := Lib.hid hor
          clear hor hvs hsn hle hvv
          go_wp2
          go_round
          case rel => exact ⟨j + 1, by omega, by go_num, by rw [Hor.out]⟩
          case measure => simp [intOf]; omega
        · have ej : j = s[p].toNat := by omega
          have Ej := Lib.hid ej; clear ej
          go_wp2
          go_ret3
          rw [Ej.out]
          exact ⟨rfl, rfl⟩
    · have hd8 : ((s[p].toNat : Int) == 8) = false := by simp; omega
      clear h2
      go_enter Tryd.func44, Tryd.ntmps44
      go_wp2
      go_loop [8, 55] (fun n c => ∃ j : Nat, j ≤ s[p].toNat ∧ c = .int .i64 j ∧ n = .int .i64 (Oct.val (Oct.own s p j))) (fun _ c => s[p].toNat - (intOf c).toNat)
      case atStart => exact ⟨0, by omega, rfl, rfl⟩
      case round =>
        obtain ⟨j, hj, rfl, rfl⟩ := hrel
        by_cases hlt : j < s[p].toNat
        · have hsn := Oct.own_snoc s p j (by omega)
          have hle := Oct.own_val_le s p (j + 1) s[p].toNat (by omega) (by omega)
          have hvs : Oct.val (Oct.own s p (j + 1)) = Oct.val (Oct.own s p j) * 256 + (s[p + 1 + j]'(by omega)).toNat := by rw [hsn, Oct.val_snoc]
          have hvv := Hv.out
          have hor := or_i64 (Oct.val (Oct.own s p j)) (s[p + 1 + j]'(by omega)).toNat (by have := (s[p + 1 + j]'(by omega)).toNat_lt; omega) (by omega)
          have hb2 := byte_le (s[p + 1 + j]'(by omega))
          have hb3 : (Oct.val (Oct.own s p j) : Int) * 256 ≤ 9223372036854775807 := by omega
          rw [← hvs] at hor
          have Hor := Lib.hid hor
          clear hor hvs hsn hle hvv
          go_wp2
          go_round
          case rel => exact ⟨j + 1, by omega, by go_num, by rw [Hor.out]⟩
          case measure => simp [intOf]; omega
        · have ej : j = s[p].toNat := by omega
          have Ej := Lib.hid ej; clear ej
          go_wp2
          go_ret3
          rw [Ej.out]
          exact ⟨rfl, rfl⟩
  · have hk8 : s[p].toNat ≤ 0 := by omega
    have hd5 : decide ((0 : Int) < (s[p].toNat : Int)) = false := by simp; omega
    have hd6 : decide (0 < s[p].toNat) = false := by simp; omega
    have hd8 : ((s[p].toNat : Int) == 8) = false := by simp; omega
    clear h1 h2
    go_enter Tryd.func44, Tryd.ntmps44
    go_wp2
    go_loop [8, 55] (fun n c => ∃ j : Nat, j ≤ s[p].toNat ∧ c = .int .i64 j ∧ n = .int .i64 (Oct.val (Oct.own s p j))) (fun _ c => s[p].toNat - (intOf c).toNat)
    case atStart => exact ⟨0, by omega, rfl, rfl⟩
    case round =>
      obtain ⟨j, hj, rfl, rfl⟩ := hrel
      by_cases hlt : j < s[p].toNat
      · omega
      · have ej : j = s[p].toNat := by omega
        have Ej := Lib.hid ej; clear ej
        go_wp2
        go_ret3
        rw [Ej.out]
        exact ⟨rfl, rfl⟩
theorem readNumber_any (s : ByteArray) (p : Int) (w : World) (hs : s.size ≤ 9223372036854775807) :
    Calls Tryd.prog 44 #[.string s, .int .i64 p] w fun e w' => e = .returned (rdNumV s p) ∧ w = w' := by
  have hl := Oct.bytes_len s
  unfold rdNumV
  by_cases h0 : p < 0 ∨ (s.size : Int) < p
  · rw [Oct.rdNum_neg _ _ (by rw [hl]; exact h0)]
    exact readNumber_out s p w hs h0
  obtain ⟨k, rfl⟩ := Int.eq_ofNat_of_zero_le (show 0 ≤ p by omega)
  by_cases h1 : k = s.size
  · subst h1
    rw [Oct.rdNum_end]
    exact readNumber_end s w hs
  have hp : k < s.size := by omega
  by_cases h2 : 8 < s[k].toNat
  · rw [Oct.rdNum_big s k hp h2]
    exact readNumber_big s k w hs hp h2
  by_cases h3 : s.size < k + 1 + s[k].toNat
  · rw [Oct.rdNum_short s k hp (by omega) h3]
    exact readNumber_short s k w hs hp (by omega) h3
  by_cases h4 : (0 < s[k].toNat) ∧ (s.data.toList.getD (k + 1) 0).toNat = 0
  · have e := getD_bytes s (k + 1) (by omega)
    rw [e] at h4
    rw [Oct.rdNum_bad s k hp (by omega) (by omega) (.inl ((Oct.head_zero s k _ (by omega) h4.1).2 h4.2))]
    exact readNumber_zero s k w hs hp (by omega) (by omega) h4.1 h4.2
  by_cases h5 : s[k].toNat = 8 ∧ 127 < (s.data.toList.getD (k + 1) 0).toNat
  · have e := getD_bytes s (k + 1) (by omega)
    rw [e] at h5 h4
    have h6 := (Oct.val_top s k (by omega)).2 h5.2
    rw [Oct.rdNum_bad s k hp (by omega) (by omega) (.inr (by rw [h5.1]; exact h6))]
    exact readNumber_top s k w hs hp (by omega) (by omega) (by omega) h5.2
  have hv : Oct.val (Oct.own s k s[k].toNat) < 2 ^ 63 := by
    rcases Nat.lt_or_ge s[k].toNat 8 with h | h
    · exact Oct.val_small s k _ (by omega) (by omega)
    · have e8 : s[k].toNat = 8 := by omega
      have e := getD_bytes s (k + 1) (by omega)
      rw [e8]
      rcases Nat.lt_or_ge (Oct.val (Oct.own s k 8)) (2 ^ 63) with h9 | h9
      · exact h9
      · exact absurd ⟨e8, by rw [e]; exact (Oct.val_top s k (by omega)).1 h9⟩ h5
  have hf := Oct.rdNum_fine s k hp (by omega) (by omega) (by
    rintro (h | h)
    · rcases Nat.eq_zero_or_pos s[k].toNat with h7 | h7
      · rw [h7, Oct.own_zero] at h; simp at h
      · refine h4 ⟨h7, ?_⟩
        have e := getD_bytes s (k + 1) (by omega)
        rw [e]; exact (Oct.head_zero s k _ (by omega) h7).1 h
    · omega)
  rw [hf]
  exact readNumber_loop s k w hs hp (by omega) (by omega) (fun h => by
    rcases Nat.eq_zero_or_pos (s.data.toList.getD (k + 1) 0).toNat with h7 | h7
    · exact absurd ⟨h, h7⟩ h4
    · exact h7) (fun h => by
    rcases Nat.lt_or_ge 127 (s.data.toList.getD (k + 1) 0).toNat with h7 | h7
    · exact absurd ⟨h, h7⟩ h5
    · exact h7) hv
end Go.Proofs.YtpphljdnnlfjhaaDoor
