/- octets.Number and the reference's Number, ReadNumber: what they return. -/
import Derived.Test.YtpphljdnnlfjhaaDoorOctNum
import Derived.Test.YtpphljdnnlfjhaaDoorOctRdn
import Derived.Test.YtpphljdnnlfjhaaDoorJrOwn
import Derived.Deep.RegionWith
import Derived.Laws.MakeOwn
import Derived.Lib.BufferWrite
import Derived.Laws.CopyOwn
import Derived.Laws.BytesArg
namespace Go.Proofs.YtpphljdnnlfjhaaDoor
open Go.RowKit
set_option linter.unusedVariables false
set_option linter.unusedSimpArgs false

def two (l : List UInt8) (e : Int) : Value := .tuple #[S l, .int .i64 e]

set_option maxHeartbeats 400000 in
theorem Number_any (n : Int) (w : World) (h1 : n ≤ 9223372036854775807) :
    Calls Tryd.prog 47 #[.int .i64 n] w fun e w' => e = .returned (two (Oct.numE n).1 (Oct.numE n).2) ∧ Below w.heap.size w w' := by
  by_cases h0 : n < 0
  · have e : Oct.numE n = ([], 2) := by unfold Oct.numE; rw [if_pos h0]
    rw [e]
    go_enter Tryd.func47, Tryd.ntmps47
    go_wp2_with fail
    go_ret2
    exact ⟨rfl, Below.refl _ _⟩
  · have e : Oct.numE n = (Oct.num n.toNat, 0) := by unfold Oct.numE; rw [if_neg h0]
    rw [e]
    go_enter Tryd.func47, Tryd.ntmps47
    go_wp2_with (go_at_call 59; refine (number_any n _ (by omega) h1).mono ?_; rintro e w1 ⟨rfl, hb1⟩)
    go_ret2
    exact ⟨rfl, hb1⟩

theorem one_byte (T : TypeId) (W : World) (x : Int) : (convert 65 9 (.slice (some ⟨W.heap.size, 0, none⟩) 1 1)).run Tryd.prog (W.alloc (.cells #[.int .u8 x] T)) = .ok (S [UInt8.ofNat x.toNat]) (W.alloc (.cells #[.int .u8 x] T)) := by
  have := run_convert_bytes_arg (P := Tryd.prog) (W.alloc (.cells #[.int .u8 x] T)) 65 5 Tryd.underlying65 Tryd.underlying5 W.heap.size 0 1 1 [x] rfl (fun i hi => by
    obtain rfl : i = 0 := by omega
    simp [go_sem]) 9 Tryd.underlying9
  exact this
theorem append_list (a b : List UInt8) : (⟨a.toArray⟩ : ByteArray) ++ ⟨b.toArray⟩ = ⟨(a ++ b).toArray⟩ := by
  apply ByteArray.ext; simp

set_option maxHeartbeats 400000 in
theorem refNumber_any (n : Int) (w : World) (h1 : n ≤ 9223372036854775807) :
    Calls Tryd.prog 42 #[.int .i64 n] w fun e w' => e = .returned (two (Oct.numE n).1 (Oct.numE n).2) ∧ Below w.heap.size w w' := by
  by_cases h0 : n < 0
  · have e : Oct.numE n = ([], 2) := by unfold Oct.numE; rw [if_pos h0]
    rw [e]
    go_enter Tryd.func42, Tryd.ntmps42
    go_wp2_with fail
    go_ret2
    exact ⟨rfl, Below.refl _ _⟩
  · have e : Oct.numE n = (Oct.num n.toNat, 0) := by unfold Oct.numE; rw [if_neg h0]
    rw [e]
    clear e
    go_enter Tryd.func42, Tryd.ntmps42
    go_wp2_with fail
    go_loopw [0, 4, 5] (fun a b c wr => ∃ (m : Nat) (bk : List UInt8), a = .int .i64 m ∧ b = S bk ∧ c = .int .i64 bk.length ∧ bk.length ≤ 8 ∧ m < 256 ^ (8 - bk.length) ∧ (m : Int) ≤ 9223372036854775807 ∧ Oct.bigs 8 n.toNat = Oct.bigs (8 - bk.length) m ++ bk ∧ Below w.heap.size w wr) (fun a _ _ _ => (intOf a).toNat)
    case atStart => exact ⟨n.toNat, [], by rw [Int.toNat_of_nonneg (by omega)], rfl, rfl, by simp, by simp; omega, by omega, by simp, Below.refl _ _⟩
    case round =>
      obtain ⟨m, bk, rfl, rfl, rfl, hk, hm, hm2, hb, hbel⟩ := hrel
      have Hm := Lib.hid hm; clear hm
      have Hb := Lib.hid hb; clear hb
      by_cases hlt : 0 < m
      · have hl7 : bk.length ≤ 7 := by
          have := Hm.out
          rcases Nat.lt_or_ge bk.length 8 with h | h
          · omega
          · have e : bk.length = 8 := by omega
            rw [e] at this; simp at this; omega
        have hcv := one_byte 5 wr ((m : Int) % 256)
        go_wp2_with fail
        have hms := Hm.out
        have hbs := Hb.out
        have e8 : 8 - bk.length = (8 - (bk.length + 1)) + 1 := by omega
        rw [e8] at hms hbs
        refine ⟨⟨m / 256, UInt8.ofNat (m % 256) :: bk, by simp, ?_, by simp, by simp; omega, ?_, by omega, ?_, hbel.alloc hbel.size _⟩, ?_⟩
        · exact congrArg Value.string (append_list [UInt8.ofNat (m % 256)] bk)
        · rw [Nat.div_lt_iff_lt_mul (by decide)]
          rw [Nat.pow_succ] at hms
          simpa using hms
        · rw [hbs, Oct.bigs, if_neg (by omega)]
          simp
        · simp [intOf]; omega
      · obtain rfl : m = 0 := by omega
        have hcv := one_byte 5 wr (bk.length : Int)
        go_wp2_with fail
        go_ret2
        have hbs := Hb.out
        have hnum : Oct.num n.toNat = UInt8.ofNat bk.length :: bk := by
          have e : Oct.bigs (8 - bk.length) 0 = [] := by cases (8 - bk.length) <;> simp [Oct.bigs]
          unfold Oct.num
          rw [hbs, e]; simp
        rw [hnum]
        refine ⟨?_, hbel.alloc hbel.size _⟩
        exact congrArg (fun x => Ending.returned (Value.tuple #[Value.string x, .int .i64 0])) (append_list [UInt8.ofNat bk.length] bk)

theorem refReadNumber_out (s : ByteArray) (p : Int) (w : World) (h : p < 0 ∨ (s.size : Int) < p) :
    Calls Tryd.prog 27 #[.string s, .int .i64 p] w fun e w' => e = .returned (three 0 0 4) ∧ w = w' := by
  by_cases h0 : p < 0
  · have hd : decide (p < 0) = true := by simpa using h0
    go_enter Tryd.func27, Tryd.ntmps27
    go_wp2
    go_ret3
    exact ⟨rfl, rfl⟩
  · have hd : decide (p < 0) = false := by simpa using h0
    have h1 : (s.size : Int) < p := by omega
    have hd1 : decide ((s.size : Int) < p) = true := by simpa using h1
    go_enter Tryd.func27, Tryd.ntmps27
    go_wp2
    go_ret3
    exact ⟨rfl, rfl⟩
theorem refReadNumber_end (s : ByteArray) (w : World) :
    Calls Tryd.prog 27 #[.string s, .int .i64 s.size] w fun e w' => e = .returned (three 0 0 5) ∧ w = w' := by
  go_enter Tryd.func27, Tryd.ntmps27
  go_wp2
  go_ret3
  exact ⟨rfl, rfl⟩
theorem refReadNumber_big (s : ByteArray) (p : Nat) (w : World) (hs : s.size ≤ 140737488351232) (hp : p < s.size) (hk : 8 < s[p].toNat) :
    Calls Tryd.prog 27 #[.string s, .int .i64 p] w fun e w' => e = .returned (three 0 0 6) ∧ w = w' := by
  have hd : decide ((p : Int) < 0) = false := by simp
  have hd1 : decide (s.size < p) = false := by simp; omega
  have hd2 : ((p : Int) == (s.size : Int)) = false := by simp; omega
  have hb := byte_le s[p]
  have hd3 : decide ((8 : Int) < (s[p].toNat : Int)) = true := by simp; omega
  go_enter Tryd.func27, Tryd.ntmps27
  go_wp2
  go_ret3
  exact ⟨rfl, rfl⟩
theorem refReadNumber_short (s : ByteArray) (p : Nat) (w : World) (hs : s.size ≤ 140737488351232) (hp : p < s.size) (hk : s[p].toNat ≤ 8) (hk2 : s.size < p + 1 + s[p].toNat) :
    Calls Tryd.prog 27 #[.string s, .int .i64 p] w fun e w' => e = .returned (three 0 0 5) ∧ w = w' := by
  have hd : decide ((p : Int) < 0) = false := by simp
  have hd1 : decide (s.size < p) = false := by simp; omega
  have hd2 : ((p : Int) == (s.size : Int)) = false := by simp; omega
  have hb := byte_le s[p]
  have hd3 : decide ((8 : Int) < (s[p].toNat : Int)) = false := by simp; omega
  have hd4 : decide ((s.size : Int) < (p : Int) + 1 + (s[p].toNat : Int)) = true := by simp; omega
  go_enter Tryd.func27, Tryd.ntmps27
  go_wp2
  go_ret3
  exact ⟨rfl, rfl⟩
set_option maxHeartbeats 800000 in
theorem refReadNumber_loop (s : ByteArray) (p : Nat) (w : World) (hs : s.size ≤ 140737488351232) (hp : p < s.size) (hk : s[p].toNat ≤ 8) (hk2 : p + 1 + s[p].toNat ≤ s.size) :
    Calls Tryd.prog 27 #[.string s, .int .i64 p] w fun e w' => e = .returned (rdNumV s p) ∧ w = w' := by
  have hd : decide ((p : Int) < 0) = false := by simp
  have hd1 : decide (s.size < p) = false := by simp; omega
  have hd2 : ((p : Int) == (s.size : Int)) = false := by simp; omega
  have hb := byte_le s[p]
  have hd3 : decide ((8 : Int) < (s[p].toNat : Int)) = false := by simp; omega
  have hd4 : decide ((s.size : Int) < (p : Int) + 1 + (s[p].toNat : Int)) = false := by simp; omega
  go_enter Tryd.func27, Tryd.ntmps27
  go_wp2
  go_loop [8, 9] (fun n c => ∃ j : Nat, j ≤ s[p].toNat ∧ c = .int .i64 ((p + 1 + j : Nat) : Int) ∧ n = .int .u64 (Oct.val (Oct.own s p j))) (fun _ c => p + 1 + s[p].toNat - (intOf c).toNat)
  case atStart => exact ⟨0, by omega, by go_num, rfl⟩
  case round =>
    obtain ⟨j, hj, rfl, rfl⟩ := hrel
    by_cases hlt : j < s[p].toNat
    · have hsn := Oct.own_snoc s p j (by omega)
      have hvs : Oct.val (Oct.own s p (j + 1)) = Oct.val (Oct.own s p j) * 256 + (s[p + 1 + j]'(by omega)).toNat := by rw [hsn, Oct.val_snoc]
      have hvl : (Oct.val (Oct.own s p j) : Int) ≤ 72057594037927935 := by
        have h1 := Oct.val_lt (Oct.own s p j)
        rw [Oct.own_len s p j (by omega)] at h1
        have h2 : 256 ^ j ≤ 256 ^ 7 := Nat.pow_le_pow_right (by decide) (by omega)
        have h3 : (256 : Nat) ^ 7 = 72057594037927936 := by decide
        omega
      have hb2 := byte_le (s[p + 1 + j]'(by omega))
      have Hvs := Lib.hid hvs
      clear hvs hsn
      go_wp2
      go_round
      case rel => exact ⟨j + 1, by omega, by go_num, by rw [Hvs.out]; go_num⟩
      case measure => simp [intOf]; omega
    · obtain rfl : j = s[p].toNat := by omega
      have Hfine := fun h => Lib.hid (Oct.rdNum_fine s p hp hk hk2 h)
      have Hbad := fun h => Lib.hid (Oct.rdNum_bad s p hp hk hk2 h)
      by_cases hk0 : 0 < s[p].toNat
      · have hp1 : p + 1 < s.size := by omega
        have hp2 : (p : Int) + 1 < s.size := by omega
        have hd5 : decide ((0 : Int) < (s[p].toNat : Int)) = true := by simp; omega
        have hd6 : decide (0 < s[p].toNat) = true := by simp; omega
        by_cases hz : s[p + 1].toNat = 0
        · have hd7 : ((s[p + 1].toNat : Int) == 0) = true := by simp [hz]
          have Hres := Hbad (.inl ((Oct.head_zero s p _ hk2 hk0).2 hz))
          have Hz := Lib.hid hz
          clear hz Hfine Hbad
          go_wp2
          go_ret3
          unfold rdNumV
          rw [Hres.out]
          exact ⟨rfl, rfl⟩
        · have hd7 : ((s[p + 1].toNat : Int) == 0) = false := by simp; omega
          by_cases hv : 2 ^ 63 ≤ Oct.val (Oct.own s p s[p].toNat)
          · have hd8 : decide ((9223372036854775807 : Int) < (Oct.val (Oct.own s p s[p].toNat) : Int)) = true := by simp; omega
            have Hres := Hbad (.inr hv)
            clear hv Hfine Hbad
            go_wp2
            go_ret3
            unfold rdNumV
            rw [Hres.out]
            exact ⟨rfl, rfl⟩
          · have hd8 : decide ((9223372036854775807 : Int) < (Oct.val (Oct.own s p s[p].toNat) : Int)) = false := by simp; omega
            have Hres := Hfine (by
              rintro (h | h)
              · exact hz ((Oct.head_zero s p _ hk2 hk0).1 h)
              · exact hv h)
            have hv2 : (Oct.val (Oct.own s p s[p].toNat) : Int) ≤ 9223372036854775807 := by omega
            clear hv Hfine Hbad
            go_wp2
            go_ret3
            unfold rdNumV
            rw [Hres.out]
            exact ⟨rfl, rfl⟩
      · have hk00 : s[p].toNat ≤ 0 := by omega
        have hd5 : decide ((0 : Int) < (s[p].toNat : Int)) = false := by simp; omega
        have hd6 : decide (0 < s[p].toNat) = false := by simp; omega
        have hv : ¬ 2 ^ 63 ≤ Oct.val (Oct.own s p s[p].toNat) := by
          have h1 := Oct.val_small s p s[p].toNat (by omega) hk2
          omega
        have hd8 : decide ((9223372036854775807 : Int) < (Oct.val (Oct.own s p s[p].toNat) : Int)) = false := by simp; omega
        have Hres := Hfine (by
          rintro (h | h)
          · have e0 : s[p].toNat = 0 := by omega
            rw [e0, Oct.own_zero] at h; simp at h
          · exact hv h)
        have hv2 : (Oct.val (Oct.own s p s[p].toNat) : Int) ≤ 9223372036854775807 := by omega
        clear hv Hfine Hbad
        go_wp2
        go_ret3
        unfold rdNumV
        rw [Hres.out]
        exact ⟨rfl, rfl⟩
theorem refReadNumber_any (s : ByteArray) (p : Int) (w : World) (hs : s.size ≤ 140737488351232) :
    Calls Tryd.prog 27 #[.string s, .int .i64 p] w fun e w' => e = .returned (rdNumV s p) ∧ w = w' := by
  have hl := Oct.bytes_len s
  by_cases h0 : p < 0 ∨ (s.size : Int) < p
  · unfold rdNumV
    rw [Oct.rdNum_neg _ _ (by rw [hl]; exact h0)]
    exact refReadNumber_out s p w h0
  obtain ⟨k, rfl⟩ := Int.eq_ofNat_of_zero_le (show 0 ≤ p by omega)
  by_cases h1 : k = s.size
  · subst h1
    unfold rdNumV
    rw [Oct.rdNum_end]
    exact refReadNumber_end s w
  have hp : k < s.size := by omega
  by_cases h2 : 8 < s[k].toNat
  · unfold rdNumV
    rw [Oct.rdNum_big s k hp h2]
    exact refReadNumber_big s k w hs hp h2
  by_cases h3 : s.size < k + 1 + s[k].toNat
  · unfold rdNumV
    rw [Oct.rdNum_short s k hp (by omega) h3]
    exact refReadNumber_short s k w hs hp (by omega) h3
  exact refReadNumber_loop s k w hs hp (by omega) (by omega)
end Go.Proofs.YtpphljdnnlfjhaaDoor
