/- What later texts need of the earlier layers. -/
/- What later texts need of the earlier layers. -/
import Derived.Test.YtinciddchpccnaaDoorBxO
import Derived.Test.YtinciddchpccnaaDoorBxS
import Derived.Test.YtinciddchpccnaaDoorWinMath
import Derived.Test.YtinciddchpccnaaDoorWinNum
import Derived.Test.YtinciddchpccnaaDoorOwnApp
import Derived.Test.YtinciddchpccnaaDoorWinOwn
import Derived.Test.YtinciddchpccnaaDoorWinPack
import Derived.Test.YtinciddchpccnaaDoorWinUn
import Derived.Test.YtinciddchpccnaaDoorRunsMath
import Derived.Test.YtinciddchpccnaaDoorWinThere
import Derived.Test.YtinciddchpccnaaDoorCrMath
import Derived.Laws.BitsAllLaws
import Derived.Laws.BitsLemmas
import Derived.IntWalk
import Derived.Test.YtinciddchpccnaaDoorWinOwn8
import Derived.Test.YtinciddchpccnaaDoorWinAgain
import Derived.Test.YtinciddchpccnaaDoorWinUp
import Derived.Test.YtinciddchpccnaaDoorWinRup
import Derived.Test.YtinciddchpccnaaDoorWinST
import Derived.Test.YtinciddchpccnaaDoorWinBest
import Derived.Test.YtinciddchpccnaaDoorWinRpk
import Derived.Test.YtinciddchpccnaaDoorRunsNum
import Derived.Test.YtinciddchpccnaaDoorRunsES
import Derived.Test.YtinciddchpccnaaDoorRunsPut
import Derived.Test.YtinciddchpccnaaDoorRunsPk
import Derived.Test.YtinciddchpccnaaDoorRunsRR
import Derived.Laws.Concat
import Derived.Deep.RegionWith
import Derived.Laws.MakeOwn
import Derived.Lib.BufferWrite
import Derived.Laws.CopyOwn
import Derived.Laws.BytesArg
set_option maxRecDepth 100000
/- ---- CrSum ---- -/
/- crate.Sum and the reference's: what they return. -/
namespace Go.Proofs.YtinciddchpccnaaDoor
open Go.RowKit
set_option linter.unusedVariables false
set_option linter.unusedSimpArgs false

theorem and32_1 {a : Nat} (ha : a < 4294967296) : bits .and .u32 (a : Int) 1 = ((a % 2 : Nat) : Int) := by
  show IntKind.u32.wrap ((BitVec.ofInt 32 (a : Int) &&& BitVec.ofInt 32 ((1 : Nat) : Int)).toNat : Int) = _
  rw [BitVec.toNat_and, toNat_ofInt32 a ha, toNat_ofInt32 1 (by omega), Nat.and_one_is_mod, wrap32u _ (by omega)]
theorem Cr.regs_next (s : ByteArray) (i : Nat) (h : i < s.size) (x : Nat) : Cr.regs x (s.data.toList.take (i + 1)) = Cr.byte (Cr.regs x (s.data.toList.take i)) s[i] := by
  have hl : i < s.data.toList.length := h
  rw [List.take_succ_eq_append_getElem hl, Cr.regs_app]
  rfl
set_option maxHeartbeats 800000 in
theorem crSum_any (s : ByteArray) (w : World) (hs : s.size ≤ 9223372036854775806) :
    Calls Tryd.prog 89 #[.string s] w fun e w' => e = .returned (.int .u32 (Cr.sum s.data.toList : Int)) ∧ w = w' := by
  have hlen : s.data.toList.length = s.size := rfl
  have Hlen := Lib.hid hlen
  clear hlen
  go_enter Tryd.func89, Tryd.ntmps89
  go_wp2_with fail
  go_loopw [3, 8] (fun x c wr => ∃ i : Nat, i ≤ s.size ∧ c = .int .i64 (i : Int) ∧ x = .int .u32 (Cr.regs 4294967295 (s.data.toList.take i) : Int) ∧ w = wr) (fun _ c _ => s.size - (intOf c).toNat)
  case atStart => exact ⟨0, by omega, rfl, rfl, rfl⟩
  case round =>
    obtain ⟨i, hi, rfl, rfl, rfl⟩ := hrel
    have hx := Cr.regs_lt (x := 4294967295) (by omega) (s.data.toList.take i)
    obtain ⟨x, hxe⟩ : ∃ x, Cr.regs 4294967295 (s.data.toList.take i) = x := ⟨_, rfl⟩
    rw [hxe] at hx ⊢
    have Hxe := Lib.hid hxe
    clear hxe
    by_cases hlt : i < s.size
    · have d1 : decide ((i : Int) < (s.size : Int)) = true := by simp only [decide_eq_true_eq]; omega
      have d1' : decide (i < s.size) = true := by simp only [decide_eq_true_eq]; omega
      have hlt' : (i : Int) < (s.size : Int) := by omega
      have hb := s[i].toNat_lt
      have hxor := xor32 (a := x) (b := s[i].toNat) hx (by omega)
      have hxl := Cr.xor_lt (a := x) (b := s[i].toNat) hx (by omega)
      obtain ⟨b, hbe⟩ : ∃ b, s[i] = b := ⟨_, rfl⟩
      rw [hbe] at hb hxor hxl
      obtain ⟨y, hy⟩ : ∃ y, x ^^^ b.toNat = y := ⟨_, rfl⟩
      rw [hy] at hxor hxl
      have Hy := Lib.hid hy
      clear hy
      go_wp2_with fail
      go_step3
      go_wp2_with fail
      go_step3
      go_wp2_with fail
      go_loopw [3, 17] (fun v c wr => ∃ k : Nat, k ≤ 8 ∧ c = .int .i64 (k : Int) ∧ v = .int .u32 (Cr.shifts k y : Int) ∧ w = wr) (fun _ c _ => 8 - (intOf c).toNat)
      case atStart => exact ⟨0, by omega, rfl, rfl, rfl⟩
      case round =>
        obtain ⟨k, hk, rfl, rfl, rfl⟩ := hrel
        have hz := Cr.shifts_lt hxl k
        obtain ⟨z, hze⟩ : ∃ z, Cr.shifts k y = z := ⟨_, rfl⟩
        have hstep : Cr.shifts (k + 1) y = Cr.shift z := by rw [← hze]; rfl
        rw [hze] at hz ⊢
        have Hstep := Lib.hid hstep
        have Hz8 := Lib.hid hze
        clear hze hstep
        by_cases hk8 : k < 8
        · have d3 : decide ((k : Int) < 8) = true := by simp only [decide_eq_true_eq]; omega
          have d3' : decide (k < 8) = true := by simp only [decide_eq_true_eq]; omega
          obtain ⟨h, hh⟩ : ∃ h, z / 2 = h := ⟨_, rfl⟩
          have eh : (z : Int) / 2 = (h : Int) := by omega
          have hhl : h < 4294967296 := by omega
          have hand := and32_1 hz
          by_cases hpar : z % 2 = 0
          · rw [hpar] at hand
            have hand' : bits .and .u32 (z : Int) 1 = 0 := hand
            have hsh : Cr.shift z = h := by unfold Cr.shift; rw [if_pos hpar, hh]
            have Hsh := Lib.hid hsh
            clear hand hpar hh hsh
            go_wp2_with fail
            refine ⟨⟨k + 1, by omega, by go_num, by rw [Hstep.out, Hsh.out], trivial⟩, by simp [intOf]; omega⟩
          · rw [show z % 2 = 1 by omega] at hand
            have hand' : bits .and .u32 (z : Int) 1 = 1 := hand
            have hsh : Cr.shift z = h ^^^ 3988292384 := by unfold Cr.shift; rw [if_neg hpar, hh]
            have hx2 : bits .xor .u32 (h : Int) 3988292384 = ((h ^^^ 3988292384 : Nat) : Int) := xor32 hhl (by decide)
            rw [← hsh] at hx2
            clear hand hpar hh hsh
            go_wp2_with fail
            refine ⟨⟨k + 1, by omega, by go_num, by rw [Hstep.out], trivial⟩, by simp [intOf]; omega⟩
        · obtain rfl : k = 8 := by omega
          go_wp2_with fail
          simp only [Exit.noGoto]
          go_wp2_with fail
          refine ⟨⟨i + 1, by omega, by go_num, ?_, trivial⟩, by simp [intOf]; omega⟩
          have hb2 := hbe
          rw [Cr.regs_next s i hlt, hbe, Hxe.out]
          unfold Cr.byte
          rw [Hy.out, Hz8.out]
    · obtain rfl : i = s.size := by omega
      have d1 : decide ((s.size : Int) < (s.size : Int)) = false := by simp only [decide_eq_false_iff_not]; omega
      rw [← Hlen.out, List.take_length] at Hxe
      have hnot := not32 x hx
      go_wp2_with fail
      go_ret
      refine ⟨?_, rfl⟩
      unfold Cr.sum
      rw [Hxe.out]
      rfl
theorem xor_half (a b : Nat) : (a ^^^ b) / 2 = a / 2 ^^^ b / 2 := by
  have h := Nat.shiftRight_xor_distrib (a := a) (b := b) (i := 1)
  simpa [Nat.shiftRight_eq_div_pow] using h
theorem xor_par (a b : Nat) : (a ^^^ b) % 2 = a % 2 ^^^ b % 2 := by
  have h := Nat.xor_mod_two_pow (a := a) (b := b) (n := 1)
  simpa using h
/-- the register goes without the byte, the byte's bits come one by one -/
theorem Cr.ref_step {u v : Nat} (t : Nat) (h : (u % 2) ^^^ (v % 2) = 0) : Cr.shift (u ^^^ v) = (u / 2) ^^^ (v / 2) := by
  unfold Cr.shift
  rw [if_pos (by rw [xor_par]; exact h), xor_half]
theorem Cr.ref_step1 {u v : Nat} (h : (u % 2) ^^^ (v % 2) = 1) : Cr.shift (u ^^^ v) = (u / 2 ^^^ 3988292384) ^^^ (v / 2) := by
  unfold Cr.shift
  rw [if_neg (by rw [xor_par, h]; omega), xor_half, Nat.xor_assoc, Nat.xor_comm (v / 2), ← Nat.xor_assoc]
set_option maxHeartbeats 800000 in
theorem crRefSum_any (s : ByteArray) (w : World) (hs : s.size ≤ 9223372036854775806) :
    Calls Tryd.prog 48 #[.string s] w fun e w' => e = .returned (.int .u32 (Cr.sum s.data.toList : Int)) ∧ w = w' := by
  have hlen : s.data.toList.length = s.size := rfl
  have Hlen := Lib.hid hlen
  clear hlen
  go_enter Tryd.func48, Tryd.ntmps48
  go_wp2_with fail
  go_loopw [3, 4] (fun x c wr => ∃ i : Nat, i ≤ s.size ∧ c = .int .i64 (i : Int) ∧ x = .int .u32 (Cr.regs 4294967295 (s.data.toList.take i) : Int) ∧ w = wr) (fun _ c _ => s.size - (intOf c).toNat)
  case atStart => exact ⟨0, by omega, rfl, rfl, rfl⟩
  case round =>
    obtain ⟨i, hi, rfl, rfl, rfl⟩ := hrel
    have hx := Cr.regs_lt (x := 4294967295) (by omega) (s.data.toList.take i)
    obtain ⟨x, hxe⟩ : ∃ x, Cr.regs 4294967295 (s.data.toList.take i) = x := ⟨_, rfl⟩
    rw [hxe] at hx ⊢
    have Hxe := Lib.hid hxe
    clear hxe
    by_cases hlt : i < s.size
    · have d1 : decide ((i : Int) < (s.size : Int)) = true := by simp only [decide_eq_true_eq]; omega
      have d1' : decide (i < s.size) = true := by simp only [decide_eq_true_eq]; omega
      have hlt' : (i : Int) < (s.size : Int) := by omega
      have hb := s[i].toNat_lt
      obtain ⟨b, hbe⟩ : ∃ b, s[i] = b := ⟨_, rfl⟩
      rw [hbe] at hb
      go_wp2_with fail
      go_loopw [3, 5] (fun v c wr => ∃ k u : Nat, k ≤ 8 ∧ c = .int .i64 (k : Int) ∧ v = .int .u32 (u : Int) ∧ u < 4294967296 ∧ u ^^^ (b.toNat / 2 ^ k) = Cr.shifts k (x ^^^ b.toNat) ∧ w = wr) (fun _ c _ => 8 - (intOf c).toNat)
      case atStart => exact ⟨0, x, by omega, rfl, rfl, hx, by simp [Cr.shifts], rfl⟩
      case round =>
        obtain ⟨k, u, hk, rfl, rfl, hu, hux, rfl⟩ := hrel
        by_cases hk8 : k < 8
        · have d3 : decide ((k : Int) < 8) = true := by simp only [decide_eq_true_eq]; omega
          have d3' : decide (k < 8) = true := by simp only [decide_eq_true_eq]; omega
          obtain ⟨v, hv⟩ : ∃ v, b.toNat / 2 ^ k = v := ⟨_, rfl⟩
          have hv1 : v ≤ b.toNat := by rw [← hv]; exact Nat.div_le_self _ _
          have ev0 : (b.toNat : Int) / 2 ^ k = (v : Int) := by rw [← hv]; simp
          have ev : (b.toNat : Int) / 2 ^ k % 4294967296 = (v : Int) := by rw [ev0]; omega
          have hv2 : b.toNat / 2 ^ (k + 1) = v / 2 := by rw [Nat.pow_succ, ← Nat.div_div_eq_div_mul, hv]
          have hbit : bits .xor .u32 (bits .and .u32 (v : Int) 1) (bits .and .u32 (u : Int) 1) = (((u % 2) ^^^ (v % 2) : Nat) : Int) := by
            rw [and32_1 hu, and32_1 (show v < 4294967296 by omega), xor32 (by omega) (by omega), Nat.xor_comm]
          have ht : (u % 2) ^^^ (v % 2) = 0 ∨ (u % 2) ^^^ (v % 2) = 1 := by
            have h1 : u % 2 = 0 ∨ u % 2 = 1 := by omega
            have h2 : v % 2 = 0 ∨ v % 2 = 1 := by omega
            rcases h1 with h1 | h1 <;> rcases h2 with h2 | h2 <;> rw [h1, h2] <;> simp
          obtain ⟨h, hh⟩ : ∃ h, u / 2 = h := ⟨_, rfl⟩
          have eh : (u : Int) / 2 = (h : Int) := by omega
          have hhl : h < 4294967296 := by omega
          rw [hv] at hux
          have Hux := Lib.hid hux
          have Hv2 := Lib.hid hv2
          rcases ht with ht | ht
          · rw [ht] at hbit
            have hbit0 : bits .xor .u32 (bits .and .u32 (v : Int) 1) (bits .and .u32 (u : Int) 1) = 0 := hbit
            have hst := Cr.ref_step k ht
            rw [hux, hh] at hst
            have Hst := Lib.hid hst
            clear hbit ht hst hv ev0 hux hh hv2
            go_wp2_with fail
            refine ⟨⟨k + 1, h, by omega, by go_num, rfl, hhl, ?_, trivial⟩, by simp [intOf]; omega⟩
            rw [Hv2.out, ← Hst.out]
            rfl
          · rw [ht] at hbit
            have hbit1 : bits .xor .u32 (bits .and .u32 (v : Int) 1) (bits .and .u32 (u : Int) 1) = 1 := hbit
            have hst := Cr.ref_step1 ht
            rw [hux, hh] at hst
            have hx2 : bits .xor .u32 (h : Int) 3988292384 = ((h ^^^ 3988292384 : Nat) : Int) := xor32 hhl (by decide)
            have hhl2 := Cr.xor_lt hhl (show 3988292384 < 4294967296 by decide)
            have Hst := Lib.hid hst
            clear hbit ht hst hv ev0 hux hh hv2
            go_wp2_with fail
            refine ⟨⟨k + 1, h ^^^ 3988292384, by omega, by go_num, rfl, hhl2, ?_, trivial⟩, by simp [intOf]; omega⟩
            rw [Hv2.out, ← Hst.out]
            rfl
        · obtain rfl : k = 8 := by omega
          have h0 : b.toNat / 2 ^ 8 = 0 := by omega
          rw [h0, Nat.xor_zero] at hux
          have Hux := Lib.hid hux
          clear hux h0
          go_wp2_with fail
          refine ⟨⟨i + 1, by omega, by go_num, ?_, trivial⟩, by simp [intOf]; omega⟩
          rw [Cr.regs_next s i hlt, hbe, Hxe.out, Hux.out]
          rfl
    · obtain rfl : i = s.size := by omega
      have d1 : decide ((s.size : Int) < (s.size : Int)) = false := by simp only [decide_eq_false_iff_not]; omega
      rw [← Hlen.out, List.take_length] at Hxe
      go_wp2_with fail
      go_ret
      refine ⟨?_, rfl⟩
      unfold Cr.sum
      rw [Hxe.out]
      have e : ((4294967295 - x : Nat) : Int) = 4294967295 - (x : Int) := by omega
      rw [e]
      rfl
end Go.Proofs.YtinciddchpccnaaDoor
set_option maxRecDepth 100000
/- ---- CrHead ---- -/
/- crate.sumBytes; the reference's Head and Way: what they return. -/
namespace Go.Proofs.YtinciddchpccnaaDoor
open Go.RowKit
set_option linter.unusedVariables false
set_option linter.unusedSimpArgs false

theorem four_bytes (T : TypeId) (W : World) (a b c d : Int) : (convert 48 9 (.slice (some ⟨W.heap.size, 0, none⟩) 4 4)).run Tryd.prog (W.alloc (.cells #[.int .u8 a, .int .u8 b, .int .u8 c, .int .u8 d] T)) = .ok (S [UInt8.ofNat a.toNat, UInt8.ofNat b.toNat, UInt8.ofNat c.toNat, UInt8.ofNat d.toNat]) (W.alloc (.cells #[.int .u8 a, .int .u8 b, .int .u8 c, .int .u8 d] T)) := by
  have := run_convert_bytes_arg (P := Tryd.prog) (W.alloc (.cells #[.int .u8 a, .int .u8 b, .int .u8 c, .int .u8 d] T)) 48 5 Tryd.underlying48 Tryd.underlying5 W.heap.size 0 4 4 [a, b, c, d] rfl (fun i hi => by
    match i, hi with
    | 0, _ => simp [go_sem]
    | 1, _ => simp [go_sem]
    | 2, _ => simp [go_sem]
    | 3, _ => simp [go_sem]
    | k + 4, hi => omega) 9 Tryd.underlying9
  exact this
theorem sumBytes_any (s : ByteArray) (w : World) (hs : s.size ≤ 9223372036854775806) :
    Calls Tryd.prog 60 #[.string s] w fun e w' => e = .returned (S (Cr.four (Cr.sum s.data.toList))) ∧ Below w.heap.size w w' := by
  have hl := Cr.sum_lt s.data.toList
  obtain ⟨x, hx⟩ : ∃ x, Cr.sum s.data.toList = x := ⟨_, rfl⟩
  have hsum := crSum_any s w hs
  rw [hx] at hl hsum ⊢
  have Hsum := Lib.hid hsum
  clear hsum hx
  have hcv := four_bytes
  go_enter Tryd.func60, Tryd.ntmps60
  go_wp2_with fail
  refine Hsum.out.mono ?_
  rintro e w1 ⟨rfl, rfl⟩
  go_wp2_with fail
  go_ret
  refine ⟨?_, (Below.refl _ _).alloc (Nat.le_refl _) _⟩
  have e : x / 16777216 % 256 = x / 16777216 := by omega
  unfold Cr.four
  rw [e]
  rfl
theorem numE_pos (n : Nat) : Oct.numE (n : Int) = (Oct.num n, 0) := by
  unfold Oct.numE
  rw [if_neg (by omega), Int.toNat_natCast]
theorem S_app (a b : List UInt8) : (⟨a.toArray⟩ : ByteArray) ++ ⟨b.toArray⟩ = ⟨(a ++ b).toArray⟩ := append_list a b
theorem head_any (k : Nat) (s : ByteArray) (w : World) (hk : k < 256) (hs : s.size ≤ 140737488351232) :
    Calls Tryd.prog 21 #[.int .i64 (k : Int), .string s] w fun e w' => e = .returned (S (Cr.head k s.data.toList)) ∧ Below w.heap.size w w' := by
  have hl := Cr.sum_lt s.data.toList
  have hlen : s.data.toList.length = s.size := rfl
  have hhead : Cr.head k s.data.toList = [UInt8.ofNat k] ++ Oct.num s.size ++ Cr.four (Cr.sum s.data.toList) := by unfold Cr.head; rw [hlen]; simp
  obtain ⟨x, hx⟩ : ∃ x, Cr.sum s.data.toList = x := ⟨_, rfl⟩
  have hsum := fun w : World => crRefSum_any s w (by omega)
  rw [hhead, hx]
  rw [hx] at hl
  simp only [hx] at hsum
  have hnum := fun w : World => refNumber_any (s.size : Int) w (by omega)
  rw [numE_pos] at hnum
  obtain ⟨nb, hnb⟩ : ∃ nb, Oct.num s.size = nb := ⟨_, rfl⟩
  rw [hnb] at hnum ⊢
  have hnl : nb.length ≤ 9 := by rw [← hnb]; exact Oct.num_length_le _
  have Hsum := Lib.hid hsum
  have Hnum := Lib.hid hnum
  clear hsum hx hnum hnb hhead hlen
  have hcv := four_bytes
  have hc1 := one_byte
  have hk8 : (k : Int) % 256 = (k : Int) := by omega
  have happ := S_app
  go_enter Tryd.func21, Tryd.ntmps21
  go_wp2_with fail
  refine (Hnum.out _).mono ?_
  rintro e w1 ⟨rfl, hb1⟩
  unfold two
  go_wp2_with fail
  refine (Hsum.out _).mono ?_
  rintro e w2 ⟨rfl, rfl⟩
  have Hb1 := Lib.hid hb1
  clear hb1 hcv
  have hcv2 := fun (T : TypeId) (a b c d : Int) => four_bytes T (w1.alloc (.cells #[.int .u8 (k : Int)] 5)) a b c d
  have hz : (w1.alloc (.cells #[.int .u8 (k : Int)] 5)).heap.size = w1.heap.size + 1 := by simp
  rw [hz] at hcv2
  clear hz
  go_wp2_with fail
  go_ret
  refine ⟨?_, (Hb1.out.alloc Hb1.out.size _).alloc (by have := Hb1.out.size; simp; omega) _⟩
  have e : x / 16777216 % 256 = x / 16777216 := by omega
  unfold Cr.four
  rw [e]
  simp
theorem way_any (k : Nat) (s : ByteArray) (w : World) (hk : k < 4) (hs : s.size ≤ 1000000000) :
    Calls Tryd.prog 22 #[.int .i64 (k : Int), .string s] w fun e w' => e = .returned (S (Cr.way k s.data.toList)) ∧ Below w.heap.size w w' := by
  have h1 := fun w : World => Rn.refPack_any s w (by omega)
  have hlit : (Rn.Runs.pack s.data.toList).length ≤ s.size + (s.size + 127) / 128 := Rn.Runs.pack_little s.data.toList.length s.data.toList (Nat.le_refl _)
  obtain ⟨r, hr⟩ : ∃ r : ByteArray, (⟨(Rn.Runs.pack s.data.toList).toArray⟩ : ByteArray) = r := ⟨_, rfl⟩
  have hrl : r.data.toList = Rn.Runs.pack s.data.toList := by rw [← hr]
  have hrz : r.size ≤ s.size + (s.size + 127) / 128 := by rw [← hr]; exact hlit
  have h2 := fun w : World => refPack_any s w (by omega)
  have h3 := fun w : World => refPack_any r w (by omega)
  have hself : S s.data.toList = .string s := by obtain ⟨⟨l⟩⟩ := s; rfl
  rw [hrl] at h3
  have h1' : ∀ w : World, Calls Tryd.prog 49 #[.string s] w fun e w' => e = .returned (.string r) ∧ Below w.heap.size w w' := by
    intro w
    rw [← hr]
    exact h1 w
  have H1 := Lib.hid h1'
  have H2 := Lib.hid h2
  have H3 := Lib.hid h3
  have Hr := Lib.hid hr
  have Hself := Lib.hid hself
  clear h1 h1' h2 h3 hr hrl hself hlit
  unfold Cr.way
  match k, hk with
  | 0, _ =>
    rw [if_neg (by omega), if_neg (by omega), if_neg (by omega), Hself.out]
    go_enter Tryd.func22, Tryd.ntmps22
    go_wp2_with fail
    go_ret
    exact ⟨rfl, Below.refl _ _⟩
  | 1, _ =>
    rw [if_pos rfl, show S (Rn.Runs.pack s.data.toList) = .string r by rw [← Hr.out]]
    go_enter Tryd.func22, Tryd.ntmps22
    go_wp2_with fail
    refine (H1.out _).mono ?_
    rintro e w1 ⟨rfl, hb1⟩
    go_wp2_with fail
    go_ret
    exact ⟨rfl, hb1⟩
  | 2, _ =>
    rw [if_neg (by omega), if_pos rfl]
    go_enter Tryd.func22, Tryd.ntmps22
    go_wp2_with fail
    refine (H2.out _).mono ?_
    rintro e w1 ⟨rfl, hb1⟩
    go_wp2_with fail
    go_ret
    exact ⟨rfl, hb1⟩
  | 3, _ =>
    rw [if_neg (by omega), if_neg (by omega), if_pos rfl]
    go_enter Tryd.func22, Tryd.ntmps22
    go_wp2_with fail
    refine (H1.out _).mono ?_
    rintro e w1 ⟨rfl, hb1⟩
    go_wp2_with fail
    refine (H3.out _).mono ?_
    rintro e w2 ⟨rfl, hb2⟩
    go_wp2_with fail
    go_ret
    exact ⟨rfl, hb1.trans (hb2.mono hb1.size)⟩
end Go.Proofs.YtinciddchpccnaaDoor
