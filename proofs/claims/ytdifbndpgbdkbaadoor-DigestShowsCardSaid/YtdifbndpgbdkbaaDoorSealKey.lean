/- seal.Key and the reference's: what they return. -/
import Derived.Test.YtdifbndpgbdkbaaDoorSealNum
import Derived.Test.YtdifbndpgbdkbaaDoorShaRef4
namespace Go.Proofs.YtdifbndpgbdkbaaDoor
open Go.RowKit
set_option linter.unusedVariables false
set_option linter.unusedSimpArgs false

theorem i24_any (R : List UInt8) (h : R.length ≤ 32) : (Tryd.prog.info? 24).map (·.size) = some (bRow R).size := by
  have i24 : (Tryd.prog.info? 24).map (·.size) = some 32 := by kernel_rfl
  rw [i24, bRow_size R h]
theorem bRow_same (R Q : List UInt8) (h : R.length ≤ 32) (hq : Q.length ≤ 32) : (bRow R).size = (bRow Q).size := by rw [bRow_size R h, bRow_size Q hq]
/-- what a hash and a number are told as -/
abbrev HN (R : List UInt8) (e : Int) : Value := .tuple #[.agg (bRow R), .int .i64 e]

set_option maxHeartbeats 1000000 in
set_option maxRecDepth 100000 in
theorem key_no (who : Int) (w : World) (h : who < 0 ∨ 64 < who) :
    Calls Tryd.prog 26 #[.int .i64 who] w fun e w' => e = .returned (HN Seal.hz 20) ∧ Below w.heap.size w w' := by
  rw [show HN Seal.hz 20 = HN [] 20 by unfold HN; rw [bRow_hz]]
  have I24 := Lib.hid (i24_any [] (by simp))
  rcases h with h | h
  all_goals
    go_enter Tryd.func26, Tryd.ntmps26
    go_wp2_with (refine wpList_store_named rfl 24 (.tmp 2) (.tmp 12) rfl w.heap.size (bRow []) rfl rfl (bRow []) (Holds.new2 rfl rfl) I24.out rfl (bRow_one _) ?_; intro w5 hw5; have Hw5 := Lib.hid hw5; clear hw5)
    have hR : Holds w5 w.heap.size (bRow []) := by rw [Hw5.out]; exact (Holds.new _ _ _).row _
    exact bodyPost_ret (results_row_tmp rfl _ _ w.heap.size (bRow []) _ rfl hR Tryd.underlying24 rfl I24.out _ rfl) rfl ⟨rfl, by rw [Hw5.out]; exact below_setRow ((Below.refl _ _).alloc (Nat.le_refl _) _) (Nat.le_refl _) _⟩

set_option maxHeartbeats 1000000 in
set_option maxRecDepth 100000 in
theorem key_yes (who : Int) (w : World) (hT : Tab w) (h0 : 0 ≤ who) (h1 : who ≤ 64) :
    Calls Tryd.prog 26 #[.int .i64 who] w fun e w' => e = .returned (HN (Seal.keyL who.toNat) 0) ∧ Below w.heap.size w w' := by
  have HT := Lib.hid hT
  have hpos := hT.pos
  obtain ⟨R, hR⟩ : ∃ R, R = Seal.keyL who.toNat := ⟨_, rfl⟩
  have hR32 : R.length ≤ 32 := by rw [hR, Seal.keyL_len]; omega
  have I24 := Lib.hid (i24_any R hR32)
  have Hold := Lib.hid (bRow_same [] R (by simp) hR32)
  have hnl : (Oct.num who.toNat).length ≤ 9 := Oct.num_length_le who.toNat
  rw [← hR]
  have HR := Lib.hid hR
  clear hT hR hR32
  go_enter Tryd.func26, Tryd.ntmps26
  go_wp2_with fail
  refine calls_named ?_
  intro w1 hw1
  have hH : Holds w1 w.heap.size (bRow []) := by rw [hw1]; exact Holds.new _ _ _
  have hb1 : Below w.heap.size w w1 := by rw [hw1]; exact (Below.refl _ _).alloc (Nat.le_refl _) _
  clear hw1
  refine (Number_pos _ _ h0 (by omega)).mono ?_
  rintro e w2 ⟨rfl, hb2⟩
  have hH2 := hH.below hb2 hH.lt
  have hb2 := hb1.trans (hb2.mono hb1.size)
  have HH2 := Lib.hid hH2
  clear hH hH2
  have hbig : ¬ (9223372036854775807 < 3 + (Oct.num who.toNat).length) := by omega
  go_wp2_with fail
  have hsz : ((⟨#[107, 101, 121]⟩ : ByteArray) ++ (⟨(Oct.num who.toNat).toArray⟩ : ByteArray)).size = 3 + (Oct.num who.toNat).length := by
    rw [ByteArray.size_append]; rfl
  have hdl : ((⟨#[107, 101, 121]⟩ : ByteArray) ++ (⟨(Oct.num who.toNat).toArray⟩ : ByteArray)).data.toList = [107, 101, 121] ++ Oct.num who.toNat := by rw [ByteArray.data_append]; simp
  refine (sum_any _ w2 (HT.out.below hb2 hpos) (by rw [hsz]; omega)).mono ?_
  rw [hdl, show Sha.sum ([107, 101, 121] ++ Oct.num who.toNat) = R from HR.out.symm]
  rintro e w3 ⟨rfl, hb3⟩
  have HH3 := Lib.hid (HH2.out.below hb3 HH2.out.lt)
  have hb3 := hb2.trans (hb3.mono hb2.size)
  clear hsz hdl
  go_wp2_with (refine wpList_store_named rfl 24 (.tmp 2) (.tmp 20) rfl w.heap.size (bRow R) rfl rfl _ HH3.out I24.out Hold.out (bRow_one _) ?_; intro w5 hw5; have Hw5 := Lib.hid hw5; clear hw5)
  have hR5 : Holds w5 w.heap.size (bRow R) := by rw [Hw5.out]; exact HH3.out.row _
  exact bodyPost_ret (results_row_tmp rfl _ _ w.heap.size (bRow R) _ rfl hR5 Tryd.underlying24 rfl I24.out _ rfl) rfl ⟨rfl, by rw [Hw5.out]; exact below_setRow hb3 (Nat.le_refl _) _⟩

theorem key_any (who : Int) (w : World) (hT : Tab w) :
    Calls Tryd.prog 26 #[.int .i64 who] w fun e w' => e = .returned (HN (Seal.key who).1 (Seal.key who).2) ∧ Below w.heap.size w w' := by
  unfold Seal.key
  by_cases h : who < 0 ∨ 64 < who
  · rw [if_pos h]; exact key_no who w h
  · rw [if_neg h]; exact key_yes who w hT (by omega) (by omega)

set_option maxHeartbeats 1000000 in
set_option maxRecDepth 100000 in
theorem refKey_no (who : Int) (w : World) (h : who < 0 ∨ 64 < who) :
    Calls Tryd.prog 27 #[.int .i64 who] w fun e w' => e = .returned (HN Seal.hz 20) ∧ Below w.heap.size w w' := by
  rw [show HN Seal.hz 20 = HN [] 20 by unfold HN; rw [bRow_hz]]
  have I24 := Lib.hid (i24_any [] (by simp))
  rcases h with h | h
  all_goals
    go_enter Tryd.func27, Tryd.ntmps27
    go_wp2_with (refine wpList_store_named rfl 24 (.tmp 2) (.tmp 10) rfl w.heap.size (bRow []) rfl rfl (bRow []) (Holds.new2 rfl rfl) I24.out rfl (bRow_one _) ?_; intro w5 hw5; have Hw5 := Lib.hid hw5; clear hw5)
    have hR : Holds w5 w.heap.size (bRow []) := by rw [Hw5.out]; exact (Holds.new _ _ _).row _
    exact bodyPost_ret (results_row_tmp rfl _ _ w.heap.size (bRow []) _ rfl hR Tryd.underlying24 rfl I24.out _ rfl) rfl ⟨rfl, by rw [Hw5.out]; exact below_setRow ((Below.refl _ _).alloc (Nat.le_refl _) _) (Nat.le_refl _) _⟩

set_option maxHeartbeats 1000000 in
set_option maxRecDepth 100000 in
theorem refKey_zero (hRS : RefSum) (w : World) :
    Calls Tryd.prog 27 #[.int .i64 0] w fun e w' => e = .returned (HN (Seal.keyL 0) 0) ∧ Below w.heap.size w w' := by
  obtain ⟨R, hR⟩ : ∃ R, R = Seal.keyL 0 := ⟨_, rfl⟩
  have hR32 : R.length ≤ 32 := by rw [hR, Seal.keyL_len]; omega
  have I24 := Lib.hid (i24_any R hR32)
  have Hold := Lib.hid (bRow_same [] R (by simp) hR32)
  rw [← hR]
  rw [Seal.keyL_zero] at hR
  have HR := Lib.hid hR
  have HRS := Lib.hid hRS
  clear hR hR32 hRS
  go_enter Tryd.func27, Tryd.ntmps27
  go_wp2_with fail
  refine calls_named ?_
  intro w1 hw1
  have hH : Holds w1 w.heap.size (bRow []) := by rw [hw1]; exact Holds.new _ _ _
  have hb1 : Below w.heap.size w w1 := by rw [hw1]; exact (Below.refl _ _).alloc (Nat.le_refl _) _
  clear hw1
  have hc := HRS.out ⟨#[107, 101, 121, 0]⟩ w1 (by decide)
  change Calls _ _ _ _ (fun e w' => e = .returned (.agg (bRow (Sha.sum [107, 101, 121, 0]))) ∧ _) at hc
  rw [← HR.out] at hc
  refine hc.mono ?_
  rintro e w3 ⟨rfl, hb3⟩
  have HH3 := Lib.hid (hH.below hb3 hH.lt)
  have hb3 := hb1.trans (hb3.mono hb1.size)
  clear hc hH
  go_wp2_with (refine wpList_store_named rfl 24 (.tmp 2) (.tmp 13) rfl w.heap.size (bRow R) rfl rfl _ HH3.out I24.out Hold.out (bRow_one _) ?_; intro w5 hw5; have Hw5 := Lib.hid hw5; clear hw5)
  have hR5 : Holds w5 w.heap.size (bRow R) := by rw [Hw5.out]; exact HH3.out.row _
  exact bodyPost_ret (results_row_tmp rfl _ _ w.heap.size (bRow R) _ rfl hR5 Tryd.underlying24 rfl I24.out _ rfl) rfl ⟨rfl, by rw [Hw5.out]; exact below_setRow hb3 (Nat.le_refl _) _⟩

theorem one_byte_ (T : TypeId) (W : World) (x : Int) : (convert 28 9 (.slice (some ⟨W.heap.size, 0, none⟩) 1 1)).run Tryd.prog (W.alloc (.cells #[.int .u8 x] T)) = .ok (S [UInt8.ofNat x.toNat]) (W.alloc (.cells #[.int .u8 x] T)) := by
  have := run_convert_bytes_arg (P := Tryd.prog) (W.alloc (.cells #[.int .u8 x] T)) 28 5 Tryd.underlying28 Tryd.underlying5 W.heap.size 0 1 1 [x] rfl (fun i hi => by
    obtain rfl : i = 0 := by omega
    simp [go_sem]) 9 Tryd.underlying9
  exact this
set_option maxHeartbeats 1000000 in
set_option maxRecDepth 100000 in
theorem refKey_pos (hRS : RefSum) (who : Int) (w : World) (h0 : 0 < who) (h1 : who ≤ 64) :
    Calls Tryd.prog 27 #[.int .i64 who] w fun e w' => e = .returned (HN (Seal.keyL who.toNat) 0) ∧ Below w.heap.size w w' := by
  obtain ⟨R, hR⟩ : ∃ R, R = Seal.keyL who.toNat := ⟨_, rfl⟩
  have hR32 : R.length ≤ 32 := by rw [hR, Seal.keyL_len]; omega
  have I24 := Lib.hid (i24_any R hR32)
  have Hold := Lib.hid (bRow_same [] R (by simp) hR32)
  rw [← hR]
  rw [Seal.keyL_pos who.toNat (by omega) (by omega)] at hR
  have HR := Lib.hid hR
  have HRS := Lib.hid hRS
  have hne : (who == 0) = false := by simp only [beq_eq_false_iff_ne]; omega
  clear hR hR32 hRS
  go_enter Tryd.func27, Tryd.ntmps27
  have hcv : ∀ (X : Obj) (T : TypeId), (convert 28 9 (.slice (some ⟨w.heap.size + 1, 0, none⟩) 1 1)).run Tryd.prog ((w.alloc X).alloc (.cells #[.int .u8 who] T)) = .ok (S [UInt8.ofNat who.toNat]) ((w.alloc X).alloc (.cells #[.int .u8 who] T)) := by
    intro X T
    have := one_byte_ T (w.alloc X) who
    rwa [show (w.alloc X).heap.size = w.heap.size + 1 from by simp] at this
  go_wp2_with fail
  clear hcv
  refine calls_named ?_
  intro w1 hw1
  have hH : Holds w1 w.heap.size (bRow []) := by rw [hw1]; exact (Holds.new2 rfl rfl).alloc _
  have hb1 : Below w.heap.size w w1 := by rw [hw1]; exact ((Below.refl _ _).alloc (Nat.le_refl _) _).alloc (by simp) _
  clear hw1
  have hc := HRS.out ⟨#[107, 101, 121, 1, UInt8.ofNat who.toNat]⟩ w1 (by show 5 ≤ _; decide)
  change Calls _ _ _ _ (fun e w' => e = .returned (.agg (bRow (Sha.sum [107, 101, 121, 1, UInt8.ofNat who.toNat]))) ∧ _) at hc
  rw [← HR.out] at hc
  refine hc.mono ?_
  rintro e w3 ⟨rfl, hb3⟩
  have HH3 := Lib.hid (hH.below hb3 hH.lt)
  have hb3 := hb1.trans (hb3.mono hb1.size)
  clear hc hH
  go_wp2_with (refine wpList_store_named rfl 24 (.tmp 2) (.tmp 19) rfl w.heap.size (bRow R) rfl rfl _ HH3.out I24.out Hold.out (bRow_one _) ?_; intro w5 hw5; have Hw5 := Lib.hid hw5; clear hw5)
  have hR5 : Holds w5 w.heap.size (bRow R) := by rw [Hw5.out]; exact HH3.out.row _
  exact bodyPost_ret (results_row_tmp rfl _ _ w.heap.size (bRow R) _ rfl hR5 Tryd.underlying24 rfl I24.out _ rfl) rfl ⟨rfl, by rw [Hw5.out]; exact below_setRow hb3 (Nat.le_refl _) _⟩

theorem refKey_any (hRS : RefSum) (who : Int) (w : World) :
    Calls Tryd.prog 27 #[.int .i64 who] w fun e w' => e = .returned (HN (Seal.key who).1 (Seal.key who).2) ∧ Below w.heap.size w w' := by
  unfold Seal.key
  by_cases h : who < 0 ∨ 64 < who
  · rw [if_pos h]; exact refKey_no who w h
  · rw [if_neg h]
    by_cases h0 : who = 0
    · subst h0; rw [show (0 : Int).toNat = 0 from rfl]; exact refKey_zero hRS w
    · exact refKey_pos hRS who w (by omega) (by omega)
end Go.Proofs.YtdifbndpgbdkbaaDoor
