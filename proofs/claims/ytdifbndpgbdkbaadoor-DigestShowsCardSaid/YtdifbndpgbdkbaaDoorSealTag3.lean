/- cavalcaderef03.Tag: what it returns. -/
import Derived.Test.YtdifbndpgbdkbaaDoorSealTag2
import Derived.Test.YtdifbndpgbdkbaaDoorKeptR
import Derived.Deep.RegionHeld3
namespace Go.Proofs.YtdifbndpgbdkbaaDoor
open Go.RowKit
set_option linter.unusedVariables false
set_option linter.unusedSimpArgs false

set_option maxHeartbeats 1000000 in
set_option maxRecDepth 100000 in
theorem refTag_who (who dom : Int) (body : ByteArray) (w : World) (h : who < 0 ∨ 64 < who) :
    Calls Tryd.prog 30 #[.int .i64 who, .int .i64 dom, .string body] w fun e w' => e = .returned (HN Seal.hz 20) ∧ Below w.heap.size w w' := by
  have I24 := Lib.hid (i24_any [] (by simp))
  rw [HN_hz]
  go_enter Tryd.func30, Tryd.ntmps30
  go_wp2_with fail
  refine calls_named ?_
  intro w1 hw1
  have hH : Holds w1 w.heap.size (bRow []) := by rw [hw1]; exact Holds.new _ _ _
  have hb1 : Below w.heap.size w w1 := by rw [hw1]; exact (Below.refl _ _).alloc (Nat.le_refl _) _
  clear hw1
  have hk := refKey_no who w1 h
  rw [HN_hz] at hk
  refine hk.mono ?_
  rintro e w2 ⟨rfl, hb2⟩
  have HH2 := Lib.hid (hH.below hb2 hH.lt)
  have hb2 := hb1.trans (hb2.mono hb1.size)
  clear hk hH
  go_wp2_with (first
    | (refine wpList_store_named rfl 24 (.tmp 8) (.tmp 13) rfl w2.heap.size (bRow []) rfl rfl (bRow []) (Holds.new2 rfl rfl) I24.out rfl (bRow_one _) ?_; intro w5 hw5
       have H5 := Lib.hid (show Holds w5 w.heap.size (bRow []) by rw [hw5]; exact (HH2.out.alloc _).rowFar (by have := HH2.out.lt; omega) _)
       have hb5 := (show Below w.heap.size w w5 by rw [hw5]; exact below_setRow (hb2.alloc hb2.size _) hb2.size _)
       clear hw5)
    | (refine wpList_store_named rfl 24 (.tmp 6) (.tmp 17) rfl w.heap.size (bRow []) rfl rfl (bRow []) H5.out I24.out rfl (bRow_one _) ?_; intro w7 hw7; have Hw7 := Lib.hid hw7; clear hw7))
  have hR7 : Holds w7 w.heap.size (bRow []) := by rw [Hw7.out]; exact H5.out.row _
  exact bodyPost_ret (results_row_tmp rfl _ _ w.heap.size (bRow []) _ rfl hR7 Tryd.underlying24 rfl I24.out _ rfl) rfl ⟨rfl, by rw [Hw7.out]; exact below_setRow hb5 (Nat.le_refl _) _⟩

theorem refKey_any_ (hRS : RefSum) (who : Int) (w : World) (h0 : 0 ≤ who) (h1 : who ≤ 64) :
    Calls Tryd.prog 27 #[.int .i64 who] w fun e w' => e = .returned (HN (Seal.keyL who.toNat) 0) ∧ Below w.heap.size w w' := by
  have h := refKey_any hRS who w
  unfold Seal.key at h
  rw [if_neg (by omega)] at h
  exact h
set_option maxHeartbeats 1000000 in
set_option maxRecDepth 100000 in
theorem refTag_dom (hRS : RefSum) (who dom : Int) (body : ByteArray) (w : World) (h0 : 0 ≤ who) (h1 : who ≤ 64) (h : dom < 1 ∨ 4 < dom) :
    Calls Tryd.prog 30 #[.int .i64 who, .int .i64 dom, .string body] w fun e w' => e = .returned (HN Seal.hz 2) ∧ Below w.heap.size w w' := by
  obtain ⟨K, hK⟩ : ∃ K, K = Seal.keyL who.toNat := ⟨_, rfl⟩
  have hK32 : K.length ≤ 32 := by rw [hK, Seal.keyL_len]; omega
  have I24 := Lib.hid (i24_any [] (by simp))
  have I24k := Lib.hid (i24_any K hK32)
  have Hold := Lib.hid (bRow_same [] K (by simp) hK32)
  have key := fun (w1 : World) (hb1 : Below w.heap.size w w1) => refKey_any_ hRS who w1 h0 h1
  rw [← hK] at key
  have KEY := Lib.hid key
  rw [HN_hz]
  clear hK hK32 key hRS
  rcases h with h | h
  all_goals
    go_enter Tryd.func30, Tryd.ntmps30
    go_wp2_with fail
    refine calls_named ?_
    intro w1 hw1
    have hH : Holds w1 w.heap.size (bRow []) := by rw [hw1]; exact Holds.new _ _ _
    have hb1 : Below w.heap.size w w1 := by rw [hw1]; exact (Below.refl _ _).alloc (Nat.le_refl _) _
    clear hw1
    refine (KEY.out w1 hb1).mono ?_
    rintro e w2 ⟨rfl, hb2⟩
    have HH2 := Lib.hid (hH.below hb2 hH.lt)
    have hb2 := hb1.trans (hb2.mono hb1.size)
    clear hH
    go_wp2_with (first
      | (refine wpList_store_named rfl 24 (.tmp 8) (.tmp 13) rfl w2.heap.size (bRow K) rfl rfl (bRow []) (Holds.new2 rfl rfl) I24k.out Hold.out (bRow_one _) ?_; intro w5 hw5
         have H5 := Lib.hid (show Holds w5 w.heap.size (bRow []) by rw [hw5]; exact (HH2.out.alloc _).rowFar (by have := HH2.out.lt; omega) _)
         have hb5 := (show Below w.heap.size w w5 by rw [hw5]; exact below_setRow (hb2.alloc hb2.size _) hb2.size _)
         clear hw5)
      | (refine wpList_store_named rfl 24 (.tmp 6) (.tmp 25) rfl w.heap.size (bRow []) rfl rfl (bRow []) H5.out I24.out rfl (bRow_one _) ?_; intro w7 hw7; have Hw7 := Lib.hid hw7; clear hw7))
    have hR7 : Holds w7 w.heap.size (bRow []) := by rw [Hw7.out]; exact H5.out.row _
    exact bodyPost_ret (results_row_tmp rfl _ _ w.heap.size (bRow []) _ rfl hR7 Tryd.underlying24 rfl I24.out _ rfl) rfl ⟨rfl, by rw [Hw7.out]; exact below_setRow hb5 (Nat.le_refl _) _⟩

theorem one_byte_run (W : World) (g : Nat) (x : Int) (h : W.cell? ⟨g, 0, none⟩ = some (.int .u8 x)) : (convert 28 9 (.slice (some ⟨g, 0, none⟩) 1 1)).run Tryd.prog W = .ok (S [UInt8.ofNat x.toNat]) W := by
  have := run_convert_bytes_arg (P := Tryd.prog) W 28 5 Tryd.underlying28 Tryd.underlying5 g 0 1 1 [x] rfl (fun i hi => by
    obtain rfl : i = 0 := by omega
    simpa using h) 9 Tryd.underlying9
  exact this
set_option maxHeartbeats 2000000 in
set_option maxRecDepth 100000 in
theorem refTag_yes (hRS : RefSum) (who dom : Int) (body : ByteArray) (w : World) (h0 : 0 ≤ who) (h1 : who ≤ 64) (h2 : 1 ≤ dom) (h3 : dom ≤ 4) (hs : body.size ≤ 140737488354900) :
    Calls Tryd.prog 30 #[.int .i64 who, .int .i64 dom, .string body] w fun e w' => e = .returned (HN (Seal.tagL (Seal.keyL who.toNat) dom.toNat body.data.toList) 0) ∧ Below w.heap.size w w' := by
  obtain ⟨K, hK⟩ : ∃ K, K = Seal.keyL who.toNat := ⟨_, rfl⟩
  have hK32 : K.length ≤ 32 := by rw [hK, Seal.keyL_len]; omega
  have hKl : K.length = 32 := by rw [hK, Seal.keyL_len]
  have I24k := Lib.hid (i24_any K hK32)
  have Hold := Lib.hid (bRow_same [] K (by simp) hK32)
  have key := fun (w1 : World) (hb1 : Below w.heap.size w w1) => refKey_any_ hRS who w1 h0 h1
  rw [← hK] at key
  have KEY := Lib.hid key
  have HRS := Lib.hid hRS
  have HKl := Lib.hid hKl
  rw [← hK]
  clear hK hK32 key hKl hRS
  obtain ⟨R, hR⟩ : ∃ R, R = Seal.tagL K dom.toNat body.data.toList := ⟨_, rfl⟩
  have hR32 : R.length ≤ 32 := by rw [hR, Seal.tagL_len]; omega
  have hRl : R.length = 32 := by rw [hR, Seal.tagL_len]
  have I24 := Lib.hid (i24_any R hR32)
  have HoldR := Lib.hid (bRow_same [] R (by simp) hR32)
  have hut : IntKind.u8.wrap dom = dom := by rw [IntKind.wrap_u8]; omega
  rw [← hR]
  have HR := Lib.hid hR
  have HRl := Lib.hid hRl
  clear hR hR32 hRl
  go_enter Tryd.func30, Tryd.ntmps30
  go_wp2_with fail
  refine calls_named ?_
  intro w1 hw1
  have hH : Holds w1 w.heap.size (bRow []) := by rw [hw1]; exact Holds.new _ _ _
  have hb1 : Below w.heap.size w w1 := by rw [hw1]; exact (Below.refl _ _).alloc (Nat.le_refl _) _
  clear hw1
  refine (KEY.out w1 hb1).mono ?_
  rintro e w2 ⟨rfl, hb2⟩
  have HH2 := Lib.hid (hH.below hb2 hH.lt)
  have hb2 := hb1.trans (hb2.mono hb1.size)
  have hlt2 := HH2.out.lt
  clear hH
  go_wp2_with (refine wpList_store_named rfl 24 (.tmp 8) (.tmp 13) rfl w2.heap.size (bRow K) rfl rfl (bRow []) (Holds.new2 rfl rfl) I24k.out Hold.out (bRow_one _) ?_; intro w5 hw5
               have H5 := Lib.hid (show KeptR w w.heap.size [(w2.heap.size, bRow K)] w5 by
                 rw [hw5]
                 exact ⟨below_setRow (hb2.alloc hb2.size _) hb2.size _, ⟨bRow [], bRow_size [] (by simp), (HH2.out.alloc _).rowFar (by omega) _⟩, fun p hp => by
                   obtain rfl : p = (w2.heap.size, bRow K) := by simpa using hp
                   exact (Holds.new2 rfl rfl).row _⟩)
               clear hw5)
  obtain ⟨V, hV⟩ : ∃ V, V = bRow R := ⟨_, rfl⟩
  obtain ⟨U, hU⟩ : ∃ U, U = bRow K := ⟨_, rfl⟩
  have hVs : V.size = 32 := by rw [hV, bRow_size R (by rw [HRl.out]; omega)]
  have hUs : U.size = 32 := by rw [hU, bRow_size K (by rw [HKl.out]; omega)]
  have hVl : V.toList.length = 32 := by simp [hVs]
  have hUl : U.toList.length = 32 := by simp [hUs]
  have hV1 : ∀ v ∈ V.toList, v.oneCell' = true := by
    have := bRow_one R
    rw [← hV] at this
    intro v hv
    rw [Array.all_eq_true_iff_forall_mem] at this
    exact this v (Array.mem_toList_iff.1 hv)
  have i24 : (Tryd.prog.info? 24).map (·.size) = some 32 := by kernel_rfl
  have hVi : (Tryd.prog.info? 24).map (·.size) = some V.toList.length := i24.trans (congrArg some hVl.symm)
  have hUi : (Tryd.prog.info? 24).map (·.size) = some U.toList.length := i24.trans (congrArg some hUl.symm)
  have hu := Tryd.underlying24
  rw [← hU] at H5
  have hkeep0 : KeptR w w.heap.size [(w2.heap.size, U)] w5.drew := H5.out.drew
  have HV := Lib.hid hV
  have HU := Lib.hid hU
  have HVs := Lib.hid hVs
  have b1 : ∀ w' : World, Calls Tryd.prog 41 #[.agg U] w' fun e w'' => e = .returned (S K) ∧ Below w'.heap.size w' w'' := fun w' => by rw [HU.out]; exact bytes_any K w' HKl.out
  have hdl : ((⟨K.toArray⟩ : ByteArray) ++ (⟨[UInt8.ofNat dom.toNat].toArray⟩ : ByteArray) ++ body).data.toList = K ++ UInt8.ofNat dom.toNat :: body.data.toList := by rw [ByteArray.data_append, ByteArray.data_append]; simp
  have hsz : ((⟨K.toArray⟩ : ByteArray) ++ (⟨[UInt8.ofNat dom.toNat].toArray⟩ : ByteArray) ++ body).size = 33 + body.size := by
    rw [ByteArray.size_append, ByteArray.size_append]
    show K.length + 1 + body.size = _
    rw [HKl.out]
  have c1 : ∀ w' : World, Calls Tryd.prog 15 #[.string ((⟨K.toArray⟩ : ByteArray) ++ (⟨[UInt8.ofNat dom.toNat].toArray⟩ : ByteArray) ++ body)] w' fun e w'' => e = .returned (.agg V) ∧ Below w'.heap.size w' w'' := fun w' => by
    have := HRS.out ((⟨K.toArray⟩ : ByteArray) ++ (⟨[UInt8.ofNat dom.toNat].toArray⟩ : ByteArray) ++ body) w' (by rw [hsz]; omega)
    rw [hdl] at this
    rw [HV.out, HR.out]
    exact this
  have hg1 : ¬ (9223372036854775807 < K.length + 1) := by rw [HKl.out]; omega
  have hg2 : ¬ (9223372036854775807 < K.length + 1 + body.size) := by rw [HKl.out]; omega
  have B1 := Lib.hid b1
  have C1 := Lib.hid c1
  have hsum0 : ∀ W, KeptR w w.heap.size [(w2.heap.size, U)] W → KeptR w w.heap.size [(w2.heap.size, U)] W := fun _ h => h
  clear hV hU hVs hUs i24 b1 c1 hdl hsz hsum0
  have HFar : Hid (∀ p ∈ [(w2.heap.size, U)], p.1 ≠ w.heap.size) := fun p hp => by
    obtain rfl : p = (w2.heap.size, U) := by simpa using hp
    show w2.heap.size ≠ w.heap.size
    omega
  refine wp_region_noPanic ?_
  refine wp_region_held_drew (S := fun w' => KeptR w w.heap.size [(w2.heap.size, U)] w') (by kernel_rfl) hkeep0 (fun hHeld => ?_)
  generalize w5.drew = w6 at *
  refine' wpAnyH_take (i := 0) (v := _) rfl (by kernel_rfl) (by kernel_rfl) (by kernel_rfl) (fun _ _ _ h => h) (yieldsIf_load_mid (by rfl) _ _ rfl w2.heap.size 0 rfl U.toList _ (fun w' hS => KeptR.range hS (by simp)) hu rfl hUi) hHeld ?_
  try simp only [Act.put, List.getElem_toArray, List.getElem_cons_succ, List.getElem_cons_zero, List.setIfInBounds_toArray, List.set_cons_zero, List.set_cons_succ]
  refine wpAnyH_take (i := 2) (v := .int .i64 dom) rfl (by kernel_rfl) (by kernel_rfl) (by kernel_rfl) (fun _ _ _ h => h) (Or.inl ⟨by rfl, fun w' hSw => by go_simp⟩) hHeld ?_
  try simp only [Act.put, List.getElem_toArray, List.getElem_cons_succ, List.getElem_cons_zero, List.setIfInBounds_toArray, List.set_cons_zero, List.set_cons_succ]
  refine wpAnyH_take (i := 3) (v := .int .u8 dom) rfl (by kernel_rfl) (by kernel_rfl) (by kernel_rfl) (fun _ _ _ h => h) (Or.inl ⟨by rfl, fun w' hSw => by go_simp⟩) hHeld ?_
  try simp only [Act.put, List.getElem_toArray, List.getElem_cons_succ, List.getElem_cons_zero, List.setIfInBounds_toArray, List.set_cons_zero, List.set_cons_succ]
  refine wpAnyH_take (i := 7) (v := .string body) rfl (by kernel_rfl) (by kernel_rfl) (by kernel_rfl) (fun _ _ _ h => h) (Or.inl ⟨by rfl, fun w' hSw => by go_simp⟩) hHeld ?_
  try simp only [Act.put, List.getElem_toArray, List.getElem_cons_succ, List.getElem_cons_zero, List.setIfInBounds_toArray, List.set_cons_zero, List.set_cons_succ]
  refine wpAnyH_ready (rs := [1, 4]) (by kernel_rfl) (by simp) (AllReadyH.cons rfl (fun K1 hK1 => ?_) (AllReadyH.cons rfl (fun K1 hK1 => ?_) AllReadyH.nil))
  · try simp only [Act.put, List.getElem_toArray, List.getElem_cons_succ, List.getElem_cons_zero, List.setIfInBounds_toArray, List.set_cons_zero, List.set_cons_succ]
    go_simp
    refine Calls.mono (B1.out _) ?_
    rintro e wb ⟨rfl, hbb⟩
    refine hK1.out _ _ (hHeld.step hbb) (fun hHeld => ?_)
    clear hK1 K1
    try simp only [Act.put, List.getElem_toArray, List.getElem_cons_succ, List.getElem_cons_zero, List.setIfInBounds_toArray, List.set_cons_zero, List.set_cons_succ]
    refine wpAnyH_ready (rs := [4]) (by kernel_rfl) (by simp) (AllReadyH.cons rfl (fun K1 hK1 => ?_) AllReadyH.nil)
    try simp only [Act.put, List.getElem_toArray, List.getElem_cons_succ, List.getElem_cons_zero, List.setIfInBounds_toArray, List.set_cons_zero, List.set_cons_succ]
    go_simp
    obtain ⟨wa, hwa⟩ : ∃ wa, wa = wb.alloc (.cells #[.int .u8 dom] 5) := ⟨_, rfl⟩
    rw [← hwa]
    have hca : wa.cell? ⟨wb.heap.size, 0, none⟩ = some (.int .u8 dom) := by rw [hwa]; simp [go_sem]
    have hla : wb.heap.size < wa.heap.size := by rw [hwa]; simp
    refine hK1.out _ _ ((by rw [hwa]; exact hHeld.alloc _)) (fun hHeld => ?_)
    clear hK1 K1 hwa
    try simp only [Act.put, List.getElem_toArray, List.getElem_cons_succ, List.getElem_cons_zero, List.setIfInBounds_toArray, List.set_cons_zero, List.set_cons_succ]
    refine wpAnyH_ready (rs := [5]) (by kernel_rfl) (by simp) (AllReadyH.cons rfl (fun K1 hK1 => ?_) AllReadyH.nil)
    try simp only [Act.put, List.getElem_toArray, List.getElem_cons_succ, List.getElem_cons_zero, List.setIfInBounds_toArray, List.set_cons_zero, List.set_cons_succ]
    have hcv := one_byte_run wa wb.heap.size dom hca
    go_simp
    clear hcv
    refine hK1.out _ _ (hHeld) (fun hHeld => ?_)
    clear hK1 K1
    try simp only [Act.put, List.getElem_toArray, List.getElem_cons_succ, List.getElem_cons_zero, List.setIfInBounds_toArray, List.set_cons_zero, List.set_cons_succ]
    refine wpAnyH_take (i := 6) (v := .string ((⟨K.toArray⟩ : ByteArray) ++ (⟨[UInt8.ofNat dom.toNat].toArray⟩ : ByteArray))) rfl (by kernel_rfl) (by kernel_rfl) (by kernel_rfl) (fun _ _ _ h => h) (Or.inl ⟨by rfl, fun w' hSw => by go_simp⟩) hHeld ?_
    try simp only [Act.put, List.getElem_toArray, List.getElem_cons_succ, List.getElem_cons_zero, List.setIfInBounds_toArray, List.set_cons_zero, List.set_cons_succ]
    refine wpAnyH_take (i := 8) (v := .string ((⟨K.toArray⟩ : ByteArray) ++ (⟨[UInt8.ofNat dom.toNat].toArray⟩ : ByteArray) ++ body)) rfl (by kernel_rfl) (by kernel_rfl) (by kernel_rfl) (fun _ _ _ h => h) (Or.inl ⟨by rfl, fun w' hSw => by go_simp⟩) hHeld ?_
    try simp only [Act.put, List.getElem_toArray, List.getElem_cons_succ, List.getElem_cons_zero, List.setIfInBounds_toArray, List.set_cons_zero, List.set_cons_succ]
    refine wpAnyH_ready (rs := [9]) (by kernel_rfl) (by simp) (AllReadyH.cons rfl (fun K1 hK1 => ?_) AllReadyH.nil)
    try simp only [Act.put, List.getElem_toArray, List.getElem_cons_succ, List.getElem_cons_zero, List.setIfInBounds_toArray, List.set_cons_zero, List.set_cons_succ]
    go_simp
    refine Calls.mono (C1.out _) ?_
    rintro e wb2 ⟨rfl, hbb2⟩
    refine hK1.out _ _ (hHeld.step hbb2) (fun hHeld => ?_)
    clear hK1 K1
    try simp only [Act.put, List.getElem_toArray, List.getElem_cons_succ, List.getElem_cons_zero, List.setIfInBounds_toArray, List.set_cons_zero, List.set_cons_succ]
    refine wpAnyH_ready (rs := [10]) (by kernel_rfl) (by simp) (AllReadyH.cons rfl (fun K1 hK1 => ?_) AllReadyH.nil)
    try simp only [Act.put, List.getElem_toArray, List.getElem_cons_succ, List.getElem_cons_zero, List.setIfInBounds_toArray, List.set_cons_zero, List.set_cons_succ]
    rw [if_pos (by rfl)]
    refine wp_store_mid _ _ _ rfl w.heap.size 0 V rfl rfl (hHeld.there HVs.out) (by rw [← Array.length_toList]; exact hVi) (by rw [HV.out]; exact bRow_one _) ?_
    have hset := hHeld.set HVs.out (Nat.le_refl _) HFar.out
    generalize wb2.setCells w.heap.size 0 V.toList = w9 at *
    have H9 := Lib.hid hset.2
    have hset1 := hset.1
    clear hset
    refine hK1.out _ _ (hset1) (fun hHeld => ?_)
    clear hK1 K1
    try simp only [Act.put, List.getElem_toArray, List.getElem_cons_succ, List.getElem_cons_zero, List.setIfInBounds_toArray, List.set_cons_zero, List.set_cons_succ]
    refine wpAnyH_ready (rs := [11]) (by kernel_rfl) (by simp) (AllReadyH.cons rfl (fun K1 hK1 => ?_) AllReadyH.nil)
    try simp only [Act.put, List.getElem_toArray, List.getElem_cons_succ, List.getElem_cons_zero, List.setIfInBounds_toArray, List.set_cons_zero, List.set_cons_succ]
    try go_simp
    refine hK1.out _ _ (hset1) (fun hHeld => ?_)
    clear hK1 K1
    try simp only [Act.put, List.getElem_toArray, List.getElem_cons_succ, List.getElem_cons_zero, List.setIfInBounds_toArray, List.set_cons_zero, List.set_cons_succ]
    refine wpAnyH_done (by kernel_rfl) ?_ _
    refine NoPanic.normal ?_
    have hbe := hset1.1
    clear hset1 hHeld
    go_wp2_with fail
    rw [HV.out] at H9
    exact bodyPost_ret (results_row_tmp rfl _ _ w.heap.size (bRow R) _ rfl H9.out Tryd.underlying24 rfl I24.out _ rfl) rfl ⟨rfl, hbe⟩
  · try simp only [Act.put, List.getElem_toArray, List.getElem_cons_succ, List.getElem_cons_zero, List.setIfInBounds_toArray, List.set_cons_zero, List.set_cons_succ]
    go_simp
    obtain ⟨wa, hwa⟩ : ∃ wa, wa = w6.alloc (.cells #[.int .u8 dom] 5) := ⟨_, rfl⟩
    rw [← hwa]
    have hca : wa.cell? ⟨w6.heap.size, 0, none⟩ = some (.int .u8 dom) := by rw [hwa]; simp [go_sem]
    have hla : w6.heap.size < wa.heap.size := by rw [hwa]; simp
    refine hK1.out _ _ ((by rw [hwa]; exact hHeld.alloc _)) (fun hHeld => ?_)
    clear hK1 K1 hwa
    try simp only [Act.put, List.getElem_toArray, List.getElem_cons_succ, List.getElem_cons_zero, List.setIfInBounds_toArray, List.set_cons_zero, List.set_cons_succ]
    refine wpAnyH_ready (rs := [1, 5]) (by kernel_rfl) (by simp) (AllReadyH.cons rfl (fun K1 hK1 => ?_) (AllReadyH.cons rfl (fun K1 hK1 => ?_) AllReadyH.nil))
    · try simp only [Act.put, List.getElem_toArray, List.getElem_cons_succ, List.getElem_cons_zero, List.setIfInBounds_toArray, List.set_cons_zero, List.set_cons_succ]
      go_simp
      refine Calls.mono (B1.out _) ?_
      rintro e wb ⟨rfl, hbb⟩
      refine hK1.out _ _ (hHeld.step hbb) (fun hHeld => ?_)
      clear hK1 K1
      try simp only [Act.put, List.getElem_toArray, List.getElem_cons_succ, List.getElem_cons_zero, List.setIfInBounds_toArray, List.set_cons_zero, List.set_cons_succ]
      have hca := (hbb.cell (p := ⟨w6.heap.size, 0, none⟩) hla).trans hca
      refine wpAnyH_ready (rs := [5]) (by kernel_rfl) (by simp) (AllReadyH.cons rfl (fun K1 hK1 => ?_) AllReadyH.nil)
      try simp only [Act.put, List.getElem_toArray, List.getElem_cons_succ, List.getElem_cons_zero, List.setIfInBounds_toArray, List.set_cons_zero, List.set_cons_succ]
      have hcv := one_byte_run wb w6.heap.size dom hca
      go_simp
      clear hcv
      refine hK1.out _ _ (hHeld) (fun hHeld => ?_)
      clear hK1 K1
      try simp only [Act.put, List.getElem_toArray, List.getElem_cons_succ, List.getElem_cons_zero, List.setIfInBounds_toArray, List.set_cons_zero, List.set_cons_succ]
      refine wpAnyH_take (i := 6) (v := .string ((⟨K.toArray⟩ : ByteArray) ++ (⟨[UInt8.ofNat dom.toNat].toArray⟩ : ByteArray))) rfl (by kernel_rfl) (by kernel_rfl) (by kernel_rfl) (fun _ _ _ h => h) (Or.inl ⟨by rfl, fun w' hSw => by go_simp⟩) hHeld ?_
      try simp only [Act.put, List.getElem_toArray, List.getElem_cons_succ, List.getElem_cons_zero, List.setIfInBounds_toArray, List.set_cons_zero, List.set_cons_succ]
      refine wpAnyH_take (i := 8) (v := .string ((⟨K.toArray⟩ : ByteArray) ++ (⟨[UInt8.ofNat dom.toNat].toArray⟩ : ByteArray) ++ body)) rfl (by kernel_rfl) (by kernel_rfl) (by kernel_rfl) (fun _ _ _ h => h) (Or.inl ⟨by rfl, fun w' hSw => by go_simp⟩) hHeld ?_
      try simp only [Act.put, List.getElem_toArray, List.getElem_cons_succ, List.getElem_cons_zero, List.setIfInBounds_toArray, List.set_cons_zero, List.set_cons_succ]
      refine wpAnyH_ready (rs := [9]) (by kernel_rfl) (by simp) (AllReadyH.cons rfl (fun K1 hK1 => ?_) AllReadyH.nil)
      try simp only [Act.put, List.getElem_toArray, List.getElem_cons_succ, List.getElem_cons_zero, List.setIfInBounds_toArray, List.set_cons_zero, List.set_cons_succ]
      go_simp
      refine Calls.mono (C1.out _) ?_
      rintro e wb2 ⟨rfl, hbb2⟩
      refine hK1.out _ _ (hHeld.step hbb2) (fun hHeld => ?_)
      clear hK1 K1
      try simp only [Act.put, List.getElem_toArray, List.getElem_cons_succ, List.getElem_cons_zero, List.setIfInBounds_toArray, List.set_cons_zero, List.set_cons_succ]
      refine wpAnyH_ready (rs := [10]) (by kernel_rfl) (by simp) (AllReadyH.cons rfl (fun K1 hK1 => ?_) AllReadyH.nil)
      try simp only [Act.put, List.getElem_toArray, List.getElem_cons_succ, List.getElem_cons_zero, List.setIfInBounds_toArray, List.set_cons_zero, List.set_cons_succ]
      rw [if_pos (by rfl)]
      refine wp_store_mid _ _ _ rfl w.heap.size 0 V rfl rfl (hHeld.there HVs.out) (by rw [← Array.length_toList]; exact hVi) (by rw [HV.out]; exact bRow_one _) ?_
      have hset := hHeld.set HVs.out (Nat.le_refl _) HFar.out
      generalize wb2.setCells w.heap.size 0 V.toList = w9 at *
      have H9 := Lib.hid hset.2
      have hset1 := hset.1
      clear hset
      refine hK1.out _ _ (hset1) (fun hHeld => ?_)
      clear hK1 K1
      try simp only [Act.put, List.getElem_toArray, List.getElem_cons_succ, List.getElem_cons_zero, List.setIfInBounds_toArray, List.set_cons_zero, List.set_cons_succ]
      refine wpAnyH_ready (rs := [11]) (by kernel_rfl) (by simp) (AllReadyH.cons rfl (fun K1 hK1 => ?_) AllReadyH.nil)
      try simp only [Act.put, List.getElem_toArray, List.getElem_cons_succ, List.getElem_cons_zero, List.setIfInBounds_toArray, List.set_cons_zero, List.set_cons_succ]
      try go_simp
      refine hK1.out _ _ (hset1) (fun hHeld => ?_)
      clear hK1 K1
      try simp only [Act.put, List.getElem_toArray, List.getElem_cons_succ, List.getElem_cons_zero, List.setIfInBounds_toArray, List.set_cons_zero, List.set_cons_succ]
      refine wpAnyH_done (by kernel_rfl) ?_ _
      refine NoPanic.normal ?_
      have hbe := hset1.1
      clear hset1 hHeld
      go_wp2_with fail
      rw [HV.out] at H9
      exact bodyPost_ret (results_row_tmp rfl _ _ w.heap.size (bRow R) _ rfl H9.out Tryd.underlying24 rfl I24.out _ rfl) rfl ⟨rfl, hbe⟩
    · try simp only [Act.put, List.getElem_toArray, List.getElem_cons_succ, List.getElem_cons_zero, List.setIfInBounds_toArray, List.set_cons_zero, List.set_cons_succ]
      have hcv := one_byte_run wa w6.heap.size dom hca
      go_simp
      clear hcv
      refine hK1.out _ _ (hHeld) (fun hHeld => ?_)
      clear hK1 K1
      try simp only [Act.put, List.getElem_toArray, List.getElem_cons_succ, List.getElem_cons_zero, List.setIfInBounds_toArray, List.set_cons_zero, List.set_cons_succ]
      refine wpAnyH_ready (rs := [1]) (by kernel_rfl) (by simp) (AllReadyH.cons rfl (fun K1 hK1 => ?_) AllReadyH.nil)
      try simp only [Act.put, List.getElem_toArray, List.getElem_cons_succ, List.getElem_cons_zero, List.setIfInBounds_toArray, List.set_cons_zero, List.set_cons_succ]
      go_simp
      refine Calls.mono (B1.out _) ?_
      rintro e wb ⟨rfl, hbb⟩
      refine hK1.out _ _ (hHeld.step hbb) (fun hHeld => ?_)
      clear hK1 K1
      try simp only [Act.put, List.getElem_toArray, List.getElem_cons_succ, List.getElem_cons_zero, List.setIfInBounds_toArray, List.set_cons_zero, List.set_cons_succ]
      refine wpAnyH_take (i := 6) (v := .string ((⟨K.toArray⟩ : ByteArray) ++ (⟨[UInt8.ofNat dom.toNat].toArray⟩ : ByteArray))) rfl (by kernel_rfl) (by kernel_rfl) (by kernel_rfl) (fun _ _ _ h => h) (Or.inl ⟨by rfl, fun w' hSw => by go_simp⟩) hHeld ?_
      try simp only [Act.put, List.getElem_toArray, List.getElem_cons_succ, List.getElem_cons_zero, List.setIfInBounds_toArray, List.set_cons_zero, List.set_cons_succ]
      refine wpAnyH_take (i := 8) (v := .string ((⟨K.toArray⟩ : ByteArray) ++ (⟨[UInt8.ofNat dom.toNat].toArray⟩ : ByteArray) ++ body)) rfl (by kernel_rfl) (by kernel_rfl) (by kernel_rfl) (fun _ _ _ h => h) (Or.inl ⟨by rfl, fun w' hSw => by go_simp⟩) hHeld ?_
      try simp only [Act.put, List.getElem_toArray, List.getElem_cons_succ, List.getElem_cons_zero, List.setIfInBounds_toArray, List.set_cons_zero, List.set_cons_succ]
      refine wpAnyH_ready (rs := [9]) (by kernel_rfl) (by simp) (AllReadyH.cons rfl (fun K1 hK1 => ?_) AllReadyH.nil)
      try simp only [Act.put, List.getElem_toArray, List.getElem_cons_succ, List.getElem_cons_zero, List.setIfInBounds_toArray, List.set_cons_zero, List.set_cons_succ]
      go_simp
      refine Calls.mono (C1.out _) ?_
      rintro e wb2 ⟨rfl, hbb2⟩
      refine hK1.out _ _ (hHeld.step hbb2) (fun hHeld => ?_)
      clear hK1 K1
      try simp only [Act.put, List.getElem_toArray, List.getElem_cons_succ, List.getElem_cons_zero, List.setIfInBounds_toArray, List.set_cons_zero, List.set_cons_succ]
      refine wpAnyH_ready (rs := [10]) (by kernel_rfl) (by simp) (AllReadyH.cons rfl (fun K1 hK1 => ?_) AllReadyH.nil)
      try simp only [Act.put, List.getElem_toArray, List.getElem_cons_succ, List.getElem_cons_zero, List.setIfInBounds_toArray, List.set_cons_zero, List.set_cons_succ]
      rw [if_pos (by rfl)]
      refine wp_store_mid _ _ _ rfl w.heap.size 0 V rfl rfl (hHeld.there HVs.out) (by rw [← Array.length_toList]; exact hVi) (by rw [HV.out]; exact bRow_one _) ?_
      have hset := hHeld.set HVs.out (Nat.le_refl _) HFar.out
      generalize wb2.setCells w.heap.size 0 V.toList = w9 at *
      have H9 := Lib.hid hset.2
      have hset1 := hset.1
      clear hset
      refine hK1.out _ _ (hset1) (fun hHeld => ?_)
      clear hK1 K1
      try simp only [Act.put, List.getElem_toArray, List.getElem_cons_succ, List.getElem_cons_zero, List.setIfInBounds_toArray, List.set_cons_zero, List.set_cons_succ]
      refine wpAnyH_ready (rs := [11]) (by kernel_rfl) (by simp) (AllReadyH.cons rfl (fun K1 hK1 => ?_) AllReadyH.nil)
      try simp only [Act.put, List.getElem_toArray, List.getElem_cons_succ, List.getElem_cons_zero, List.setIfInBounds_toArray, List.set_cons_zero, List.set_cons_succ]
      try go_simp
      refine hK1.out _ _ (hset1) (fun hHeld => ?_)
      clear hK1 K1
      try simp only [Act.put, List.getElem_toArray, List.getElem_cons_succ, List.getElem_cons_zero, List.setIfInBounds_toArray, List.set_cons_zero, List.set_cons_succ]
      refine wpAnyH_done (by kernel_rfl) ?_ _
      refine NoPanic.normal ?_
      have hbe := hset1.1
      clear hset1 hHeld
      go_wp2_with fail
      rw [HV.out] at H9
      exact bodyPost_ret (results_row_tmp rfl _ _ w.heap.size (bRow R) _ rfl H9.out Tryd.underlying24 rfl I24.out _ rfl) rfl ⟨rfl, hbe⟩
theorem refTag_any (hRS : RefSum) (who dom : Int) (body : ByteArray) (w : World) (hs : body.size ≤ 140737488354900) :
    Calls Tryd.prog 30 #[.int .i64 who, .int .i64 dom, .string body] w fun e w' => e = .returned (HN (Seal.tag who dom body.data.toList).1 (Seal.tag who dom body.data.toList).2) ∧ Below w.heap.size w w' := by
  unfold Seal.tag
  by_cases h : who < 0 ∨ 64 < who
  · rw [if_pos h]; exact refTag_who who dom body w h
  · rw [if_neg h]
    by_cases h2 : dom < 1 ∨ 4 < dom
    · rw [if_pos h2]; exact refTag_dom hRS who dom body w (by omega) (by omega) h2
    · rw [if_neg h2]; exact refTag_yes hRS who dom body w (by omega) (by omega) (by omega) (by omega) hs
end Go.Proofs.YtdifbndpgbdkbaaDoor
