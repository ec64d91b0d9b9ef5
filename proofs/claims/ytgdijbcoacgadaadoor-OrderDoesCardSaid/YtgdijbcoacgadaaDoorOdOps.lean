/- What a log tells: Len, At, Head. -/
import Derived.Test.YtgdijbcoacgadaaDoorOdMem
namespace Go.Proofs.YtgdijbcoacgadaaDoor
open Go.RowKit
set_option linter.unusedVariables false
set_option linter.unusedSimpArgs false
set_option maxRecDepth 100000
theorem LogAt.lenC {w : World} {base B : Nat} {v dv : Value} {rs : List Rp} (h : LogAt w base B v dv rs) :
    Calls Tryd.prog 16 #[.pointer (some ⟨B, 0, none⟩)] w fun e w' => e = .returned (.int .i64 rs.length) ∧ w = w' := by
  obtain ⟨A, c, rfl⟩ := h.form
  have c0 := h.c0
  generalize rs.length = n at *
  clear h
  go_enter Tryd.func16, Tryd.ntmps16
  go_wp2_with fail
  go_ret
  exact ⟨rfl, rfl⟩
theorem len_nil (w : World) : Calls Tryd.prog 16 #[.pointer none] w fun e w' => e = .returned (.int .i64 0) ∧ w = w' := by
  go_enter Tryd.func16, Tryd.ntmps16
  go_wp2_with fail
  go_ret
  exact ⟨rfl, rfl⟩
set_option maxHeartbeats 1600000 in
theorem LogAt.at_yes {w : World} {base B : Nat} {v dv : Value} {rs : List Rp} (h : LogAt w base B v dv rs) (k : Nat) (hk : k < rs.length) :
    Calls Tryd.prog 14 #[.pointer (some ⟨B, 0, none⟩), .int .i64 (k : Int)] w fun e w' => e = .returned (.tuple #[.agg rs[k].cells.toArray, .int .i64 0]) ∧ Below w.heap.size w w' := by
  obtain ⟨A, c, rfl⟩ := h.form
  have hzv := rp_zv
  have HBt : Hid (Tryd.prog.built 30 [] = some Rp.zero.cells.toArray) := Lib.hid Rp.zero_built0
  have HZ68 := Lib.hid (Rp.cells_len Rp.zero_fits.prev Rp.zero_fits.hash)
  have HZ1 := Lib.hid (Rp.cells_one Rp.zero_fits.prev Rp.zero_fits.hash)
  obtain ⟨ZT, hZT⟩ : ∃ ZT, Rp.zero.cells = ZT := ⟨_, rfl⟩
  rw [hZT] at hzv HBt HZ68 HZ1
  have HZT := Lib.hid hZT
  clear hZT
  have hf := h.fits _ (List.getElem_mem hk)
  obtain ⟨g, c', hge, _, hgl⟩ := h.own.ne (by intro e; rw [e] at hk; simp at hk)
  injection hge with ea eb ec
  subst ea
  clear eb ec
  have hrng := h.own.at (Rp.lens h.fits) k hk
  have HC68 := Lib.hid (Rp.cells_len hf.prev hf.hash)
  have HC1 := Lib.hid (Rp.cells_one hf.prev hf.hash)
  obtain ⟨C, hC⟩ : ∃ C, rs[k].cells = C := ⟨_, rfl⟩
  rw [hC] at hrng HC68 HC1 ⊢
  have hb0 := (Below.refl w.heap.size w).alloc (Nat.le_refl _) (.cells ZT.toArray 30)
  have c0 := (h.below hb0).c0
  have HRg : Hid ((w.alloc (.cells ZT.toArray 30)).rangeAt g (k * 68) C) := Lib.hid (fun j v hv => (hb0.cell (p := ⟨g, k * 68 + j, none⟩) hgl).trans (hrng j v hv))
  have HR0 := Lib.hid (Row.new w 30 ZT)
  have HB0 := Lib.hid hb0
  have hk0 : (0 : Int) ≤ (k : Int) := by omega
  have hkn : (k : Int) < (rs.length : Int) := by omega
  have d1 : decide ((k : Int) < 0) = false := decide_eq_false (by omega)
  have d2 : decide ((k : Int) ≥ (rs.length : Int)) = false := decide_eq_false (by omega)
  have d2' : decide ((rs.length : Int) ≤ (k : Int)) = false := decide_eq_false (by omega)
  clear h hf hrng hC hb0 hgl hk
  generalize rs.length = n at *
  go_enter Tryd.func14, Tryd.ntmps14
  go_wp2_with (first
    | ((with_reducible show wpList _ _ _ (⟨_, .load 30 (.tmp 26), _, _, _, _⟩ :: _) _ _); refine wpList_load_tx rfl 30 (.tmp 26) rfl g (k * 68) (by first | rfl | simp) C _ (HRg.out) Tryd.underlying30 rfl (by rw [rp_info, HC68.out]) ?_)
    | (
       with_reducible show wpList _ _ _ (⟨_, .store 30 (.tmp 4) _, _, _, _, _⟩ :: _) _ _
       refine wpList_store_at rfl 30 (.tmp 4) (.tmp 27) rfl w.heap.size 0 C ZT _ rfl rfl (HR0.out) (by have := HZ68.out; have := HC68.out; omega) (by rw [rp_info, HC68.out]) HC1.out ?_
       intro w9 hr hg
       rw [splice_all (HC68.out.trans HZ68.out.symm)] at hr
       have HS9 := Lib.hid hr
       have HB9 := Lib.hid (below_own HB0.out hg (fun k hk => by cases hk; exact Nat.le_refl _))
       clear hr hg))
  refine bodyPost_ret (results_rowL rfl _ _ w.heap.size 30 C _ rfl HS9.out Tryd.underlying30 rfl (by rw [rp_info]; simp [HC68.out]) (.int .i64 0) rfl) rfl ⟨rfl, HB9.out⟩
set_option maxHeartbeats 1600000 in
theorem LogAt.at_no {w : World} {base B : Nat} {v dv : Value} {rs : List Rp} (h : LogAt w base B v dv rs) (i : Int) (hi : i < 0 ∨ (rs.length : Int) ≤ i) :
    Calls Tryd.prog 14 #[.pointer (some ⟨B, 0, none⟩), .int .i64 i] w fun e w' => e = .returned (.tuple #[.agg Rp.zero.cells.toArray, .int .i64 4]) ∧ Below w.heap.size w w' := by
  obtain ⟨A, c, rfl⟩ := h.form
  have hzv := rp_zv
  have HBt : Hid (Tryd.prog.built 30 [] = some Rp.zero.cells.toArray) := Lib.hid Rp.zero_built0
  have HZ68 := Lib.hid (Rp.cells_len Rp.zero_fits.prev Rp.zero_fits.hash)
  have HZ1 := Lib.hid (Rp.cells_one Rp.zero_fits.prev Rp.zero_fits.hash)
  obtain ⟨ZT, hZT⟩ : ∃ ZT, Rp.zero.cells = ZT := ⟨_, rfl⟩
  rw [hZT] at hzv HBt HZ68 HZ1
  have HZT := Lib.hid hZT
  clear hZT
  have hb0 := (Below.refl w.heap.size w).alloc (Nat.le_refl _) (.cells ZT.toArray 30)
  have c0 := (h.below hb0).c0
  have HR0 := Lib.hid (Row.new w 30 ZT)
  have HB0 := Lib.hid hb0
  rw [HZT.out]
  generalize rs.length = n at *
  clear h hb0
  by_cases hi0 : i < 0
  · have d1 : decide (i < 0) = true := decide_eq_true hi0
    clear hi hi0
    go_enter Tryd.func14, Tryd.ntmps14
    go_wp2_with (first
      | ((with_reducible show wpList _ _ _ (⟨_, .build 30 _, _, _, _, _⟩ :: _) _ _); refine wpList_buildL rfl 30 [] rfl (some 20) rfl _ rfl ZT.toArray HBt.out ?_)
      | (
         with_reducible show wpList _ _ _ (⟨_, .store 30 (.tmp 4) _, _, _, _, _⟩ :: _) _ _
         refine wpList_store_at rfl 30 (.tmp 4) (.tmp 20) rfl w.heap.size 0 ZT ZT _ rfl rfl (HR0.out) (by have := HZ68.out; have := HZ68.out; omega) (by rw [rp_info, HZ68.out]) HZ1.out ?_
         intro w9 hr hg
         rw [splice_all (HZ68.out.trans HZ68.out.symm)] at hr
         have HS9 := Lib.hid hr
         have HB9 := Lib.hid (below_own HB0.out hg (fun k hk => by cases hk; exact Nat.le_refl _))
         clear hr hg))
    refine bodyPost_ret (results_rowL rfl _ _ w.heap.size 30 ZT _ rfl HS9.out Tryd.underlying30 rfl (by rw [rp_info]; simp [HZ68.out]) (.int .i64 4) rfl) rfl ⟨rfl, HB9.out⟩
  · have d1 : decide (i < 0) = false := decide_eq_false hi0
    have d2 : decide (i ≥ (n : Int)) = true := decide_eq_true (by omega)
    have d2' : decide ((n : Int) ≤ i) = true := decide_eq_true (by omega)
    clear hi hi0
    go_enter Tryd.func14, Tryd.ntmps14
    go_wp2_with (first
      | ((with_reducible show wpList _ _ _ (⟨_, .build 30 _, _, _, _, _⟩ :: _) _ _); refine wpList_buildL rfl 30 [] rfl (some 20) rfl _ rfl ZT.toArray HBt.out ?_)
      | (
         with_reducible show wpList _ _ _ (⟨_, .store 30 (.tmp 4) _, _, _, _, _⟩ :: _) _ _
         refine wpList_store_at rfl 30 (.tmp 4) (.tmp 20) rfl w.heap.size 0 ZT ZT _ rfl rfl (HR0.out) (by have := HZ68.out; have := HZ68.out; omega) (by rw [rp_info, HZ68.out]) HZ1.out ?_
         intro w9 hr hg
         rw [splice_all (HZ68.out.trans HZ68.out.symm)] at hr
         have HS9 := Lib.hid hr
         have HB9 := Lib.hid (below_own HB0.out hg (fun k hk => by cases hk; exact Nat.le_refl _))
         clear hr hg))
    refine bodyPost_ret (results_rowL rfl _ _ w.heap.size 30 ZT _ rfl HS9.out Tryd.underlying30 rfl (by rw [rp_info]; simp [HZ68.out]) (.int .i64 4) rfl) rfl ⟨rfl, HB9.out⟩
set_option maxHeartbeats 1600000 in
theorem at19_nil (i : Int) (w : World) : Calls Tryd.prog 14 #[.pointer none, .int .i64 i] w fun e w' => e = .returned (.tuple #[.agg Rp.zero.cells.toArray, .int .i64 1]) ∧ Below w.heap.size w w' := by
  have hzv := rp_zv
  have HBt : Hid (Tryd.prog.built 30 [] = some Rp.zero.cells.toArray) := Lib.hid Rp.zero_built0
  have HZ68 := Lib.hid (Rp.cells_len Rp.zero_fits.prev Rp.zero_fits.hash)
  have HZ1 := Lib.hid (Rp.cells_one Rp.zero_fits.prev Rp.zero_fits.hash)
  obtain ⟨ZT, hZT⟩ : ∃ ZT, Rp.zero.cells = ZT := ⟨_, rfl⟩
  rw [hZT] at hzv HBt HZ68 HZ1
  have HZT := Lib.hid hZT
  clear hZT
  have HR0 := Lib.hid (Row.new w 30 ZT)
  have HB0 := Lib.hid ((Below.refl w.heap.size w).alloc (Nat.le_refl _) (.cells ZT.toArray 30))
  rw [HZT.out]
  go_enter Tryd.func14, Tryd.ntmps14
  go_wp2_with (first
    | ((with_reducible show wpList _ _ _ (⟨_, .build 30 _, _, _, _, _⟩ :: _) _ _); refine wpList_buildL rfl 30 [] rfl (some 8) rfl _ rfl ZT.toArray HBt.out ?_)
    | (
       with_reducible show wpList _ _ _ (⟨_, .store 30 (.tmp 4) _, _, _, _, _⟩ :: _) _ _
       refine wpList_store_at rfl 30 (.tmp 4) (.tmp 8) rfl w.heap.size 0 ZT ZT _ rfl rfl (HR0.out) (by have := HZ68.out; have := HZ68.out; omega) (by rw [rp_info, HZ68.out]) HZ1.out ?_
       intro w9 hr hg
       rw [splice_all (HZ68.out.trans HZ68.out.symm)] at hr
       have HS9 := Lib.hid hr
       have HB9 := Lib.hid (below_own HB0.out hg (fun k hk => by cases hk; exact Nat.le_refl _))
       clear hr hg))
  refine bodyPost_ret (results_rowL rfl _ _ w.heap.size 30 ZT _ rfl HS9.out Tryd.underlying30 rfl (by rw [rp_info]; simp [HZ68.out]) (.int .i64 1) rfl) rfl ⟨rfl, HB9.out⟩
/-- Head, where Len and At are known -/
theorem head19 (p : Value) (n : Int) (r : Rp) (hr : r.Fits) (e : Int) (w : World) (L : ∀ W, Below w.heap.size w W → Calls Tryd.prog 16 #[p] W fun e w' => e = .returned (.int .i64 n) ∧ W = w') (hn : -1 ≤ n - 1 ∧ n ≤ 100000)
    (A : ∀ W, Below w.heap.size w W → Calls Tryd.prog 14 #[p, .int .i64 (n - 1)] W fun e' w' => e' = .returned (.tuple #[.agg r.cells.toArray, .int .i64 e]) ∧ Below W.heap.size W w') :
    Calls Tryd.prog 26 #[p] w fun e w' => e = .returned (.agg (bRow r.hash)) ∧ Below w.heap.size w w' := by
  have LN := Lib.hid L
  have AT := Lib.hid A
  have ew : IntKind.i64.wrap (n - 1) = n - 1 := IntWalk.i64_in _ (by omega)
  have hzh : ∀ W : World, (zeroValue 28).run Tryd.prog W = .ok (.agg (bRow Tx.zero).toList.toArray) W := fun W => by rw [Array.toArray_toList]; exact hash_zv W
  have HZ32 := Lib.hid (Tx.bRow_len Tx.zero rfl)
  have HH32 := Lib.hid (Tx.bRow_len r.hash hr.hash)
  have HH1 : Hid (∀ v ∈ (bRow r.hash).toList, v.oneCell' = true) := Lib.hid (hash_one _ hr.hash)
  have HC68 := Lib.hid (Rp.cells_len hr.prev hr.hash)
  have HC1 := Lib.hid (Rp.cells_one hr.prev hr.hash)
  have HAt := Lib.hid (fun W g (h : Row W g 30 r.cells) => (Rp.at hr.prev (row_range h)).2.2.2.2)
  have hzv := rp_zv
  have HBt : Hid (Tryd.prog.built 30 [] = some Rp.zero.cells.toArray) := Lib.hid Rp.zero_built0
  have HZ68 := Lib.hid (Rp.cells_len Rp.zero_fits.prev Rp.zero_fits.hash)
  have HZ1 := Lib.hid (Rp.cells_one Rp.zero_fits.prev Rp.zero_fits.hash)
  obtain ⟨ZT, hZT⟩ : ∃ ZT, Rp.zero.cells = ZT := ⟨_, rfl⟩
  rw [hZT] at hzv HBt HZ68 HZ1
  have HZT := Lib.hid hZT
  clear hZT
  rw [show (bRow r.hash) = (bRow r.hash).toList.toArray by rw [Array.toArray_toList]]
  generalize (bRow r.hash).toList = H at *
  generalize (bRow Tx.zero).toList = ZH at *
  obtain ⟨C, hC⟩ : ∃ C, r.cells = C := ⟨_, rfl⟩
  rw [hC] at AT HC68 HC1 HAt
  have HB1 := Lib.hid ((Below.refl w.heap.size w).alloc (Nat.le_refl _) (.cells ZH.toArray 28))
  have HR1 := Lib.hid (Row.new w 28 ZH)
  clear L A hn hr hC
  go_enter Tryd.func26, Tryd.ntmps26
  go_wp2_with fail
  refine (LN.out _ HB1.out).mono ?_
  rintro _ w2 ⟨rfl, rfl⟩
  go_wp2_with fail
  refine (AT.out _ HB1.out).mono ?_
  rintro _ w3 ⟨rfl, hb3⟩
  have HB3 := Lib.hid (two_below' HB1.out hb3)
  have HR3 := Lib.hid (HR1.out.below hb3)
  clear hb3
  go_wp2_with (first
    | (
       with_reducible show wpList _ _ _ (⟨_, .store 30 (.tmp 3) _, _, _, _, _⟩ :: _) _ _
       refine wpList_store_at rfl 30 (.tmp 3) (.tmp 11) rfl w3.heap.size 0 C ZT _ rfl rfl (Row.new w3 30 ZT) (by have := HZ68.out; have := HC68.out; omega) (by rw [rp_info, HC68.out]) HC1.out ?_
       intro w4 hr hg
       rw [splice_all (HC68.out.trans HZ68.out.symm)] at hr
       have hbx := below_own ((Below.refl w3.heap.size w3).alloc (Nat.le_refl _) (.cells ZT.toArray 30)) hg (fun k hk => by cases hk; exact Nat.le_refl _)
       have HB4 := Lib.hid (two_below' HB3.out hbx)
       have HR4 := Lib.hid (HR3.out.below hbx)
       have HX4 := Lib.hid (HAt.out _ _ hr)
       clear hbx
       clear hr hg)
    | ((with_reducible show wpList _ _ _ (⟨_, .load 28 (.tmp 13), _, _, _, _⟩ :: _) _ _); refine wpList_load_tx rfl 28 (.tmp 13) rfl w3.heap.size 36 (rfl) H _ ((by have := HX4.out; rwa [Nat.zero_add] at this)) Tryd.underlying28 rfl (by rw [hash_info, HH32.out]) ?_)
    | (
       with_reducible show wpList _ _ _ (⟨_, .store 28 (.tmp 2) _, _, _, _, _⟩ :: _) _ _
       refine wpList_store_at rfl 28 (.tmp 2) (.tmp 14) rfl w.heap.size 0 H ZH _ rfl rfl (HR4.out) (by have := HZ32.out; have := HH32.out; omega) (by rw [hash_info, HH32.out]) HH1.out ?_
       intro w9 hr hg
       rw [splice_all (HH32.out.trans HZ32.out.symm)] at hr
       have HS9 := Lib.hid hr
       have HB9 := Lib.hid (below_own HB4.out hg (fun k hk => by cases hk; exact Nat.le_refl _))
       clear hr hg))
  refine bodyPost_ret (results_cell_row rfl _ _ w.heap.size 28 H.toArray (0, 0) _ rfl HS9.out Tryd.underlying28 rfl (by rw [hash_info]; simp [HH32.out])) rfl ⟨rfl, HB9.out⟩
theorem LogAt.head {w : World} {base B : Nat} {v dv : Value} {rs : List Rp} (h : LogAt w base B v dv rs) :
    Calls Tryd.prog 26 #[.pointer (some ⟨B, 0, none⟩)] w fun e w' => e = .returned (.agg (bRow (Od.head rs))) ∧ Below w.heap.size w w' := by
  have hl := h.len
  match hn : rs.length with
  | 0 =>
    have e := List.length_eq_zero_iff.1 hn
    subst e
    exact head19 _ 0 Rp.zero Rp.zero_fits 4 w (fun W hW => (h.below hW).lenC) (by omega) (fun W hW => (h.below hW).at_no (0 - 1) (.inl (by omega)))
  | n + 1 =>
    rw [(Od.last_at hn).1]
    refine head19 _ (n + 1 : Nat) _ (h.fits _ (List.getElem_mem (by omega))) 0 w (fun W hW => by have := (h.below hW).lenC; rw [hn] at this; exact this) (by omega) (fun W hW => ?_)
    have := (h.below hW).at_yes n (by omega)
    rwa [show ((n + 1 : Nat) : Int) - 1 = (n : Int) by omega]
theorem head19_nil (w : World) : Calls Tryd.prog 26 #[.pointer none] w fun e w' => e = .returned (.agg (bRow Tx.zero)) ∧ Below w.heap.size w w' :=
  head19 _ 0 Rp.zero Rp.zero_fits 1 w (fun W hW => len_nil W) (by omega) (fun W hW => at19_nil _ W)
end Go.Proofs.YtgdijbcoacgadaaDoor
