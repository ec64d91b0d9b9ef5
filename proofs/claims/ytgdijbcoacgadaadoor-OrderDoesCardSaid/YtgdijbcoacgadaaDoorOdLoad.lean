/- Load: a receipt is taken. -/
import Derived.Test.YtgdijbcoacgadaaDoorOdAdd
import Derived.Test.YtgdijbcoacgadaaDoorSlY
namespace Go.Proofs.YtgdijbcoacgadaaDoor
open Go.RowKit
set_option linter.unusedVariables false
set_option linter.unusedSimpArgs false
set_option maxRecDepth 100000

namespace Od
/-- can a receipt be loaded? -/
def fitsIn (rs : List Rp) (r : Rp) : Prop := (mk rs r.kind r.body r.time).2.2 = 0 ∧ (mk rs r.kind r.body r.time).1 = r
theorem mk_fits {rs : List Rp} (h : Good rs) (kind : Int) (body : ByteArray) (time : Int) : (mk rs kind body time).1.Fits := by
  by_cases h1 : rs ≠ [] ∧ time < last rs
  · rw [mk_early h1]; exact Rp.zero_fits
  by_cases h2 : (ask rs kind body).2 = 0
  · rw [mk_link h1 h2]
    unfold Rp.linkE
    by_cases h3 : (raw rs kind body time).ok = true
    · rw [if_pos h3]
      have ht : Took rs kind body time (raw rs kind body time).linked (ask rs kind body).1 := ⟨h1, h2, h3, rfl, (ask_whose h2).1⟩
      exact ht.fits h.head
    · rw [if_neg h3]; exact Rp.zero_fits
  · rw [mk_ask h1 h2]; exact Rp.zero_fits
theorem fitsIn_took {rs : List Rp} {r : Rp} (h : fitsIn rs r) : mk rs r.kind r.body r.time = (r, (mk rs r.kind r.body r.time).2.1, 0) := by
  exact Prod.ext h.2 (Prod.ext rfl h.1)
end Od
set_option maxHeartbeats 6400000 in
theorem LogAt.load_yes {w : World} {base B : Nat} {v dv : Value} {rs : List Rp} (h : LogAt w base B v dv rs) (r : Rp) (hr : r.Fits) (gv : Nat) (hrow : Row w gv 30 r.cells) (hT : Tab w) (hl : rs.length < 1000) (hf : Od.fitsIn rs r) :
    Calls Tryd.prog 27 #[.pointer (some ⟨B, 0, none⟩), .slice (some ⟨gv, 0, none⟩) 1 1] w fun e w' => e = .returned (.int .i64 1) ∧ LTo w w' base B v dv (rs ++ [r]) := by
  have hzv := rp_zv
  have HZ68 := Lib.hid (Rp.cells_len Rp.zero_fits.prev Rp.zero_fits.hash)
  obtain ⟨ZT, hZT⟩ : ∃ ZT, Rp.zero.cells = ZT := ⟨_, rfl⟩
  rw [hZT] at hzv HZ68
  clear hZT
  have HH := Lib.hid h
  have HRow := Lib.hid hrow
  have HC68 := Lib.hid (Rp.cells_len hr.prev hr.hash)
  have HC1 := Lib.hid (Rp.cells_one hr.prev hr.hash)
  have HBx := Lib.hid (fun W g (q : Row W g 30 r.cells) => rp_box q)
  have LK : Hid (∀ W, Below w.heap.size w W → Calls Tryd.prog 28 #[.pointer (some ⟨B, 0, none⟩), .int .i64 r.kind, .string r.body, .int .i64 r.time] W fun e w' => e = .returned (.tuple #[.agg (Od.mk rs r.kind r.body r.time).1.cells.toArray, .int .i64 (Od.mk rs r.kind r.body r.time).2.1, .int .i64 (Od.mk rs r.kind r.body r.time).2.2]) ∧ Below W.heap.size W w') := Lib.hid (fun W hW => (HH.out.below hW).link r.kind r.body r.time hr.body (hT.below hW hT.pos))
  have hrf := Od.mk_fits h.good r.kind r.body r.time
  have hm := Od.fitsIn_took hf
  have PU : Hid (∀ W, Below w.heap.size w W → Calls Tryd.prog 29 #[.pointer (some ⟨B, 0, none⟩), .agg r.cells.toArray, .int .i64 (Od.mk rs r.kind r.body r.time).2.1] W fun e w' => e = .returned (.tuple #[]) ∧ LTo W w' base B v dv (rs ++ [r])) := Lib.hid (fun W hW => (HH.out.below hW).put hm hl)
  have HEq := Lib.hid (fun W => rp_eqD W r r hr hr (v := true) (by simp))
  rw [hf.1, hf.2] at LK
  obtain ⟨who, hwho⟩ : ∃ who, (Od.mk rs r.kind r.body r.time).2.1 = who := ⟨_, rfl⟩
  rw [hwho] at LK PU
  obtain ⟨C, hC⟩ : ∃ C, r.cells = C := ⟨_, rfl⟩
  rw [hC] at LK HC68 HC1 PU HEq HRow HBx
  clear hm hwho hC
  generalize r.kind = rk at *
  generalize r.time = rt at *
  generalize r.body = rb at *
  clear h hrow hT hl hr hrf hf
  go_enter Tryd.func27, Tryd.ntmps27
  go_wp2_with fail
  go_step3
  go_wp2_with fail
  go_step3
  go_wp2_with fail
  go_loopw [5, 13] (fun s5 s13 wr => (s5 = .int .i64 0 ∧ s13 = .int .i64 0 ∧ w = wr) ∨ (s5 = .int .i64 1 ∧ s13 = .int .i64 1 ∧ LTo w wr base B v dv (rs ++ [r]))) (fun _ i _ => 1 - (intOf i).toNat)
  case atStart => exact .inl ⟨rfl, rfl, rfl⟩
  case round =>
    rcases hrel with ⟨rfl, rfl, rfl⟩ | ⟨rfl, rfl, hp⟩
    · skip
      go_wp2_with (first
        | ((with_reducible show wpList _ _ _ (⟨_, .load 30 (.tmp 15), _, _, _, _⟩ :: _) _ _); refine wpList_load_tx rfl 30 (.tmp 15) rfl gv 0 (by first | rfl | simp) C _ (row_range HRow.out) Tryd.underlying30 rfl (by rw [rp_info, HC68.out]) ?_)
        | (
           with_reducible show wpList _ _ _ (⟨_, .store 30 (.tmp 7) _, _, _, _, _⟩ :: _) _ _
           refine wpList_store_at rfl 30 (.tmp 7) (.tmp 16) rfl w.heap.size 0 C ZT _ rfl rfl (Row.new w 30 ZT) (by have := HZ68.out; have := HC68.out; omega) (by rw [rp_info, HC68.out]) HC1.out ?_
           intro w3 hr hg
           rw [splice_all (HC68.out.trans HZ68.out.symm)] at hr
           have hbx := below_own ((Below.refl w.heap.size w).alloc (Nat.le_refl _) (.cells ZT.toArray 30)) hg (fun k hk => by cases hk; exact Nat.le_refl _)
           have HB3 := Lib.hid hbx
           have HX3 := Lib.hid hr
           obtain ⟨_, c1, c2, c3⟩ := HBx.out _ _ hr
           clear hbx
           clear hr hg))
      refine (LK.out _ HB3.out).mono ?_
      rintro _ w4 ⟨rfl, hb4⟩
      have HB4 := Lib.hid (two_below' HB3.out hb4)
      have HX4 := Lib.hid (HX3.out.below hb4)
      clear hb4 c1 c2 c3
      have heq := HEq.out
      go_wp2_with (first
        | (
           with_reducible show wpList _ _ _ (⟨_, .store 30 (.tmp 8) _, _, _, _, _⟩ :: _) _ _
           refine wpList_store_at rfl 30 (.tmp 8) (.tmp 26) rfl w4.heap.size 0 C ZT _ rfl rfl (Row.new w4 30 ZT) (by have := HZ68.out; have := HC68.out; omega) (by rw [rp_info, HC68.out]) HC1.out ?_
           intro w5 hr hg
           rw [splice_all (HC68.out.trans HZ68.out.symm)] at hr
           have hbx := below_own ((Below.refl w4.heap.size w4).alloc (Nat.le_refl _) (.cells ZT.toArray 30)) hg (fun k hk => by cases hk; exact Nat.le_refl _)
           have HB5 := Lib.hid (two_below' HB4.out hbx)
           have HX5 := Lib.hid (HX4.out.below hbx)
           have HY5 := Lib.hid hr
           clear hbx
           clear hr hg)
        | ((with_reducible show wpList _ _ _ (⟨_, .load 30 (.tmp 7), _, _, _, _⟩ :: _) _ _); refine wpList_load_tx rfl 30 (.tmp 7) rfl w.heap.size 0 (rfl) C _ (row_range HX5.out) Tryd.underlying30 rfl (by rw [rp_info, HC68.out]) ?_)
        | ((with_reducible show wpList _ _ _ (⟨_, .load 30 (.tmp 8), _, _, _, _⟩ :: _) _ _); refine wpList_load_tx rfl 30 (.tmp 8) rfl w4.heap.size 0 (rfl) C _ (row_range HY5.out) Tryd.underlying30 rfl (by rw [rp_info, HC68.out]) ?_))
      clear heq
      refine (PU.out _ HB5.out).mono ?_
      rintro _ w6 ⟨rfl, hp6⟩
      have HP6 := Lib.hid hp6
      clear hp6
      go_wp2_with fail
      exact ⟨.inr ⟨rfl, rfl, by
        have hb := HB5.out
        obtain ⟨v', dv', hla, hch, hls⟩ := HP6.out
        exact ⟨v', dv', hla, (Chg.of_below (S := LS B v dv) hb).trans hch (fun i hi => .inl hi), fun k hk => (hls k hk).imp id (fun q => Nat.le_trans hb.size q)⟩⟩, by simp [intOf]⟩
    · have HP := Lib.hid hp
      clear hp
      go_wp2_with fail
      rw [Exit.noGoto_ret]
      go_ret
      exact ⟨rfl, HP.out⟩
set_option maxHeartbeats 6400000 in
theorem LogAt.load_no {w : World} {base B : Nat} {v dv : Value} {rs : List Rp} (h : LogAt w base B v dv rs) (r : Rp) (hr : r.Fits) (gv : Nat) (hrow : Row w gv 30 r.cells) (hT : Tab w) (hl : rs.length < 1000) (hf : ¬ Od.fitsIn rs r) :
    Calls Tryd.prog 27 #[.pointer (some ⟨B, 0, none⟩), .slice (some ⟨gv, 0, none⟩) 1 1] w fun e w' => e = .returned (.int .i64 0) ∧ Below w.heap.size w w' := by
  have hzv := rp_zv
  have HZ68 := Lib.hid (Rp.cells_len Rp.zero_fits.prev Rp.zero_fits.hash)
  obtain ⟨ZT, hZT⟩ : ∃ ZT, Rp.zero.cells = ZT := ⟨_, rfl⟩
  rw [hZT] at hzv HZ68
  clear hZT
  have HH := Lib.hid h
  have HRow := Lib.hid hrow
  have HC68 := Lib.hid (Rp.cells_len hr.prev hr.hash)
  have HC1 := Lib.hid (Rp.cells_one hr.prev hr.hash)
  have HBx := Lib.hid (fun W g (q : Row W g 30 r.cells) => rp_box q)
  have LK : Hid (∀ W, Below w.heap.size w W → Calls Tryd.prog 28 #[.pointer (some ⟨B, 0, none⟩), .int .i64 r.kind, .string r.body, .int .i64 r.time] W fun e w' => e = .returned (.tuple #[.agg (Od.mk rs r.kind r.body r.time).1.cells.toArray, .int .i64 (Od.mk rs r.kind r.body r.time).2.1, .int .i64 (Od.mk rs r.kind r.body r.time).2.2]) ∧ Below W.heap.size W w') := Lib.hid (fun W hW => (HH.out.below hW).link r.kind r.body r.time hr.body (hT.below hW hT.pos))
  have hrf := Od.mk_fits h.good r.kind r.body r.time
  have hne : (Od.mk rs r.kind r.body r.time).2.2 = 0 → (Od.mk rs r.kind r.body r.time).1 ≠ r := fun q e => hf ⟨q, e⟩
  obtain ⟨r2, hr2⟩ : ∃ r2, (Od.mk rs r.kind r.body r.time).1 = r2 := ⟨_, rfl⟩
  obtain ⟨who, hwho⟩ : ∃ who, (Od.mk rs r.kind r.body r.time).2.1 = who := ⟨_, rfl⟩
  obtain ⟨ee, hee⟩ : ∃ ee, (Od.mk rs r.kind r.body r.time).2.2 = ee := ⟨_, rfl⟩
  rw [hr2, hwho, hee] at LK
  rw [hr2] at hrf
  rw [hr2, hee] at hne
  have HEq : Hid (ee = 0 → ∀ W, (Op.equalIn 10000 30 (.agg r.cells.toArray) (.agg r2.cells.toArray)).run Tryd.prog W = .ok false W) := Lib.hid (fun e W => rp_eqD W r r2 hr hrf (v := false) (by simp; exact fun q => hne e q.symm))
  have HD68 := Lib.hid (Rp.cells_len hrf.prev hrf.hash)
  have HD1 := Lib.hid (Rp.cells_one hrf.prev hrf.hash)
  obtain ⟨D, hD⟩ : ∃ D, r2.cells = D := ⟨_, rfl⟩
  obtain ⟨C, hC⟩ : ∃ C, r.cells = C := ⟨_, rfl⟩
  rw [hD] at HD68 HD1
  rw [hD] at LK HEq
  rw [hC] at HC68 HC1 HEq HRow HBx
  clear hne hr2 hwho hee hD hC
  generalize r.kind = rk at *
  generalize r.time = rt at *
  generalize r.body = rb at *
  clear h hrow hT hl hr hrf hf
  go_enter Tryd.func27, Tryd.ntmps27
  go_wp2_with fail
  go_step3
  go_wp2_with fail
  go_step3
  go_wp2_with fail
  go_loopw [5, 13] (fun s5 s13 wr => s5 = .int .i64 0 ∧ s13 = .int .i64 0 ∧ w = wr) (fun _ i _ => 1 - (intOf i).toNat)
  case atStart => exact ⟨rfl, rfl, rfl⟩
  case round =>
    obtain ⟨rfl, rfl, rfl⟩ := hrel
    by_cases he : ee = 0
    · have HEq0 := Lib.hid (HEq.out he)
      subst he
      go_wp2_with (first
        | ((with_reducible show wpList _ _ _ (⟨_, .load 30 (.tmp 15), _, _, _, _⟩ :: _) _ _); refine wpList_load_tx rfl 30 (.tmp 15) rfl gv 0 (by first | rfl | simp) C _ (row_range HRow.out) Tryd.underlying30 rfl (by rw [rp_info, HC68.out]) ?_)
        | (
           with_reducible show wpList _ _ _ (⟨_, .store 30 (.tmp 7) _, _, _, _, _⟩ :: _) _ _
           refine wpList_store_at rfl 30 (.tmp 7) (.tmp 16) rfl w.heap.size 0 C ZT _ rfl rfl (Row.new w 30 ZT) (by have := HZ68.out; have := HC68.out; omega) (by rw [rp_info, HC68.out]) HC1.out ?_
           intro w3 hr hg
           rw [splice_all (HC68.out.trans HZ68.out.symm)] at hr
           have hbx := below_own ((Below.refl w.heap.size w).alloc (Nat.le_refl _) (.cells ZT.toArray 30)) hg (fun k hk => by cases hk; exact Nat.le_refl _)
           have HB3 := Lib.hid hbx
           have HX3 := Lib.hid hr
           obtain ⟨_, c1, c2, c3⟩ := HBx.out _ _ hr
           clear hbx
           clear hr hg))
      refine (LK.out _ HB3.out).mono ?_
      rintro _ w4 ⟨rfl, hb4⟩
      have HB4 := Lib.hid (two_below' HB3.out hb4)
      have HX4 := Lib.hid (HX3.out.below hb4)
      clear hb4 c1 c2 c3
      have heq := HEq0.out
      go_wp2_with (first
        | (
           with_reducible show wpList _ _ _ (⟨_, .store 30 (.tmp 8) _, _, _, _, _⟩ :: _) _ _
           refine wpList_store_at rfl 30 (.tmp 8) (.tmp 26) rfl w4.heap.size 0 D ZT _ rfl rfl (Row.new w4 30 ZT) (by have := HZ68.out; have := HD68.out; omega) (by rw [rp_info, HD68.out]) HD1.out ?_
           intro w5 hr hg
           rw [splice_all (HD68.out.trans HZ68.out.symm)] at hr
           have hbx := below_own ((Below.refl w4.heap.size w4).alloc (Nat.le_refl _) (.cells ZT.toArray 30)) hg (fun k hk => by cases hk; exact Nat.le_refl _)
           have HB5 := Lib.hid (two_below' HB4.out hbx)
           have HX5 := Lib.hid (HX4.out.below hbx)
           have HY5 := Lib.hid hr
           clear hbx
           clear hr hg)
        | ((with_reducible show wpList _ _ _ (⟨_, .load 30 (.tmp 7), _, _, _, _⟩ :: _) _ _); refine wpList_load_tx rfl 30 (.tmp 7) rfl w.heap.size 0 (rfl) C _ (row_range HX5.out) Tryd.underlying30 rfl (by rw [rp_info, HC68.out]) ?_)
        | ((with_reducible show wpList _ _ _ (⟨_, .load 30 (.tmp 8), _, _, _, _⟩ :: _) _ _); refine wpList_load_tx rfl 30 (.tmp 8) rfl w4.heap.size 0 (rfl) D _ (row_range HY5.out) Tryd.underlying30 rfl (by rw [rp_info, HD68.out]) ?_))
      rw [Exit.noGoto_ret]
      go_ret
      exact ⟨rfl, HB5.out⟩
    · have dE : (ee != 0) = true := by simpa using he
      clear he
      go_wp2_with (first
        | ((with_reducible show wpList _ _ _ (⟨_, .load 30 (.tmp 15), _, _, _, _⟩ :: _) _ _); refine wpList_load_tx rfl 30 (.tmp 15) rfl gv 0 (by first | rfl | simp) C _ (row_range HRow.out) Tryd.underlying30 rfl (by rw [rp_info, HC68.out]) ?_)
        | (
           with_reducible show wpList _ _ _ (⟨_, .store 30 (.tmp 7) _, _, _, _, _⟩ :: _) _ _
           refine wpList_store_at rfl 30 (.tmp 7) (.tmp 16) rfl w.heap.size 0 C ZT _ rfl rfl (Row.new w 30 ZT) (by have := HZ68.out; have := HC68.out; omega) (by rw [rp_info, HC68.out]) HC1.out ?_
           intro w3 hr hg
           rw [splice_all (HC68.out.trans HZ68.out.symm)] at hr
           have hbx := below_own ((Below.refl w.heap.size w).alloc (Nat.le_refl _) (.cells ZT.toArray 30)) hg (fun k hk => by cases hk; exact Nat.le_refl _)
           have HB3 := Lib.hid hbx
           have HX3 := Lib.hid hr
           obtain ⟨_, c1, c2, c3⟩ := HBx.out _ _ hr
           clear hbx
           clear hr hg))
      refine (LK.out _ HB3.out).mono ?_
      rintro _ w4 ⟨rfl, hb4⟩
      have HB4 := Lib.hid (two_below' HB3.out hb4)
      have HX4 := Lib.hid (HX3.out.below hb4)
      clear hb4 c1 c2 c3
      go_wp2_with (first
        | (
           with_reducible show wpList _ _ _ (⟨_, .store 30 (.tmp 8) _, _, _, _, _⟩ :: _) _ _
           refine wpList_store_at rfl 30 (.tmp 8) (.tmp 26) rfl w4.heap.size 0 D ZT _ rfl rfl (Row.new w4 30 ZT) (by have := HZ68.out; have := HD68.out; omega) (by rw [rp_info, HD68.out]) HD1.out ?_
           intro w5 hr hg
           rw [splice_all (HD68.out.trans HZ68.out.symm)] at hr
           have hbx := below_own ((Below.refl w4.heap.size w4).alloc (Nat.le_refl _) (.cells ZT.toArray 30)) hg (fun k hk => by cases hk; exact Nat.le_refl _)
           have HB5 := Lib.hid (two_below' HB4.out hbx)
           have HX5 := Lib.hid (HX4.out.below hbx)
           have HY5 := Lib.hid hr
           clear hbx
           clear hr hg))
      rw [Exit.noGoto_ret]
      go_ret
      exact ⟨rfl, HB5.out⟩
theorem Load_nil (r : Rp) (w : World) : Calls Tryd.prog 11 #[.pointer none, .agg r.cells.toArray] w fun e w' => e = .returned (.int .i64 1) ∧ Below w.heap.size w w' := by
  have HB := Lib.hid ((Below.refl w.heap.size w).alloc (Nat.le_refl _) (.cells r.cells.toArray 30))
  generalize r.cells = C at *
  go_enter Tryd.func11, Tryd.ntmps11
  go_wp2_with fail
  go_ret
  exact ⟨rfl, HB.out⟩
set_option maxHeartbeats 3200000 in
theorem LogAt.Load_yes {w : World} {base B : Nat} {v dv : Value} {rs : List Rp} (h : LogAt w base B v dv rs) (r : Rp) (hr : r.Fits) (hT : Tab w) (hl : rs.length < 1000) (hf : Od.fitsIn rs r) :
    Calls Tryd.prog 11 #[.pointer (some ⟨B, 0, none⟩), .agg r.cells.toArray] w fun e w' => e = .returned (.int .i64 0) ∧ LTo w w' base B v dv (rs ++ [r]) := by
  have HH := Lib.hid h
  have HC68 := Lib.hid (Rp.cells_len hr.prev hr.hash)
  have HB0 := Lib.hid ((Below.refl w.heap.size w).alloc (Nat.le_refl _) (.cells r.cells.toArray 30))
  have HR0 := Lib.hid (Row.new w 30 r.cells)
  have LD : Hid (∀ W gv, Below w.heap.size w W → Row W gv 30 r.cells → Calls Tryd.prog 27 #[.pointer (some ⟨B, 0, none⟩), .slice (some ⟨gv, 0, none⟩) 1 1] W fun e w' => e = .returned (.int .i64 1) ∧ LTo W w' base B v dv (rs ++ [r])) := Lib.hid (fun W gv hW hrw => (h.below hW).load_yes r hr gv hrw (hT.below hW hT.pos) hl hf)
  obtain ⟨C, hC⟩ : ∃ C, r.cells = C := ⟨_, rfl⟩
  rw [hC] at HC68 HB0 HR0 LD ⊢
  clear h hr hT hl hf hC
  go_enter Tryd.func11, Tryd.ntmps11
  go_wp2_with (first
    | ((with_reducible show wpList _ _ _ (⟨_, .load 30 (.tmp 3), _, _, _, _⟩ :: _) _ _); refine wpList_load_tx rfl 30 (.tmp 3) rfl w.heap.size 0 (rfl) C _ (row_range HR0.out) Tryd.underlying30 rfl (by rw [rp_info, HC68.out]) ?_)
    | ((with_reducible show wpList _ _ _ (⟨_, .buildSlice 26 _ _, _, _, _, _⟩ :: _) _ _)
       refine wpList_plain rfl fun _ hK => wp_buildRp (.tmp 8) rfl C HC68.out rfl (hK _ _ ?_)
       have hR1 := Row.new (w.alloc (.cells C.toArray 30)) 30 C
       have hB1 := HB0.out.alloc HB0.out.size (.cells C.toArray 30)
       rw [show (w.alloc (.cells C.toArray 30)).heap.size = w.heap.size + 1 by simp] at hR1
       have HR1 := Lib.hid hR1
       have HB1 := Lib.hid hB1
       clear hR1 hB1))
  have HL1 := Lib.hid (LD.out _ (w.heap.size + 1) HB1.out HR1.out)
  refine HL1.out.mono ?_
  rintro _ w3 ⟨rfl, hp⟩
  have HP := Lib.hid hp
  clear hp
  go_wp2_with fail
  go_ret
  exact ⟨rfl, by
    have hb := HB1.out
    obtain ⟨v', dv', hla, hch, hls⟩ := HP.out
    exact ⟨v', dv', hla, (Chg.of_below (S := LS B v dv) hb).trans hch (fun i hi => .inl hi), fun k hk => (hls k hk).imp id (fun q => Nat.le_trans hb.size q)⟩⟩
set_option maxHeartbeats 3200000 in
theorem LogAt.Load_no {w : World} {base B : Nat} {v dv : Value} {rs : List Rp} (h : LogAt w base B v dv rs) (r : Rp) (hr : r.Fits) (hT : Tab w) (hl : rs.length < 1000) (hf : ¬ Od.fitsIn rs r) :
    Calls Tryd.prog 11 #[.pointer (some ⟨B, 0, none⟩), .agg r.cells.toArray] w fun e w' => e = .returned (.int .i64 7) ∧ Below w.heap.size w w' := by
  have HH := Lib.hid h
  have HC68 := Lib.hid (Rp.cells_len hr.prev hr.hash)
  have HB0 := Lib.hid ((Below.refl w.heap.size w).alloc (Nat.le_refl _) (.cells r.cells.toArray 30))
  have HR0 := Lib.hid (Row.new w 30 r.cells)
  have LD : Hid (∀ W gv, Below w.heap.size w W → Row W gv 30 r.cells → Calls Tryd.prog 27 #[.pointer (some ⟨B, 0, none⟩), .slice (some ⟨gv, 0, none⟩) 1 1] W fun e w' => e = .returned (.int .i64 0) ∧ Below W.heap.size W w') := Lib.hid (fun W gv hW hrw => (h.below hW).load_no r hr gv hrw (hT.below hW hT.pos) hl hf)
  obtain ⟨C, hC⟩ : ∃ C, r.cells = C := ⟨_, rfl⟩
  rw [hC] at HC68 HB0 HR0 LD ⊢
  clear h hr hT hl hf hC
  go_enter Tryd.func11, Tryd.ntmps11
  go_wp2_with (first
    | ((with_reducible show wpList _ _ _ (⟨_, .load 30 (.tmp 3), _, _, _, _⟩ :: _) _ _); refine wpList_load_tx rfl 30 (.tmp 3) rfl w.heap.size 0 (rfl) C _ (row_range HR0.out) Tryd.underlying30 rfl (by rw [rp_info, HC68.out]) ?_)
    | ((with_reducible show wpList _ _ _ (⟨_, .buildSlice 26 _ _, _, _, _, _⟩ :: _) _ _)
       refine wpList_plain rfl fun _ hK => wp_buildRp (.tmp 8) rfl C HC68.out rfl (hK _ _ ?_)
       have hR1 := Row.new (w.alloc (.cells C.toArray 30)) 30 C
       have hB1 := HB0.out.alloc HB0.out.size (.cells C.toArray 30)
       rw [show (w.alloc (.cells C.toArray 30)).heap.size = w.heap.size + 1 by simp] at hR1
       have HR1 := Lib.hid hR1
       have HB1 := Lib.hid hB1
       clear hR1 hB1))
  have HL1 := Lib.hid (LD.out _ (w.heap.size + 1) HB1.out HR1.out)
  refine HL1.out.mono ?_
  rintro _ w3 ⟨rfl, hp⟩
  have HP := Lib.hid hp
  clear hp
  go_wp2_with fail
  go_ret
  exact ⟨rfl, two_below' HB1.out HP.out⟩
end Go.Proofs.YtgdijbcoacgadaaDoor
