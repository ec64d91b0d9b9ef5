/- The reference's Put: what may not be. -/
import Derived.Test.YtoicpidiejhjeaaPlRPutM
namespace Go.Proofs.Ytoicpidiejhjeaa
open Go.RowKit
set_option linter.unusedVariables false
set_option linter.unusedSimpArgs false
set_option maxRecDepth 100000

set_option maxHeartbeats 6400000 in
theorem rput_arg (B : Nat) (x : Wt) (hx : x.Ok) (hm : ¬ Pl.May x) (w : World) : Calls Try.prog 11 #[.pointer (some ⟨B, 0, none⟩), .agg x.cells.toArray] w fun e w' => e = .returned (.tuple #[.agg Wt.none.cells.toArray, .bool false, .int .i64 2]) ∧ Below w.heap.size w w' := by
  have hmm : Pl.May x ↔ (x.tx.err = 0 ∧ Pl.small x.ix ∧ Pl.small x.till ∧ Pl.small x.at_ ∧ Pl.small x.place) := Iff.rfl
  rw [hmm] at hm
  have HZ76 := Lib.hid (Wt.cells_len Wt.none_ok)
  have HZ1 := Lib.hid (Wt.cells_one Wt.none_ok)
  have hzv := wait_zv
  have HBt : Hid (Try.prog.built 38 [] = some Wt.none.cells.toArray) := Lib.hid wait_built0
  have CK : Hid (∀ W, Calls Try.prog 30 #[.agg x.tx.cells.toArray] W fun e w' => e = .returned (.int .i64 x.tx.err) ∧ Below W.heap.size W w') := Lib.hid (fun W => rcheck4_any x.tx hx.tx W)
  have WI := Lib.hid within18_any
  have hC0 := (Row.new w 38 x.cells).below ((Below.refl _ _).alloc (Nat.le_refl _) (.cells Wt.none.cells.toArray 38))
  have hR0 := Row.new (w.alloc (.cells x.cells.toArray 38)) 38 Wt.none.cells
  have HB0 := Lib.hid (((Below.refl w.heap.size w).alloc (Nat.le_refl _) (.cells x.cells.toArray 38)).alloc (by simp) (.cells Wt.none.cells.toArray 38))
  rw [show (w.alloc (.cells x.cells.toArray 38)).heap.size = w.heap.size + 1 by simp] at hR0
  have HRt := Lib.hid (Wt.tx_range hx (row_range hC0))
  have HT72 := Lib.hid (Tx.cells_length hx.tx)
  have HBx := Lib.hid (fun W g0 (hr : Row W g0 38 x.cells) => WBox.row hx hr)
  have HC0 := Lib.hid hC0
  have HR0 := Lib.hid hR0
  clear hC0 hR0 hmm hx
  generalize x.cells = C at *
  generalize x.tx.cells = CT at *
  obtain ⟨ZT, hZT⟩ : ∃ ZT, Wt.none.cells = ZT := ⟨_, rfl⟩
  rw [hZT] at HZ76 HZ1 hzv HBt HB0 HRt HC0 HR0 ⊢
  generalize x.tx.err = er at *
  generalize x.ix = xi at *
  generalize x.till = xt at *
  generalize x.at_ = xa at *
  generalize x.place = xp at *
  clear hZT
  go_enter Try.func11, Try.ntmps11
  by_cases h0 : er = 0
  · have d0 : (er != 0) = false := by simpa using h0
    by_cases h1 : Pl.small xi
    · have d1 : decide (Pl.small xi) = true := decide_eq_true h1
      by_cases h2 : Pl.small xt
      · have d2 : decide (Pl.small xt) = true := decide_eq_true h2
        by_cases h3 : Pl.small xa
        · have d3 : decide (Pl.small xa) = true := decide_eq_true h3
          have d4 : decide (Pl.small xp) = false := decide_eq_false (fun q => hm ⟨h0, h1, h2, h3, q⟩)
          clear hm h0 h1 h2 h3
          go_wp2_with (first
            | ((with_reducible show wpList _ _ _ (⟨_, .load 36 (.tmp 15), _, _, _, _⟩ :: _) _ _); refine wpList_load_tx rfl 36 (.tmp 15) rfl w.heap.size 0 (rfl) CT _ (HRt.out) Try.underlying36 rfl (by rw [tx_info, HT72.out]) ?_))
          refine (CK.out _).mono ?_
          rintro _ w2 ⟨rfl, hb2⟩
          have HB2 := Lib.hid (two_below' HB0.out hb2)
          have HR2 := Lib.hid (HR0.out.below hb2)
          obtain ⟨_, _, _, c72, c73, c74, c75⟩ := HBx.out _ _ (HC0.out.below hb2)
          clear hb2 CK
          go_wp2_with fail
          refine (WI.out xi _).mono ?_
          rintro _ w3 ⟨rfl, rfl⟩
          go_wp2_with fail
          refine (WI.out xt _).mono ?_
          rintro _ w3 ⟨rfl, rfl⟩
          go_wp2_with fail
          refine (WI.out xa _).mono ?_
          rintro _ w3 ⟨rfl, rfl⟩
          go_wp2_with fail
          refine (WI.out xp _).mono ?_
          rintro _ w3 ⟨rfl, rfl⟩
          go_wp2_with (first
            | ((with_reducible show wpList _ _ _ (⟨_, .build 38 _, _, _, _, _⟩ :: _) _ _); refine wpList_buildL rfl 38 [] rfl (some 43) rfl _ rfl ZT.toArray HBt.out ?_)
            | (
               with_reducible show wpList _ _ _ (⟨_, .store 38 (.tmp 4) _, _, _, _, _⟩ :: _) _ _
               refine wpList_store_at rfl 38 (.tmp 4) (.tmp 43) rfl (w.heap.size + 1) 0 ZT ZT _ rfl rfl (HR2.out) (by have := HZ76.out; have := HZ76.out; omega) (by rw [wait_info, HZ76.out]) HZ1.out ?_
               intro w8 hr hg
               rw [splice_all (HZ76.out.trans HZ76.out.symm)] at hr
               have HB8 := Lib.hid (below_own HB2.out hg (fun k hk => by cases hk; exact Nat.le_succ _))
               have HS8 := Lib.hid hr
               clear hr hg))
          (try simp only [Exit.inBlock, Exit.then])
          refine bodyPost_ret (results_row3 rfl _ _ (w.heap.size + 1) 38 ZT _ rfl HS8.out Try.underlying38 rfl (by rw [wait_info]; simp [HZ76.out]) _ _ rfl rfl) rfl ⟨rfl, HB8.out⟩
        · have d3 : decide (Pl.small xa) = false := decide_eq_false h3
          clear hm h0 h1 h2 h3
          go_wp2_with (first
            | ((with_reducible show wpList _ _ _ (⟨_, .load 36 (.tmp 15), _, _, _, _⟩ :: _) _ _); refine wpList_load_tx rfl 36 (.tmp 15) rfl w.heap.size 0 (rfl) CT _ (HRt.out) Try.underlying36 rfl (by rw [tx_info, HT72.out]) ?_))
          refine (CK.out _).mono ?_
          rintro _ w2 ⟨rfl, hb2⟩
          have HB2 := Lib.hid (two_below' HB0.out hb2)
          have HR2 := Lib.hid (HR0.out.below hb2)
          obtain ⟨_, _, _, c72, c73, c74, c75⟩ := HBx.out _ _ (HC0.out.below hb2)
          clear hb2 CK
          go_wp2_with fail
          refine (WI.out xi _).mono ?_
          rintro _ w3 ⟨rfl, rfl⟩
          go_wp2_with fail
          refine (WI.out xt _).mono ?_
          rintro _ w3 ⟨rfl, rfl⟩
          go_wp2_with fail
          refine (WI.out xa _).mono ?_
          rintro _ w3 ⟨rfl, rfl⟩
          go_wp2_with (first
            | ((with_reducible show wpList _ _ _ (⟨_, .build 38 _, _, _, _, _⟩ :: _) _ _); refine wpList_buildL rfl 38 [] rfl (some 43) rfl _ rfl ZT.toArray HBt.out ?_)
            | (
               with_reducible show wpList _ _ _ (⟨_, .store 38 (.tmp 4) _, _, _, _, _⟩ :: _) _ _
               refine wpList_store_at rfl 38 (.tmp 4) (.tmp 43) rfl (w.heap.size + 1) 0 ZT ZT _ rfl rfl (HR2.out) (by have := HZ76.out; have := HZ76.out; omega) (by rw [wait_info, HZ76.out]) HZ1.out ?_
               intro w8 hr hg
               rw [splice_all (HZ76.out.trans HZ76.out.symm)] at hr
               have HB8 := Lib.hid (below_own HB2.out hg (fun k hk => by cases hk; exact Nat.le_succ _))
               have HS8 := Lib.hid hr
               clear hr hg))
          (try simp only [Exit.inBlock, Exit.then])
          refine bodyPost_ret (results_row3 rfl _ _ (w.heap.size + 1) 38 ZT _ rfl HS8.out Try.underlying38 rfl (by rw [wait_info]; simp [HZ76.out]) _ _ rfl rfl) rfl ⟨rfl, HB8.out⟩
      · have d2 : decide (Pl.small xt) = false := decide_eq_false h2
        clear hm h0 h1 h2
        go_wp2_with (first
          | ((with_reducible show wpList _ _ _ (⟨_, .load 36 (.tmp 15), _, _, _, _⟩ :: _) _ _); refine wpList_load_tx rfl 36 (.tmp 15) rfl w.heap.size 0 (rfl) CT _ (HRt.out) Try.underlying36 rfl (by rw [tx_info, HT72.out]) ?_))
        refine (CK.out _).mono ?_
        rintro _ w2 ⟨rfl, hb2⟩
        have HB2 := Lib.hid (two_below' HB0.out hb2)
        have HR2 := Lib.hid (HR0.out.below hb2)
        obtain ⟨_, _, _, c72, c73, c74, c75⟩ := HBx.out _ _ (HC0.out.below hb2)
        clear hb2 CK
        go_wp2_with fail
        refine (WI.out xi _).mono ?_
        rintro _ w3 ⟨rfl, rfl⟩
        go_wp2_with fail
        refine (WI.out xt _).mono ?_
        rintro _ w3 ⟨rfl, rfl⟩
        go_wp2_with (first
          | ((with_reducible show wpList _ _ _ (⟨_, .build 38 _, _, _, _, _⟩ :: _) _ _); refine wpList_buildL rfl 38 [] rfl (some 43) rfl _ rfl ZT.toArray HBt.out ?_)
          | (
             with_reducible show wpList _ _ _ (⟨_, .store 38 (.tmp 4) _, _, _, _, _⟩ :: _) _ _
             refine wpList_store_at rfl 38 (.tmp 4) (.tmp 43) rfl (w.heap.size + 1) 0 ZT ZT _ rfl rfl (HR2.out) (by have := HZ76.out; have := HZ76.out; omega) (by rw [wait_info, HZ76.out]) HZ1.out ?_
             intro w8 hr hg
             rw [splice_all (HZ76.out.trans HZ76.out.symm)] at hr
             have HB8 := Lib.hid (below_own HB2.out hg (fun k hk => by cases hk; exact Nat.le_succ _))
             have HS8 := Lib.hid hr
             clear hr hg))
        (try simp only [Exit.inBlock, Exit.then])
        refine bodyPost_ret (results_row3 rfl _ _ (w.heap.size + 1) 38 ZT _ rfl HS8.out Try.underlying38 rfl (by rw [wait_info]; simp [HZ76.out]) _ _ rfl rfl) rfl ⟨rfl, HB8.out⟩
    · have d1 : decide (Pl.small xi) = false := decide_eq_false h1
      clear hm h0 h1
      go_wp2_with (first
        | ((with_reducible show wpList _ _ _ (⟨_, .load 36 (.tmp 15), _, _, _, _⟩ :: _) _ _); refine wpList_load_tx rfl 36 (.tmp 15) rfl w.heap.size 0 (rfl) CT _ (HRt.out) Try.underlying36 rfl (by rw [tx_info, HT72.out]) ?_))
      refine (CK.out _).mono ?_
      rintro _ w2 ⟨rfl, hb2⟩
      have HB2 := Lib.hid (two_below' HB0.out hb2)
      have HR2 := Lib.hid (HR0.out.below hb2)
      obtain ⟨_, _, _, c72, c73, c74, c75⟩ := HBx.out _ _ (HC0.out.below hb2)
      clear hb2 CK
      go_wp2_with fail
      refine (WI.out xi _).mono ?_
      rintro _ w3 ⟨rfl, rfl⟩
      go_wp2_with (first
        | ((with_reducible show wpList _ _ _ (⟨_, .build 38 _, _, _, _, _⟩ :: _) _ _); refine wpList_buildL rfl 38 [] rfl (some 43) rfl _ rfl ZT.toArray HBt.out ?_)
        | (
           with_reducible show wpList _ _ _ (⟨_, .store 38 (.tmp 4) _, _, _, _, _⟩ :: _) _ _
           refine wpList_store_at rfl 38 (.tmp 4) (.tmp 43) rfl (w.heap.size + 1) 0 ZT ZT _ rfl rfl (HR2.out) (by have := HZ76.out; have := HZ76.out; omega) (by rw [wait_info, HZ76.out]) HZ1.out ?_
           intro w8 hr hg
           rw [splice_all (HZ76.out.trans HZ76.out.symm)] at hr
           have HB8 := Lib.hid (below_own HB2.out hg (fun k hk => by cases hk; exact Nat.le_succ _))
           have HS8 := Lib.hid hr
           clear hr hg))
      (try simp only [Exit.inBlock, Exit.then])
      refine bodyPost_ret (results_row3 rfl _ _ (w.heap.size + 1) 38 ZT _ rfl HS8.out Try.underlying38 rfl (by rw [wait_info]; simp [HZ76.out]) _ _ rfl rfl) rfl ⟨rfl, HB8.out⟩
  · have d0 : (er != 0) = true := by simpa using h0
    clear hm h0
    go_wp2_with (first
      | ((with_reducible show wpList _ _ _ (⟨_, .load 36 (.tmp 15), _, _, _, _⟩ :: _) _ _); refine wpList_load_tx rfl 36 (.tmp 15) rfl w.heap.size 0 (rfl) CT _ (HRt.out) Try.underlying36 rfl (by rw [tx_info, HT72.out]) ?_))
    refine (CK.out _).mono ?_
    rintro _ w2 ⟨rfl, hb2⟩
    have HB2 := Lib.hid (two_below' HB0.out hb2)
    have HR2 := Lib.hid (HR0.out.below hb2)
    obtain ⟨_, _, _, c72, c73, c74, c75⟩ := HBx.out _ _ (HC0.out.below hb2)
    clear hb2 CK
    go_wp2_with (first
      | ((with_reducible show wpList _ _ _ (⟨_, .build 38 _, _, _, _, _⟩ :: _) _ _); refine wpList_buildL rfl 38 [] rfl (some 43) rfl _ rfl ZT.toArray HBt.out ?_)
      | (
         with_reducible show wpList _ _ _ (⟨_, .store 38 (.tmp 4) _, _, _, _, _⟩ :: _) _ _
         refine wpList_store_at rfl 38 (.tmp 4) (.tmp 43) rfl (w.heap.size + 1) 0 ZT ZT _ rfl rfl (HR2.out) (by have := HZ76.out; have := HZ76.out; omega) (by rw [wait_info, HZ76.out]) HZ1.out ?_
         intro w8 hr hg
         rw [splice_all (HZ76.out.trans HZ76.out.symm)] at hr
         have HB8 := Lib.hid (below_own HB2.out hg (fun k hk => by cases hk; exact Nat.le_succ _))
         have HS8 := Lib.hid hr
         clear hr hg))
    (try simp only [Exit.inBlock, Exit.then])
    refine bodyPost_ret (results_row3 rfl _ _ (w.heap.size + 1) 38 ZT _ rfl HS8.out Try.underlying38 rfl (by rw [wait_info]; simp [HZ76.out]) _ _ rfl rfl) rfl ⟨rfl, HB8.out⟩
end Go.Proofs.Ytoicpidiejhjeaa
