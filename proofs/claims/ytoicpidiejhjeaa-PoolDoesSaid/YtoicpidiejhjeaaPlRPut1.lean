/- The reference's Put: what is met already. -/
import Derived.Test.YtoicpidiejhjeaaPlRPut0
namespace Go.Proofs.Ytoicpidiejhjeaa
open Go.RowKit
set_option linter.unusedVariables false
set_option linter.unusedSimpArgs false
set_option maxRecDepth 100000

set_option maxHeartbeats 6400000 in
theorem PAt.rput_twice {w : World} {base B size : Nat} {v : Value} {l : List Wt} (h : PAt 32 w base B v size l) (x : Wt) (hx : x.Ok) (hm : Pl.May x) (hcl : Pl.clash l x) : Calls Try.prog 11 #[.pointer (some ⟨B, 0, none⟩), .agg x.cells.toArray] w fun e w' => e = .returned (.tuple #[.agg Wt.none.cells.toArray, .bool false, .int .i64 23]) ∧ Below w.heap.size w w' := by
  obtain ⟨A, c, rfl, _, _⟩ := h.own.form
  have hmm : x.tx.err = 0 ∧ Pl.small x.ix ∧ Pl.small x.till ∧ Pl.small x.at_ ∧ Pl.small x.place := hm
  have HA := Lib.hid (h.own.lsAt (Wt.lens h.wok))
  have HWk := Lib.hid h.wok
  have hn256 := h.n256
  have hcell1 : Hid (∀ W, Below w.heap.size w W → W.cell? ⟨B, 1, none⟩ = some (.slice A l.length c)) := Lib.hid (fun W hW => (h.below hW).c1)
  have HCl := Lib.hid hcl
  have hCd : ∀ y : Wt, Pl.Clash y x ↔ (y.ix = x.ix ∨ (y.tx.frm = x.tx.frm ∧ y.tx.nonce = x.tx.nonce)) := fun y => Iff.rfl
  obtain ⟨n, hn⟩ : ∃ n, l.length = n := ⟨_, rfl⟩
  rw [hn] at hcell1 hn256
  have HN : Hid (n = l.length) := Lib.hid hn.symm
  have HZ76 := Lib.hid (Wt.cells_len Wt.none_ok)
  have HZ1 := Lib.hid (Wt.cells_one Wt.none_ok)
  have hzv := wait_zv
  have HBt : Hid (Try.prog.built 38 [] = some Wt.none.cells.toArray) := Lib.hid wait_built0
  have CK : Hid (∀ W, Calls Try.prog 30 #[.agg x.tx.cells.toArray] W fun e w' => e = .returned (.int .i64 x.tx.err) ∧ Below W.heap.size W w') := Lib.hid (fun W => rcheck4_any x.tx hx.tx W)
  rw [hmm.1] at CK
  have WI := Lib.hid within18_any
  have d1 := decide_eq_true hmm.2.1
  have d2 := decide_eq_true hmm.2.2.1
  have d3 := decide_eq_true hmm.2.2.2.1
  have d4 := decide_eq_true hmm.2.2.2.2
  have hC0 := (Row.new w 38 x.cells).below ((Below.refl _ _).alloc (Nat.le_refl _) (.cells Wt.none.cells.toArray 38))
  have hR0 := Row.new (w.alloc (.cells x.cells.toArray 38)) 38 Wt.none.cells
  have HB0 := Lib.hid (((Below.refl w.heap.size w).alloc (Nat.le_refl _) (.cells x.cells.toArray 38)).alloc (by simp) (.cells Wt.none.cells.toArray 38))
  rw [show (w.alloc (.cells x.cells.toArray 38)).heap.size = w.heap.size + 1 by simp] at hR0
  have HRt := Lib.hid (Wt.tx_range hx (row_range hC0))
  have HT72 := Lib.hid (Tx.cells_length hx.tx)
  have HBx := Lib.hid (fun W g0 (hr : Row W g0 38 x.cells) => WBox.row hx hr)
  have HC0 := Lib.hid hC0
  have HR0 := Lib.hid hR0
  have HCd := Lib.hid hCd
  clear hC0 hR0 hmm hx hm hcl h hn hCd
  generalize x.cells = C at *
  generalize x.tx.cells = CT at *
  obtain ⟨ZT, hZT⟩ : ∃ ZT, Wt.none.cells = ZT := ⟨_, rfl⟩
  rw [hZT] at HZ76 HZ1 hzv HBt HB0 HRt HC0 HR0 ⊢
  generalize x.tx.frm = xf at *
  generalize x.tx.nonce = xn at *
  generalize x.ix = xi at *
  generalize x.till = xt at *
  generalize x.at_ = xa at *
  generalize x.place = xp at *
  clear hZT
  go_enter Try.func11, Try.ntmps11
  go_wp2_with (first
    | ((with_reducible show wpList _ _ _ (⟨_, .load 36 (.tmp 15), _, _, _, _⟩ :: _) _ _); refine wpList_load_tx rfl 36 (.tmp 15) rfl w.heap.size 0 (rfl) CT _ (HRt.out) Try.underlying36 rfl (by rw [tx_info, HT72.out]) ?_))
  refine (CK.out _).mono ?_
  rintro _ w2 ⟨rfl, hb2⟩
  have HB2 := Lib.hid (two_below' HB0.out hb2)
  have HR2 := Lib.hid (HR0.out.below hb2)
  obtain ⟨_, _, _, c72, c73, c74, c75⟩ := HBx.out _ _ (HC0.out.below hb2)
  have hb2k := hb2
  clear hb2 CK
  go_wp2_with fail
  refine (WI.out xi _).mono ?_
  rintro _ w3 ⟨rfl, rfl⟩
  go_wp2_with fail
  refine (WI.out xt _).mono ?_
  rintro _ w3 ⟨rfl, rfl⟩
  go_wp2_with fail
  refine (WI.out xa _).mono ?_
  rintro _ w3 ⟨rfl, rfl⟩
  go_wp2_with fail
  refine (WI.out xp _).mono ?_
  rintro _ w3 ⟨rfl, rfl⟩
  have c1 := hcell1.out _ HB2.out
  have HC2 := Lib.hid (HC0.out.below hb2k)
  clear HC0 HR0 HB0 HRt
  clear c72 c73 c74 c75
  go_wp2_with fail
  clear c1
  go_loopw [7] (fun s7 wr => ∃ k : Nat, k ≤ n ∧ s7 = .int .i64 k ∧ Below w.heap.size w wr ∧ Row wr w.heap.size 38 C ∧ Row wr (w.heap.size + 1) 38 ZT ∧ ∀ (j : Nat) (hj : j < l.length), j < k → ¬ Pl.Clash l[j] x) (fun i _ => n - (intOf i).toNat)
  case atStart => exact ⟨0, Nat.zero_le _, rfl, HB2.out, HC2.out, HR2.out, fun j hj q => absurd q (Nat.not_lt_zero _)⟩
  case round =>
    obtain ⟨k, hk, rfl, hbz, hcz, hrz, hnk⟩ := hrel
    have HBz := Lib.hid hbz
    have HCz := Lib.hid hcz
    have HRz := Lib.hid hrz
    clear hbz hcz hrz HB2 HC2 HR2
    have c1 := hcell1.out _ HBz.out
    have hk0 : (0 : Int) ≤ (k : Int) := by omega
    by_cases hkn : k < n
    · have hki : (k : Int) < (n : Int) := by omega
      have hkl : k < l.length := by have := HN.out; omega
      obtain ⟨g, rfl, hg, hat0⟩ := HA.out (by intro e; rw [e] at hkl; simp at hkl)
      have hyo := HWk.out _ (List.getElem_mem hkl)
      have HR : Hid (wr.rangeAt g (k * 76) l[k].cells) := Lib.hid (fun q u hu => (HBz.out.cell (p := ⟨g, k * 76 + q, none⟩) hg).trans (hat0 k hkl q u hu))
      have HD76 := Lib.hid (Wt.cells_len hyo)
      have HD1 := Lib.hid (Wt.cells_one hyo)
      have HBy := Lib.hid (fun W g0 (hr : Row W g0 38 l[k].cells) => WBox.row hyo hr)
      have hcd := HCd.out l[k]
      have HNk : Hid (¬ Pl.Clash l[k] x → ∀ (j : Nat) (hj : j < l.length), j < k + 1 → ¬ Pl.Clash l[j] x) := Lib.hid (fun q j hj hjk => by
        by_cases e : j = k
        · subst e; exact q
        · exact hnk j hj (by omega))
      rw [hcd] at HNk
      obtain ⟨D, hD⟩ : ∃ D, l[k].cells = D := ⟨_, rfl⟩
      rw [hD] at HR HD76 HD1 HBy
      obtain ⟨yi, hyi⟩ : ∃ q, l[k].ix = q := ⟨_, rfl⟩
      obtain ⟨yf, hyf⟩ : ∃ q, l[k].tx.frm = q := ⟨_, rfl⟩
      obtain ⟨yn, hyn⟩ : ∃ q, l[k].tx.nonce = q := ⟨_, rfl⟩
      rw [hyi, hyf, hyn] at HNk HBy
      clear hg hat0 hyo hcd hD hyi hyf hyn hnk
      by_cases q1 : yi = xi
      · have e1 : (yi == xi) = true := by simpa using q1
        clear q1 HNk
        go_wp2_with (first
          | ((with_reducible show wpList _ _ _ (⟨_, .load 38 (.tmp 58), _, _, _, _⟩ :: _) _ _); refine wpList_load_tx rfl 38 (.tmp 58) rfl g (k * 76) (by first | rfl | simp) D _ (HR.out) Try.underlying38 rfl (by rw [wait_info, HD76.out]) ?_)
          | (
             with_reducible show wpList _ _ _ (⟨_, .store 38 (.tmp 8) _, _, _, _, _⟩ :: _) _ _
             refine wpList_store_at rfl 38 (.tmp 8) (.tmp 59) rfl wr.heap.size 0 D ZT _ rfl rfl (Row.new wr 38 ZT) (by have := HZ76.out; have := HD76.out; omega) (by rw [wait_info, HD76.out]) HD1.out ?_
             intro w4 hr hg
             rw [splice_all (HD76.out.trans HZ76.out.symm)] at hr
             have hbx := below_own ((Below.refl wr.heap.size wr).alloc (Nat.le_refl _) (.cells ZT.toArray 38)) hg (fun k hk => by cases hk; exact Nat.le_refl _)
             have HB4 := Lib.hid (two_below' HBz.out hbx)
             have HC4 := Lib.hid (HCz.out.below hbx)
             have HR4 := Lib.hid (HRz.out.below hbx)
             have HX4 := Lib.hid hr
             obtain ⟨x0, x1, _, x72, _, _, _⟩ := HBx.out _ _ HC4.out
             obtain ⟨y0, y1, _, y72, _, _, _⟩ := HBy.out _ _ HX4.out
             clear hbx
             clear hr hg)
          | ((with_reducible show wpList _ _ _ (⟨_, .build 38 _, _, _, _, _⟩ :: _) _ _); refine wpList_buildL rfl 38 [] rfl (some 83) rfl _ rfl ZT.toArray HBt.out ?_)
          | (
             with_reducible show wpList _ _ _ (⟨_, .store 38 (.tmp 4) _, _, _, _, _⟩ :: _) _ _
             refine wpList_store_at rfl 38 (.tmp 4) (.tmp 83) rfl (w.heap.size + 1) 0 ZT ZT _ rfl rfl (HR4.out) (by have := HZ76.out; have := HZ76.out; omega) (by rw [wait_info, HZ76.out]) HZ1.out ?_
             intro w8 hr hg
             rw [splice_all (HZ76.out.trans HZ76.out.symm)] at hr
             have HB8 := Lib.hid (below_own HB4.out hg (fun k hk => by cases hk; exact Nat.le_succ _))
             have HS8 := Lib.hid hr
             clear hr hg))
        (try simp only [Exit.inBlock, Exit.then])
        refine bodyPost_ret (results_row3 rfl _ _ (w.heap.size + 1) 38 ZT _ rfl HS8.out Try.underlying38 rfl (by rw [wait_info]; simp [HZ76.out]) _ _ rfl rfl) rfl ⟨rfl, HB8.out⟩
      · have e1 : (yi == xi) = false := by simpa using q1
        by_cases q2 : yf = xf
        · have e2 : (yf == xf) = true := by simpa using q2
          by_cases q3 : yn = xn
          · have e3 : (yn == xn) = true := by simpa using q3
            clear q1 q2 q3 HNk
            go_wp2_with (first
              | ((with_reducible show wpList _ _ _ (⟨_, .load 38 (.tmp 58), _, _, _, _⟩ :: _) _ _); refine wpList_load_tx rfl 38 (.tmp 58) rfl g (k * 76) (by first | rfl | simp) D _ (HR.out) Try.underlying38 rfl (by rw [wait_info, HD76.out]) ?_)
              | (
                 with_reducible show wpList _ _ _ (⟨_, .store 38 (.tmp 8) _, _, _, _, _⟩ :: _) _ _
                 refine wpList_store_at rfl 38 (.tmp 8) (.tmp 59) rfl wr.heap.size 0 D ZT _ rfl rfl (Row.new wr 38 ZT) (by have := HZ76.out; have := HD76.out; omega) (by rw [wait_info, HD76.out]) HD1.out ?_
                 intro w4 hr hg
                 rw [splice_all (HD76.out.trans HZ76.out.symm)] at hr
                 have hbx := below_own ((Below.refl wr.heap.size wr).alloc (Nat.le_refl _) (.cells ZT.toArray 38)) hg (fun k hk => by cases hk; exact Nat.le_refl _)
                 have HB4 := Lib.hid (two_below' HBz.out hbx)
                 have HC4 := Lib.hid (HCz.out.below hbx)
                 have HR4 := Lib.hid (HRz.out.below hbx)
                 have HX4 := Lib.hid hr
                 obtain ⟨x0, x1, _, x72, _, _, _⟩ := HBx.out _ _ HC4.out
                 obtain ⟨y0, y1, _, y72, _, _, _⟩ := HBy.out _ _ HX4.out
                 clear hbx
                 clear hr hg)
              | ((with_reducible show wpList _ _ _ (⟨_, .build 38 _, _, _, _, _⟩ :: _) _ _); refine wpList_buildL rfl 38 [] rfl (some 83) rfl _ rfl ZT.toArray HBt.out ?_)
              | (
                 with_reducible show wpList _ _ _ (⟨_, .store 38 (.tmp 4) _, _, _, _, _⟩ :: _) _ _
                 refine wpList_store_at rfl 38 (.tmp 4) (.tmp 83) rfl (w.heap.size + 1) 0 ZT ZT _ rfl rfl (HR4.out) (by have := HZ76.out; have := HZ76.out; omega) (by rw [wait_info, HZ76.out]) HZ1.out ?_
                 intro w8 hr hg
                 rw [splice_all (HZ76.out.trans HZ76.out.symm)] at hr
                 have HB8 := Lib.hid (below_own HB4.out hg (fun k hk => by cases hk; exact Nat.le_succ _))
                 have HS8 := Lib.hid hr
                 clear hr hg))
            (try simp only [Exit.inBlock, Exit.then])
            refine bodyPost_ret (results_row3 rfl _ _ (w.heap.size + 1) 38 ZT _ rfl HS8.out Try.underlying38 rfl (by rw [wait_info]; simp [HZ76.out]) _ _ rfl rfl) rfl ⟨rfl, HB8.out⟩
          · have e3 : (yn == xn) = false := by simpa using q3
            have HNk := Lib.hid (HNk.out (fun q => by rcases q with q | q; exact q1 q; exact q3 q.2))
            clear q1 q2 q3
            go_wp2_with (first
              | ((with_reducible show wpList _ _ _ (⟨_, .load 38 (.tmp 58), _, _, _, _⟩ :: _) _ _); refine wpList_load_tx rfl 38 (.tmp 58) rfl g (k * 76) (by first | rfl | simp) D _ (HR.out) Try.underlying38 rfl (by rw [wait_info, HD76.out]) ?_)
              | (
                 with_reducible show wpList _ _ _ (⟨_, .store 38 (.tmp 8) _, _, _, _, _⟩ :: _) _ _
                 refine wpList_store_at rfl 38 (.tmp 8) (.tmp 59) rfl wr.heap.size 0 D ZT _ rfl rfl (Row.new wr 38 ZT) (by have := HZ76.out; have := HD76.out; omega) (by rw [wait_info, HD76.out]) HD1.out ?_
                 intro w4 hr hg
                 rw [splice_all (HD76.out.trans HZ76.out.symm)] at hr
                 have hbx := below_own ((Below.refl wr.heap.size wr).alloc (Nat.le_refl _) (.cells ZT.toArray 38)) hg (fun k hk => by cases hk; exact Nat.le_refl _)
                 have HB4 := Lib.hid (two_below' HBz.out hbx)
                 have HC4 := Lib.hid (HCz.out.below hbx)
                 have HR4 := Lib.hid (HRz.out.below hbx)
                 have HX4 := Lib.hid hr
                 obtain ⟨x0, x1, _, x72, _, _, _⟩ := HBx.out _ _ HC4.out
                 obtain ⟨y0, y1, _, y72, _, _, _⟩ := HBy.out _ _ HX4.out
                 clear hbx
                 clear hr hg))
            exact ⟨⟨k + 1, by omega, by go_num, HB4.out, HC4.out, HR4.out, HNk.out⟩, by simp [intOf]; omega⟩
        · have e2 : (yf == xf) = false := by simpa using q2
          have HNk := Lib.hid (HNk.out (fun q => by rcases q with q | q; exact q1 q; exact q2 q.1))
          clear q1 q2
          go_wp2_with (first
            | ((with_reducible show wpList _ _ _ (⟨_, .load 38 (.tmp 58), _, _, _, _⟩ :: _) _ _); refine wpList_load_tx rfl 38 (.tmp 58) rfl g (k * 76) (by first | rfl | simp) D _ (HR.out) Try.underlying38 rfl (by rw [wait_info, HD76.out]) ?_)
            | (
               with_reducible show wpList _ _ _ (⟨_, .store 38 (.tmp 8) _, _, _, _, _⟩ :: _) _ _
               refine wpList_store_at rfl 38 (.tmp 8) (.tmp 59) rfl wr.heap.size 0 D ZT _ rfl rfl (Row.new wr 38 ZT) (by have := HZ76.out; have := HD76.out; omega) (by rw [wait_info, HD76.out]) HD1.out ?_
               intro w4 hr hg
               rw [splice_all (HD76.out.trans HZ76.out.symm)] at hr
               have hbx := below_own ((Below.refl wr.heap.size wr).alloc (Nat.le_refl _) (.cells ZT.toArray 38)) hg (fun k hk => by cases hk; exact Nat.le_refl _)
               have HB4 := Lib.hid (two_below' HBz.out hbx)
               have HC4 := Lib.hid (HCz.out.below hbx)
               have HR4 := Lib.hid (HRz.out.below hbx)
               have HX4 := Lib.hid hr
               obtain ⟨x0, x1, _, x72, _, _, _⟩ := HBx.out _ _ HC4.out
               obtain ⟨y0, y1, _, y72, _, _, _⟩ := HBy.out _ _ HX4.out
               clear hbx
               clear hr hg))
          exact ⟨⟨k + 1, by omega, by go_num, HB4.out, HC4.out, HR4.out, HNk.out⟩, by simp [intOf]; omega⟩
    · obtain ⟨y, hy, hc⟩ := HCl.out
      obtain ⟨j, hj, rfl⟩ := List.mem_iff_getElem.1 hy
      exact absurd hc (hnk j hj (by have := HN.out; omega))
end Go.Proofs.Ytoicpidiejhjeaa
