/- The reference's Put: what is too poor for a full pool. -/
import Derived.Test.YtoicpidiejhjeaaPlRPut1
namespace Go.Proofs.Ytoicpidiejhjeaa
open Go.RowKit
set_option linter.unusedVariables false
set_option linter.unusedSimpArgs false
set_option maxRecDepth 100000

set_option maxHeartbeats 6400000 in
theorem PAt.rput_full {w : World} {base B size : Nat} {v : Value} {l : List Wt} (h : PAt 32 w base B v size l) (x : Wt) (hx : x.Ok) (hm : Pl.May x) (hcl : ¬ Pl.clash l x) (hfull : size ≤ l.length) (hfee : x.tx.fee ≤ (Pl.g l (Pl.poor l l.length)).tx.fee) : Calls Try.prog 11 #[.pointer (some ⟨B, 0, none⟩), .agg x.cells.toArray] w fun e w' => e = .returned (.tuple #[.agg Wt.none.cells.toArray, .bool false,   .int .i64 25]) ∧ Below w.heap.size w w' := by
  obtain ⟨A, c, rfl, _, _⟩ := h.own.form
  have hmm : x.tx.err = 0 ∧ Pl.small x.ix ∧ Pl.small x.till ∧ Pl.small x.at_ ∧ Pl.small x.place := hm
  have HA := Lib.hid (h.own.lsAt (Wt.lens h.wok))
  have HWk := Lib.hid h.wok
  have hn256 := h.n256
  have hcell1 : Hid (∀ W, Below w.heap.size w W → W.cell? ⟨B, 1, none⟩ = some (.slice A l.length c)) := Lib.hid (fun W hW => (h.below hW).c1)
  have HNc : Hid (∀ (j : Nat) (hj : j < l.length), ¬ Pl.Clash l[j] x) := Lib.hid (fun j hj q => hcl ⟨_, List.getElem_mem hj, q⟩)
  have hsz := h.size.1
  have HMy := Lib.hid h.ok.may
  have hcell0 : Hid (∀ W, Below w.heap.size w W → W.cell? ⟨B, 0, none⟩ = some (.int .i64 size)) := Lib.hid (fun W hW => (h.below hW).c0)
  have HPs : Hid (∀ k, Pl.poor l (k + 1) = if (Pl.g l k).tx.fee ≤ (Pl.g l (Pl.poor l k)).tx.fee then k else Pl.poor l k) := Lib.hid (fun k => rfl)
  have HPl : Hid (∀ k, 0 < k → k ≤ l.length → (Pl.g l (Pl.poor l k)).Ok) := Lib.hid (fun k h0 hk => by
    have := Pl.poor_lt l k h0
    rw [Pl.g_eq (by omega : Pl.poor l k < l.length)]
    exact (h.ok.may _ (List.getElem_mem _)).1)
  have HPg : Hid (∀ (k : Nat) (hk : k < l.length), Pl.g l k = l[k]) := Lib.hid (fun k hk => Pl.g_eq hk)
  have hCd : ∀ y : Wt, Pl.Clash y x ↔ (y.ix = x.ix ∨ (y.tx.frm = x.tx.frm ∧ y.tx.nonce = x.tx.nonce)) := fun y => Iff.rfl
  obtain ⟨n, hn⟩ : ∃ n, l.length = n := ⟨_, rfl⟩
  rw [hn] at hcell1 hn256 hfull hfee
  have dFl : decide ((n : Int) ≥ (size : Int)) = true := decide_eq_true (by omega)
  have dFl' : decide ((size : Int) ≤ (n : Int)) = true := decide_eq_true (by omega)
  have hn1 : 1 ≤ n := by omega
  have HFl : Hid (size ≤ n) := Lib.hid hfull
  have HN : Hid (n = l.length) := Lib.hid hn.symm
  have HZ76 := Lib.hid (Wt.cells_len Wt.none_ok)
  have HZ1 := Lib.hid (Wt.cells_one Wt.none_ok)
  have hzv := wait_zv
  have HBt : Hid (Try.prog.built 38 [] = some Wt.none.cells.toArray) := Lib.hid wait_built0
  have CK : Hid (∀ W, Calls Try.prog 30 #[.agg x.tx.cells.toArray] W fun e w' => e = .returned (.int .i64 x.tx.err) ∧ Below W.heap.size W w') := Lib.hid (fun W => rcheck4_any x.tx hx.tx W)
  rw [hmm.1] at CK
  have WI := Lib.hid within18_any
  have d1 := decide_eq_true hmm.2.1
  have d2 := decide_eq_true hmm.2.2.1
  have d3 := decide_eq_true hmm.2.2.2.1
  have d4 := decide_eq_true hmm.2.2.2.2
  have hC0 := (Row.new w 38 x.cells).below ((Below.refl _ _).alloc (Nat.le_refl _) (.cells Wt.none.cells.toArray 38))
  have hR0 := Row.new (w.alloc (.cells x.cells.toArray 38)) 38 Wt.none.cells
  have HB0 := Lib.hid (((Below.refl w.heap.size w).alloc (Nat.le_refl _) (.cells x.cells.toArray 38)).alloc (by simp) (.cells Wt.none.cells.toArray 38))
  rw [show (w.alloc (.cells x.cells.toArray 38)).heap.size = w.heap.size + 1 by simp] at hR0
  have HRt := Lib.hid (Wt.tx_range hx (row_range hC0))
  have HT72 := Lib.hid (Tx.cells_length hx.tx)
  have HBx := Lib.hid (fun W g0 (hr : Row W g0 38 x.cells) => WBox.row hx hr)
  have HC0 := Lib.hid hC0
  have HR0 := Lib.hid hR0
  have HCd := Lib.hid hCd
  clear hC0 hR0 hmm hx hm hcl h hn hCd
  generalize x.cells = C at *
  generalize x.tx.cells = CT at *
  obtain ⟨ZT, hZT⟩ : ∃ ZT, Wt.none.cells = ZT := ⟨_, rfl⟩
  rw [hZT] at HZ76 HZ1 hzv HBt HB0 HRt HC0 HR0 ⊢
  generalize x.tx.frm = xf at *
  generalize x.tx.fee = xfee at *
  have HFee := Lib.hid hfee
  clear hfee hfull hsz
  generalize x.tx.nonce = xn at *
  generalize x.ix = xi at *
  generalize x.till = xt at *
  generalize x.at_ = xa at *
  generalize x.place = xp at *
  clear hZT
  go_enter Try.func11, Try.ntmps11
  go_wp2_with (first
    | ((with_reducible show wpList _ _ _ (⟨_, .load 36 (.tmp 15), _, _, _, _⟩ :: _) _ _); refine wpList_load_tx rfl 36 (.tmp 15) rfl w.heap.size 0 (rfl) CT _ (HRt.out) Try.underlying36 rfl (by rw [tx_info, HT72.out]) ?_))
  refine (CK.out _).mono ?_
  rintro _ w2 ⟨rfl, hb2⟩
  have HB2 := Lib.hid (two_below' HB0.out hb2)
  have HR2 := Lib.hid (HR0.out.below hb2)
  obtain ⟨_, _, _, c72, c73, c74, c75⟩ := HBx.out _ _ (HC0.out.below hb2)
  have hb2k := hb2
  clear hb2 CK
  go_wp2_with fail
  refine (WI.out xi _).mono ?_
  rintro _ w3 ⟨rfl, rfl⟩
  go_wp2_with fail
  refine (WI.out xt _).mono ?_
  rintro _ w3 ⟨rfl, rfl⟩
  go_wp2_with fail
  refine (WI.out xa _).mono ?_
  rintro _ w3 ⟨rfl, rfl⟩
  go_wp2_with fail
  refine (WI.out xp _).mono ?_
  rintro _ w3 ⟨rfl, rfl⟩
  have c1 := hcell1.out _ HB2.out
  have HC2 := Lib.hid (HC0.out.below hb2k)
  clear HC0 HR0 HB0 HRt
  clear c72 c73 c74 c75
  go_wp2_with fail
  clear c1
  go_loopw [7] (fun s7 wr => ∃ k : Nat, k ≤ n ∧ s7 = .int .i64 k ∧ Below w.heap.size w wr ∧ Row wr w.heap.size 38 C ∧ Row wr (w.heap.size + 1) 38 ZT) (fun i _ => n - (intOf i).toNat)
  case atStart => exact ⟨0, Nat.zero_le _, rfl, HB2.out, HC2.out, HR2.out⟩
  case round =>
    obtain ⟨k, hk, rfl, hbz, hcz, hrz⟩ := hrel
    have HBz := Lib.hid hbz
    have HCz := Lib.hid hcz
    have HRz := Lib.hid hrz
    clear hbz hcz hrz HB2 HC2 HR2
    have c1 := hcell1.out _ HBz.out
    have hk0 : (0 : Int) ≤ (k : Int) := by omega
    by_cases hkn : k < n
    · have hki : (k : Int) < (n : Int) := by omega
      have hkl : k < l.length := by have := HN.out; omega
      obtain ⟨g, rfl, hg, hat0⟩ := HA.out (by intro e; rw [e] at hkl; simp at hkl)
      have hyo := HWk.out _ (List.getElem_mem hkl)
      have HR : Hid (wr.rangeAt g (k * 76) l[k].cells) := Lib.hid (fun q u hu => (HBz.out.cell (p := ⟨g, k * 76 + q, none⟩) hg).trans (hat0 k hkl q u hu))
      have HD76 := Lib.hid (Wt.cells_len hyo)
      have HD1 := Lib.hid (Wt.cells_one hyo)
      have HBy := Lib.hid (fun W g0 (hr : Row W g0 38 l[k].cells) => WBox.row hyo hr)
      have hcd := HCd.out l[k]
      have hnk := HNc.out k hkl
      rw [hcd] at hnk
      obtain ⟨D, hD⟩ : ∃ D, l[k].cells = D := ⟨_, rfl⟩
      rw [hD] at HR HD76 HD1 HBy
      obtain ⟨yi, hyi⟩ : ∃ q, l[k].ix = q := ⟨_, rfl⟩
      obtain ⟨yf, hyf⟩ : ∃ q, l[k].tx.frm = q := ⟨_, rfl⟩
      obtain ⟨yn, hyn⟩ : ∃ q, l[k].tx.nonce = q := ⟨_, rfl⟩
      rw [hyi, hyf, hyn] at HBy hnk
      clear hg hat0 hyo hcd hD hyi hyf hyn
      by_cases q1 : yi = xi
      · have e1 : (yi == xi) = true := by simpa using q1
        exact absurd (.inl q1) hnk
      · have e1 : (yi == xi) = false := by simpa using q1
        by_cases q2 : yf = xf
        · have e2 : (yf == xf) = true := by simpa using q2
          by_cases q3 : yn = xn
          · have e3 : (yn == xn) = true := by simpa using q3
            exact absurd (.inr ⟨q2, q3⟩) hnk
          · have e3 : (yn == xn) = false := by simpa using q3
            clear q1 q2 q3 hnk
            go_wp2_with (first
              | ((with_reducible show wpList _ _ _ (⟨_, .load 38 (.tmp 58), _, _, _, _⟩ :: _) _ _); refine wpList_load_tx rfl 38 (.tmp 58) rfl g (k * 76) (by first | rfl | simp) D _ (HR.out) Try.underlying38 rfl (by rw [wait_info, HD76.out]) ?_)
              | (
                 with_reducible show wpList _ _ _ (⟨_, .store 38 (.tmp 8) _, _, _, _, _⟩ :: _) _ _
                 refine wpList_store_at rfl 38 (.tmp 8) (.tmp 59) rfl wr.heap.size 0 D ZT _ rfl rfl (Row.new wr 38 ZT) (by have := HZ76.out; have := HD76.out; omega) (by rw [wait_info, HD76.out]) HD1.out ?_
                 intro w4 hr hg
                 rw [splice_all (HD76.out.trans HZ76.out.symm)] at hr
                 have hbx := below_own ((Below.refl wr.heap.size wr).alloc (Nat.le_refl _) (.cells ZT.toArray 38)) hg (fun k hk => by cases hk; exact Nat.le_refl _)
                 have HB4 := Lib.hid (two_below' HBz.out hbx)
                 have HC4 := Lib.hid (HCz.out.below hbx)
                 have HR4 := Lib.hid (HRz.out.below hbx)
                 have HX4 := Lib.hid hr
                 obtain ⟨x0, x1, _, x72, _, _, _⟩ := HBx.out _ _ HC4.out
                 obtain ⟨y0, y1, _, y72, _, _, _⟩ := HBy.out _ _ HX4.out
                 clear hbx
                 clear hr hg))
            exact ⟨⟨k + 1, by omega, by go_num, HB4.out, HC4.out, HR4.out⟩, by simp [intOf]; omega⟩
        · have e2 : (yf == xf) = false := by simpa using q2
          clear q1 q2 hnk
          go_wp2_with (first
            | ((with_reducible show wpList _ _ _ (⟨_, .load 38 (.tmp 58), _, _, _, _⟩ :: _) _ _); refine wpList_load_tx rfl 38 (.tmp 58) rfl g (k * 76) (by first | rfl | simp) D _ (HR.out) Try.underlying38 rfl (by rw [wait_info, HD76.out]) ?_)
            | (
               with_reducible show wpList _ _ _ (⟨_, .store 38 (.tmp 8) _, _, _, _, _⟩ :: _) _ _
               refine wpList_store_at rfl 38 (.tmp 8) (.tmp 59) rfl wr.heap.size 0 D ZT _ rfl rfl (Row.new wr 38 ZT) (by have := HZ76.out; have := HD76.out; omega) (by rw [wait_info, HD76.out]) HD1.out ?_
               intro w4 hr hg
               rw [splice_all (HD76.out.trans HZ76.out.symm)] at hr
               have hbx := below_own ((Below.refl wr.heap.size wr).alloc (Nat.le_refl _) (.cells ZT.toArray 38)) hg (fun k hk => by cases hk; exact Nat.le_refl _)
               have HB4 := Lib.hid (two_below' HBz.out hbx)
               have HC4 := Lib.hid (HCz.out.below hbx)
               have HR4 := Lib.hid (HRz.out.below hbx)
               have HX4 := Lib.hid hr
               obtain ⟨x0, x1, _, x72, _, _, _⟩ := HBx.out _ _ HC4.out
               obtain ⟨y0, y1, _, y72, _, _, _⟩ := HBy.out _ _ HX4.out
               clear hbx
               clear hr hg))
          exact ⟨⟨k + 1, by omega, by go_num, HB4.out, HC4.out, HR4.out⟩, by simp [intOf]; omega⟩
    · have hki : ¬ (k : Int) < (n : Int) := by omega
      clear hk hk0 hkn
      go_wp2_with (first
      | ((with_reducible show wpList _ _ _ (⟨_, .build 38 _, _, _, _, _⟩ :: _) _ _); refine wpList_buildL rfl 38 [] rfl (some 84) rfl _ rfl ZT.toArray HBt.out ?_)
      | (
         with_reducible show wpList _ _ _ (⟨_, .store 38 (.tmp 9) _, _, _, _, _⟩ :: _) _ _
         refine wpList_store_at rfl 38 (.tmp 9) (.tmp 84) rfl wr.heap.size 0 ZT ZT _ rfl rfl (Row.new wr 38 ZT) (by have := HZ76.out; have := HZ76.out; omega) (by rw [wait_info, HZ76.out]) HZ1.out ?_
         intro w4 hr hg
         rw [splice_all (HZ76.out.trans HZ76.out.symm)] at hr
         have hbx := below_own ((Below.refl wr.heap.size wr).alloc (Nat.le_refl _) (.cells ZT.toArray 38)) hg (fun k hk => by cases hk; exact Nat.le_refl _)
         have HB4 := Lib.hid (two_below' HBz.out hbx)
         have HC4 := Lib.hid (HCz.out.below hbx)
         have HR4 := Lib.hid (HRz.out.below hbx)
         have HG4 := Lib.hid hr
         clear hbx
         clear hr hg))
      refine wp_region_noPanic ?_
      refine wp_region_held_drew (S := fun w' => Below w4.heap.size w4 w') (by kernel_rfl) ((Below.refl _ _).drew) (fun hHeld => ?_)
      generalize w4.drew = wq at *
      refine wpAnyH_take (i := 0) (v := .pointer (some ⟨B, 0, none⟩)) rfl (by kernel_rfl) (by kernel_rfl) (by kernel_rfl) (fun _ _ _ h => h) (Or.inl ⟨by rfl, fun w' hSw => by go_simp⟩) hHeld ?_
      try simp only [Act.put, List.getElem_toArray, List.getElem_cons_succ, List.getElem_cons_zero, List.setIfInBounds_toArray, List.set_cons_zero, List.set_cons_succ]
      refine wpAnyH_take (i := 1) (v := .pointer (some ⟨B, 0, none⟩)) rfl (by kernel_rfl) (by kernel_rfl) (by kernel_rfl) (fun _ _ _ h => h) (Or.inl ⟨by rfl, fun w' hSw => by go_simp⟩) hHeld ?_
      try simp only [Act.put, List.getElem_toArray, List.getElem_cons_succ, List.getElem_cons_zero, List.setIfInBounds_toArray, List.set_cons_zero, List.set_cons_succ]
      refine wpAnyH_take (i := 2) (v := .pointer (some ⟨B, 1, none⟩)) rfl (by kernel_rfl) (by kernel_rfl) (by kernel_rfl) (fun _ _ _ h => h) (Or.inl ⟨by rfl, fun w' hSw => by go_simp⟩) hHeld ?_
      try simp only [Act.put, List.getElem_toArray, List.getElem_cons_succ, List.getElem_cons_zero, List.setIfInBounds_toArray, List.set_cons_zero, List.set_cons_succ]
      refine wpAnyH_take (i := 3) (v := .slice A n c) rfl (by kernel_rfl) (by kernel_rfl) (by kernel_rfl) (fun _ _ _ h => h) (Or.inl ⟨by rfl, fun w' hSw => by have hq := hSw; have hd := hcell1.out _ (two_below' HB4.out hq); go_simp⟩) hHeld ?_
      try simp only [Act.put, List.getElem_toArray, List.getElem_cons_succ, List.getElem_cons_zero, List.setIfInBounds_toArray, List.set_cons_zero, List.set_cons_succ]
      refine wpAnyH_take (i := 4) (v := .int .i64 n) rfl (by kernel_rfl) (by kernel_rfl) (by kernel_rfl) (fun _ _ _ h => h) (Or.inl ⟨by rfl, fun w' hSw => by go_simp⟩) hHeld ?_
      try simp only [Act.put, List.getElem_toArray, List.getElem_cons_succ, List.getElem_cons_zero, List.setIfInBounds_toArray, List.set_cons_zero, List.set_cons_succ]
      refine wpAnyH_take (i := 5) (v := .pointer (some ⟨B, 0, none⟩)) rfl (by kernel_rfl) (by kernel_rfl) (by kernel_rfl) (fun _ _ _ h => h) (Or.inl ⟨by rfl, fun w' hSw => by go_simp⟩) hHeld ?_
      try simp only [Act.put, List.getElem_toArray, List.getElem_cons_succ, List.getElem_cons_zero, List.setIfInBounds_toArray, List.set_cons_zero, List.set_cons_succ]
      refine wpAnyH_take (i := 6) (v := .pointer (some ⟨B, 0, none⟩)) rfl (by kernel_rfl) (by kernel_rfl) (by kernel_rfl) (fun _ _ _ h => h) (Or.inl ⟨by rfl, fun w' hSw => by go_simp⟩) hHeld ?_
      try simp only [Act.put, List.getElem_toArray, List.getElem_cons_succ, List.getElem_cons_zero, List.setIfInBounds_toArray, List.set_cons_zero, List.set_cons_succ]
      refine wpAnyH_take (i := 7) (v := .pointer (some ⟨B, 0, none⟩)) rfl (by kernel_rfl) (by kernel_rfl) (by kernel_rfl) (fun _ _ _ h => h) (Or.inl ⟨by rfl, fun w' hSw => by go_simp⟩) hHeld ?_
      try simp only [Act.put, List.getElem_toArray, List.getElem_cons_succ, List.getElem_cons_zero, List.setIfInBounds_toArray, List.set_cons_zero, List.set_cons_succ]
      refine wpAnyH_take (i := 8) (v := .int .i64 size) rfl (by kernel_rfl) (by kernel_rfl) (by kernel_rfl) (fun _ _ _ h => h) (Or.inl ⟨by rfl, fun w' hSw => by have hq := hSw; have hd := hcell0.out _ (two_below' HB4.out hq); go_simp⟩) hHeld ?_
      try simp only [Act.put, List.getElem_toArray, List.getElem_cons_succ, List.getElem_cons_zero, List.setIfInBounds_toArray, List.set_cons_zero, List.set_cons_succ]
      refine wpAnyH_take (i := 9) (v := .bool true) rfl (by kernel_rfl) (by kernel_rfl) (by kernel_rfl) (fun _ _ _ h => h) (Or.inl ⟨by rfl, fun w' hSw => by have hq := hSw; have hk9 := HFl.out; go_simp⟩) hHeld ?_
      try simp only [Act.put, List.getElem_toArray, List.getElem_cons_succ, List.getElem_cons_zero, List.setIfInBounds_toArray, List.set_cons_zero, List.set_cons_succ]
      refine wpAnyH_take (i := 10) (v := .bool true) rfl (by kernel_rfl) (by kernel_rfl) (by kernel_rfl) (fun _ _ _ h => h) (Or.inl ⟨by rfl, fun w' hSw => by go_simp⟩) hHeld ?_
      try simp only [Act.put, List.getElem_toArray, List.getElem_cons_succ, List.getElem_cons_zero, List.setIfInBounds_toArray, List.set_cons_zero, List.set_cons_succ]
      refine wpAnyH_done (by kernel_rfl) ?_ _
      refine NoPanic.normal ?_
      have HB5 := Lib.hid (two_below' HB4.out hHeld)
      have HC5 := Lib.hid (HC4.out.below hHeld)
      have HR5 := Lib.hid (HR4.out.below hHeld)
      have HG5 := Lib.hid (HG4.out.below hHeld)
      clear hHeld
      have c1 := hcell1.out _ HB5.out
      have hl0 : 0 < l.length := by have := HN.out; omega
      obtain ⟨g, rfl, hg, hat0⟩ := HA.out (by intro e; rw [e] at hl0; simp at hl0)
      have hn0 : (0 : Int) < (n : Int) := by omega
      have hR0 : wq.rangeAt g 0 l[0].cells := fun q u hu => (HB5.out.cell (p := ⟨g, 0 + q, none⟩) hg).trans (by have := hat0 0 hl0 q u hu; rwa [Nat.zero_mul] at this)
      have hy0 := HWk.out _ (List.getElem_mem hl0)
      have HD76 := Lib.hid (Wt.cells_len hy0)
      have HD1 := Lib.hid (Wt.cells_one hy0)
      have hg1 : Pl.g l (Pl.poor l 1) = l[0] := by
        rw [HPs.out 0]
        show Pl.g l (if _ then 0 else 0) = _
        rw [ite_self]
        exact HPg.out 0 hl0
      obtain ⟨D, hD⟩ : ∃ D, l[0].cells = D := ⟨_, rfl⟩
      rw [hD] at hR0 HD76 HD1
      have HRd0 := Lib.hid hR0
      have HD0 : Hid ((Pl.g l (Pl.poor l 1)).cells = D) := Lib.hid (by rw [hg1]; exact hD)
      have HRa : Hid (∀ (W : World), Below w.heap.size w W → ∀ (k : Nat) (hk : k < l.length), W.rangeAt g (k * 76) l[k].cells) := Lib.hid (fun W hW k hk q u hu => (hW.cell (p := ⟨g, k * 76 + q, none⟩) hg).trans (hat0 k hk q u hu))
      clear hR0 hy0 hg1 hD hat0 hg hl0
      go_wp2_with (first
      | ((with_reducible show wpList _ _ _ (⟨_, .load 38 (.tmp 100), _, _, _, _⟩ :: _) _ _); refine wpList_load_tx rfl 38 (.tmp 100) rfl g 0 (by first | rfl | simp) D _ (HRd0.out) Try.underlying38 rfl (by rw [wait_info, HD76.out]) ?_)
      | (
         with_reducible show wpList _ _ _ (⟨_, .store 38 (.tmp 9) _, _, _, _, _⟩ :: _) _ _
         refine wpList_store_at rfl 38 (.tmp 9) (.tmp 101) rfl wr.heap.size 0 D ZT _ rfl rfl (HG5.out) (by have := HZ76.out; have := HD76.out; omega) (by rw [wait_info, HD76.out]) HD1.out ?_
         intro w6 hr hg
         rw [splice_all (HD76.out.trans HZ76.out.symm)] at hr
         have HB6 := Lib.hid (below_own HB5.out hg (fun k hk => by cases hk; exact HBz.out.size))
         have HC6 := Lib.hid (HC5.out.kept hg (by have := HCz.out.lt; intro e; injection e with e; omega))
         have HR6 := Lib.hid (HR5.out.kept hg (by have := HRz.out.lt; intro e; injection e with e; omega))
         have HG6 := Lib.hid hr
         clear hr hg))
      have HN9a : Hid (some w.heap.size ≠ some wr.heap.size) := Lib.hid (by have := HCz.out.lt; intro e; injection e with e; omega)
      have HN9b : Hid (some (w.heap.size + 1) ≠ some wr.heap.size) := Lib.hid (by have := HRz.out.lt; intro e; injection e with e; omega)
      have HG9 : Hid (w.heap.size ≤ wr.heap.size) := Lib.hid HBz.out.size
      have HP1 : Hid (Row w6 wr.heap.size 38 (Pl.g l (Pl.poor l 1)).cells) := Lib.hid (by rw [HD0.out]; exact HG6.out)
      generalize wr.heap.size = g9 at *
      clear HG5 HC5 HR5 HC4 HR4 HG4 HG6 c1
      go_loopw [11] (fun s11 wz => ∃ k : Nat, 1 ≤ k ∧ k ≤ n ∧ s11 = .int .i64 k ∧ Below w.heap.size w wz ∧ Row wz w.heap.size 38 C ∧ Row wz (w.heap.size + 1) 38 ZT ∧ Row wz g9 38 (Pl.g l (Pl.poor l k)).cells) (fun i _ => n - (intOf i).toNat)
      case atStart => exact ⟨1, Nat.le_refl _, hn1, rfl, HB6.out, HC6.out, HR6.out, HP1.out⟩
      case round =>
        obtain ⟨k, hk1, hk, rfl, hbz, hcz, hrz, hgz⟩ := hrel
        have HBu := Lib.hid hbz
        have HCu := Lib.hid hcz
        have HRu := Lib.hid hrz
        have HGu := Lib.hid hgz
        clear hbz hcz hrz hgz HB6 HC6 HR6 HP1
        have c1 := hcell1.out _ HBu.out
        have hk0 : (0 : Int) ≤ (k : Int) := by omega
        have hpo := HPl.out k (by omega) (by have := HN.out; omega)
        have hps := HPs.out k
        have HBg := Lib.hid (fun W g0 (hr : Row W g0 38 (Pl.g l (Pl.poor l k)).cells) => (WBox.row hpo hr).2.2.1)
        have HE76 := Lib.hid (Wt.cells_len hpo)
        have hxf := HFee.out
        obtain ⟨CE, hCE⟩ : ∃ CE, (Pl.g l (Pl.poor l k)).cells = CE := ⟨_, rfl⟩
        have HCE := Lib.hid hCE
        rw [hCE] at HBg HE76 HGu
        by_cases hkn : k < n
        · have hki : (k : Int) < (n : Int) := by omega
          have hkl : k < l.length := by have := HN.out; omega
          have hyo := HWk.out _ (List.getElem_mem hkl)
          have hra := fun W hW => HRa.out W hW k hkl
          have HD76 := Lib.hid (Wt.cells_len hyo)
          have HD1 := Lib.hid (Wt.cells_one hyo)
          rw [HPg.out k hkl] at hps
          obtain ⟨Y, hY⟩ : ∃ Y, l[k] = Y := ⟨_, rfl⟩
          have hgk : Pl.g l k = Y := by rw [HPg.out k hkl]; exact hY
          have HGk := Lib.hid hgk
          rw [hY] at hyo hra HD76 HD1 hps
          have hyf : ∀ W, Below w.heap.size w W → W.cell? ⟨g, k * 76 + 2, none⟩ = some (.int .i64 Y.tx.fee) := fun W hW => (WBox.of hyo (hra W hW)).2.2.1
          have HYf := Lib.hid hyf
          obtain ⟨D2, hD2⟩ : ∃ D2, Y.cells = D2 := ⟨_, rfl⟩
          rw [hD2] at hra HD76 HD1
          have HD2 := Lib.hid hD2
          have HRy := Lib.hid hra
          clear hyf hra hyo hY hCE hpo hD2 hgk hxf hkl
          generalize (Pl.g l (Pl.poor l k)).tx.fee = gf at *
          generalize Y.tx.fee = yf at *
          by_cases q : yf ≤ gf
          · have dq : decide (yf ≤ gf) = true := decide_eq_true q
            rw [if_pos q] at hps
            have HPs2 := Lib.hid hps
            clear hps q
            go_wp2_with fail
            refine wp_region_noPanic ?_
            refine wp_region_held_drew (S := fun w' => Below wr.heap.size wr w') (by kernel_rfl) ((Below.refl _ _).drew) (fun hHeld => ?_)
            generalize wr.drew = wy at *
            refine wpAnyH_take (i := 0) (v := .pointer (some ⟨B, 0, none⟩)) rfl (by kernel_rfl) (by kernel_rfl) (by kernel_rfl) (fun _ _ _ h => h) (Or.inl ⟨by rfl, fun w' hSw => by go_simp⟩) hHeld ?_
            try simp only [Act.put, List.getElem_toArray, List.getElem_cons_succ, List.getElem_cons_zero, List.setIfInBounds_toArray, List.set_cons_zero, List.set_cons_succ]
            refine wpAnyH_take (i := 1) (v := .pointer (some ⟨B, 0, none⟩)) rfl (by kernel_rfl) (by kernel_rfl) (by kernel_rfl) (fun _ _ _ h => h) (Or.inl ⟨by rfl, fun w' hSw => by go_simp⟩) hHeld ?_
            try simp only [Act.put, List.getElem_toArray, List.getElem_cons_succ, List.getElem_cons_zero, List.setIfInBounds_toArray, List.set_cons_zero, List.set_cons_succ]
            refine wpAnyH_take (i := 2) (v := .pointer (some ⟨B, 1, none⟩)) rfl (by kernel_rfl) (by kernel_rfl) (by kernel_rfl) (fun _ _ _ h => h) (Or.inl ⟨by rfl, fun w' hSw => by go_simp⟩) hHeld ?_
            try simp only [Act.put, List.getElem_toArray, List.getElem_cons_succ, List.getElem_cons_zero, List.setIfInBounds_toArray, List.set_cons_zero, List.set_cons_succ]
            refine wpAnyH_take (i := 3) (v := .slice (some ⟨g, 0, none⟩) n c) rfl (by kernel_rfl) (by kernel_rfl) (by kernel_rfl) (fun _ _ _ h => h) (Or.inl ⟨by rfl, fun w' hSw => by have hq := hSw; have hd := hcell1.out _ (two_below' HBu.out hq); go_simp⟩) hHeld ?_
            try simp only [Act.put, List.getElem_toArray, List.getElem_cons_succ, List.getElem_cons_zero, List.setIfInBounds_toArray, List.set_cons_zero, List.set_cons_succ]
            refine wpAnyH_take (i := 4) (v := .int .i64 k) rfl (by kernel_rfl) (by kernel_rfl) (by kernel_rfl) (fun _ _ _ h => h) (Or.inl ⟨by rfl, fun w' hSw => by go_simp⟩) hHeld ?_
            try simp only [Act.put, List.getElem_toArray, List.getElem_cons_succ, List.getElem_cons_zero, List.setIfInBounds_toArray, List.set_cons_zero, List.set_cons_succ]
            refine wpAnyH_take (i := 5) (v := .pointer (some ⟨g, (k * 76), none⟩)) rfl (by kernel_rfl) (by kernel_rfl) (by kernel_rfl) (fun _ _ _ h => h) (Or.inl ⟨by rfl, fun w' hSw => by go_simp⟩) hHeld ?_
            try simp only [Act.put, List.getElem_toArray, List.getElem_cons_succ, List.getElem_cons_zero, List.setIfInBounds_toArray, List.set_cons_zero, List.set_cons_succ]
            refine wpAnyH_take (i := 6) (v := .pointer (some ⟨g, (k * 76), none⟩)) rfl (by kernel_rfl) (by kernel_rfl) (by kernel_rfl) (fun _ _ _ h => h) (Or.inl ⟨by rfl, fun w' hSw => by go_simp⟩) hHeld ?_
            try simp only [Act.put, List.getElem_toArray, List.getElem_cons_succ, List.getElem_cons_zero, List.setIfInBounds_toArray, List.set_cons_zero, List.set_cons_succ]
            refine wpAnyH_take (i := 7) (v := .pointer (some ⟨g, (k * 76 + 2), none⟩)) rfl (by kernel_rfl) (by kernel_rfl) (by kernel_rfl) (fun _ _ _ h => h) (Or.inl ⟨by rfl, fun w' hSw => by go_simp⟩) hHeld ?_
            try simp only [Act.put, List.getElem_toArray, List.getElem_cons_succ, List.getElem_cons_zero, List.setIfInBounds_toArray, List.set_cons_zero, List.set_cons_succ]
            refine wpAnyH_take (i := 8) (v := .int .i64 yf) rfl (by kernel_rfl) (by kernel_rfl) (by kernel_rfl) (fun _ _ _ h => h) (Or.inl ⟨by rfl, fun w' hSw => by have hq := hSw; have hd := HYf.out _ (two_below' HBu.out hq); go_simp⟩) hHeld ?_
            try simp only [Act.put, List.getElem_toArray, List.getElem_cons_succ, List.getElem_cons_zero, List.setIfInBounds_toArray, List.set_cons_zero, List.set_cons_succ]
            refine wpAnyH_take (i := 9) (v := .pointer (some ⟨g9, 0, none⟩)) rfl (by kernel_rfl) (by kernel_rfl) (by kernel_rfl) (fun _ _ _ h => h) (Or.inl ⟨by rfl, fun w' hSw => by go_simp⟩) hHeld ?_
            try simp only [Act.put, List.getElem_toArray, List.getElem_cons_succ, List.getElem_cons_zero, List.setIfInBounds_toArray, List.set_cons_zero, List.set_cons_succ]
            refine wpAnyH_take (i := 10) (v := .pointer (some ⟨g9, 2, none⟩)) rfl (by kernel_rfl) (by kernel_rfl) (by kernel_rfl) (fun _ _ _ h => h) (Or.inl ⟨by rfl, fun w' hSw => by go_simp⟩) hHeld ?_
            try simp only [Act.put, List.getElem_toArray, List.getElem_cons_succ, List.getElem_cons_zero, List.setIfInBounds_toArray, List.set_cons_zero, List.set_cons_succ]
            refine wpAnyH_take (i := 11) (v := .int .i64 gf) rfl (by kernel_rfl) (by kernel_rfl) (by kernel_rfl) (fun _ _ _ h => h) (Or.inl ⟨by rfl, fun w' hSw => by have hq := hSw; have hd := HBg.out _ _ (HGu.out.below hq); go_simp⟩) hHeld ?_
            try simp only [Act.put, List.getElem_toArray, List.getElem_cons_succ, List.getElem_cons_zero, List.setIfInBounds_toArray, List.set_cons_zero, List.set_cons_succ]
            refine wpAnyH_take (i := 12) (v := .bool true) rfl (by kernel_rfl) (by kernel_rfl) (by kernel_rfl) (fun _ _ _ h => h) (Or.inl ⟨by rfl, fun w' hSw => by go_simp⟩) hHeld ?_
            try simp only [Act.put, List.getElem_toArray, List.getElem_cons_succ, List.getElem_cons_zero, List.setIfInBounds_toArray, List.set_cons_zero, List.set_cons_succ]
            refine wpAnyH_done (by kernel_rfl) ?_ _
            refine NoPanic.normal ?_
            have HB7 := Lib.hid (two_below' HBu.out hHeld)
            have HC7 := Lib.hid (HCu.out.below hHeld)
            have HR7 := Lib.hid (HRu.out.below hHeld)
            have HG7 := Lib.hid (HGu.out.below hHeld)
            clear hHeld
            have c1 := hcell1.out _ HB7.out
            have HRk := Lib.hid (HRy.out _ HB7.out)
            go_wp2_with (first
            | ((with_reducible show wpList _ _ _ (⟨_, .load 38 (.tmp 129), _, _, _, _⟩ :: _) _ _); refine wpList_load_tx rfl 38 (.tmp 129) rfl g (k * 76) (by first | rfl | simp) D2 _ (HRk.out) Try.underlying38 rfl (by rw [wait_info, HD76.out]) ?_)
            | (
               with_reducible show wpList _ _ _ (⟨_, .store 38 (.tmp 9) _, _, _, _, _⟩ :: _) _ _
               refine wpList_store_at rfl 38 (.tmp 9) (.tmp 130) rfl g9 0 D2 CE _ rfl rfl (HG7.out) (by have := HE76.out; have := HD76.out; omega) (by rw [wait_info, HD76.out]) HD1.out ?_
               intro w8 hr hg
               rw [splice_all (HD76.out.trans HE76.out.symm)] at hr
               have HB8 := Lib.hid (below_own HB7.out hg (fun k hk => by cases hk; exact HG9.out))
               have HC8 := Lib.hid (HC7.out.kept hg HN9a.out)
               have HR8 := Lib.hid (HR7.out.kept hg HN9b.out)
               have HG8 := Lib.hid hr
               clear hr hg))
            exact ⟨⟨k + 1, by omega, by omega, by go_num, HB8.out, HC8.out, HR8.out, by rw [HPs2.out, HGk.out, HD2.out]; exact HG8.out⟩, by simp [intOf]; omega⟩
          · have dq : decide (yf ≤ gf) = false := decide_eq_false q
            rw [if_neg q] at hps
            have HPs2 := Lib.hid hps
            clear hps q
            go_wp2_with fail
            refine wp_region_noPanic ?_
            refine wp_region_held_drew (S := fun w' => Below wr.heap.size wr w') (by kernel_rfl) ((Below.refl _ _).drew) (fun hHeld => ?_)
            generalize wr.drew = wy at *
            refine wpAnyH_take (i := 0) (v := .pointer (some ⟨B, 0, none⟩)) rfl (by kernel_rfl) (by kernel_rfl) (by kernel_rfl) (fun _ _ _ h => h) (Or.inl ⟨by rfl, fun w' hSw => by go_simp⟩) hHeld ?_
            try simp only [Act.put, List.getElem_toArray, List.getElem_cons_succ, List.getElem_cons_zero, List.setIfInBounds_toArray, List.set_cons_zero, List.set_cons_succ]
            refine wpAnyH_take (i := 1) (v := .pointer (some ⟨B, 0, none⟩)) rfl (by kernel_rfl) (by kernel_rfl) (by kernel_rfl) (fun _ _ _ h => h) (Or.inl ⟨by rfl, fun w' hSw => by go_simp⟩) hHeld ?_
            try simp only [Act.put, List.getElem_toArray, List.getElem_cons_succ, List.getElem_cons_zero, List.setIfInBounds_toArray, List.set_cons_zero, List.set_cons_succ]
            refine wpAnyH_take (i := 2) (v := .pointer (some ⟨B, 1, none⟩)) rfl (by kernel_rfl) (by kernel_rfl) (by kernel_rfl) (fun _ _ _ h => h) (Or.inl ⟨by rfl, fun w' hSw => by go_simp⟩) hHeld ?_
            try simp only [Act.put, List.getElem_toArray, List.getElem_cons_succ, List.getElem_cons_zero, List.setIfInBounds_toArray, List.set_cons_zero, List.set_cons_succ]
            refine wpAnyH_take (i := 3) (v := .slice (some ⟨g, 0, none⟩) n c) rfl (by kernel_rfl) (by kernel_rfl) (by kernel_rfl) (fun _ _ _ h => h) (Or.inl ⟨by rfl, fun w' hSw => by have hq := hSw; have hd := hcell1.out _ (two_below' HBu.out hq); go_simp⟩) hHeld ?_
            try simp only [Act.put, List.getElem_toArray, List.getElem_cons_succ, List.getElem_cons_zero, List.setIfInBounds_toArray, List.set_cons_zero, List.set_cons_succ]
            refine wpAnyH_take (i := 4) (v := .int .i64 k) rfl (by kernel_rfl) (by kernel_rfl) (by kernel_rfl) (fun _ _ _ h => h) (Or.inl ⟨by rfl, fun w' hSw => by go_simp⟩) hHeld ?_
            try simp only [Act.put, List.getElem_toArray, List.getElem_cons_succ, List.getElem_cons_zero, List.setIfInBounds_toArray, List.set_cons_zero, List.set_cons_succ]
            refine wpAnyH_take (i := 5) (v := .pointer (some ⟨g, (k * 76), none⟩)) rfl (by kernel_rfl) (by kernel_rfl) (by kernel_rfl) (fun _ _ _ h => h) (Or.inl ⟨by rfl, fun w' hSw => by go_simp⟩) hHeld ?_
            try simp only [Act.put, List.getElem_toArray, List.getElem_cons_succ, List.getElem_cons_zero, List.setIfInBounds_toArray, List.set_cons_zero, List.set_cons_succ]
            refine wpAnyH_take (i := 6) (v := .pointer (some ⟨g, (k * 76), none⟩)) rfl (by kernel_rfl) (by kernel_rfl) (by kernel_rfl) (fun _ _ _ h => h) (Or.inl ⟨by rfl, fun w' hSw => by go_simp⟩) hHeld ?_
            try simp only [Act.put, List.getElem_toArray, List.getElem_cons_succ, List.getElem_cons_zero, List.setIfInBounds_toArray, List.set_cons_zero, List.set_cons_succ]
            refine wpAnyH_take (i := 7) (v := .pointer (some ⟨g, (k * 76 + 2), none⟩)) rfl (by kernel_rfl) (by kernel_rfl) (by kernel_rfl) (fun _ _ _ h => h) (Or.inl ⟨by rfl, fun w' hSw => by go_simp⟩) hHeld ?_
            try simp only [Act.put, List.getElem_toArray, List.getElem_cons_succ, List.getElem_cons_zero, List.setIfInBounds_toArray, List.set_cons_zero, List.set_cons_succ]
            refine wpAnyH_take (i := 8) (v := .int .i64 yf) rfl (by kernel_rfl) (by kernel_rfl) (by kernel_rfl) (fun _ _ _ h => h) (Or.inl ⟨by rfl, fun w' hSw => by have hq := hSw; have hd := HYf.out _ (two_below' HBu.out hq); go_simp⟩) hHeld ?_
            try simp only [Act.put, List.getElem_toArray, List.getElem_cons_succ, List.getElem_cons_zero, List.setIfInBounds_toArray, List.set_cons_zero, List.set_cons_succ]
            refine wpAnyH_take (i := 9) (v := .pointer (some ⟨g9, 0, none⟩)) rfl (by kernel_rfl) (by kernel_rfl) (by kernel_rfl) (fun _ _ _ h => h) (Or.inl ⟨by rfl, fun w' hSw => by go_simp⟩) hHeld ?_
            try simp only [Act.put, List.getElem_toArray, List.getElem_cons_succ, List.getElem_cons_zero, List.setIfInBounds_toArray, List.set_cons_zero, List.set_cons_succ]
            refine wpAnyH_take (i := 10) (v := .pointer (some ⟨g9, 2, none⟩)) rfl (by kernel_rfl) (by kernel_rfl) (by kernel_rfl) (fun _ _ _ h => h) (Or.inl ⟨by rfl, fun w' hSw => by go_simp⟩) hHeld ?_
            try simp only [Act.put, List.getElem_toArray, List.getElem_cons_succ, List.getElem_cons_zero, List.setIfInBounds_toArray, List.set_cons_zero, List.set_cons_succ]
            refine wpAnyH_take (i := 11) (v := .int .i64 gf) rfl (by kernel_rfl) (by kernel_rfl) (by kernel_rfl) (fun _ _ _ h => h) (Or.inl ⟨by rfl, fun w' hSw => by have hq := hSw; have hd := HBg.out _ _ (HGu.out.below hq); go_simp⟩) hHeld ?_
            try simp only [Act.put, List.getElem_toArray, List.getElem_cons_succ, List.getElem_cons_zero, List.setIfInBounds_toArray, List.set_cons_zero, List.set_cons_succ]
            refine wpAnyH_take (i := 12) (v := .bool false) rfl (by kernel_rfl) (by kernel_rfl) (by kernel_rfl) (fun _ _ _ h => h) (Or.inl ⟨by rfl, fun w' hSw => by go_simp⟩) hHeld ?_
            try simp only [Act.put, List.getElem_toArray, List.getElem_cons_succ, List.getElem_cons_zero, List.setIfInBounds_toArray, List.set_cons_zero, List.set_cons_succ]
            refine wpAnyH_done (by kernel_rfl) ?_ _
            refine NoPanic.normal ?_
            have HB7 := Lib.hid (two_below' HBu.out hHeld)
            have HC7 := Lib.hid (HCu.out.below hHeld)
            have HR7 := Lib.hid (HRu.out.below hHeld)
            have HG7 := Lib.hid (HGu.out.below hHeld)
            clear hHeld
            go_wp2_with fail
            exact ⟨⟨k + 1, by omega, by omega, by go_num, HB7.out, HC7.out, HR7.out, by rw [HPs2.out, HCE.out]; exact HG7.out⟩, by simp [intOf]; omega⟩
        · have hki : ¬ (k : Int) < (n : Int) := by omega
          have hkn2 : k = n := by omega
          have hxg : xfee ≤ (Pl.g l (Pl.poor l k)).tx.fee := by rw [hkn2]; exact hxf
          have cg := HBg.out _ _ HGu.out
          obtain ⟨_, _, cx, _, _, _, _⟩ := HBx.out _ _ HCu.out
          generalize (Pl.g l (Pl.poor l k)).tx.fee = gf at *
          have dx : decide (gf ≥ xfee) = true := decide_eq_true hxg
          have dx' : decide (xfee ≤ gf) = true := decide_eq_true hxg
          clear hkn hkn2 hxg hxf hps hpo hCE
          go_wp2_with (first
          | ((with_reducible show wpList _ _ _ (⟨_, .build 38 _, _, _, _, _⟩ :: _) _ _); refine wpList_buildL rfl 38 [] rfl (some 138) rfl _ rfl ZT.toArray HBt.out ?_)
          | (
             with_reducible show wpList _ _ _ (⟨_, .store 38 (.tmp 4) _, _, _, _, _⟩ :: _) _ _
             refine wpList_store_at rfl 38 (.tmp 4) (.tmp 138) rfl (w.heap.size + 1) 0 ZT ZT _ rfl rfl (HRu.out) (by have := HZ76.out; have := HZ76.out; omega) (by rw [wait_info, HZ76.out]) HZ1.out ?_
             intro w8 hr hg
             rw [splice_all (HZ76.out.trans HZ76.out.symm)] at hr
             have HB8 := Lib.hid (below_own HBu.out hg (fun k hk => by cases hk; exact Nat.le_succ _))
             have HS8 := Lib.hid hr
             clear hr hg))
          (try simp only [Exit.inBlock, Exit.then])
          refine bodyPost_ret (results_row3 rfl _ _ (w.heap.size + 1) 38 ZT _ rfl HS8.out Try.underlying38 rfl (by rw [wait_info]; simp [HZ76.out]) _ _ rfl rfl) rfl ⟨rfl, HB8.out⟩
end Go.Proofs.Ytoicpidiejhjeaa
