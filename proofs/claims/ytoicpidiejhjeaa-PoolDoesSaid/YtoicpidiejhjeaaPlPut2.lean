/- Put: something waits (what comes in). -/
import Derived.Test.YtoicpidiejhjeaaPlPut1
namespace Go.Proofs.Ytoicpidiejhjeaa
open Go.RowKit
set_option linter.unusedVariables false
set_option linter.unusedSimpArgs false
set_option maxRecDepth 100000
set_option maxHeartbeats 6400000 in
theorem PAt.put_ins {w : World} {base B size : Nat} {v : Value} {l : List Wt} (h : PAt 63 w base B v size l) (x : Wt) (hx : x.Ok) (hM : Pl.May x) (hcl : ¬ Pl.clash l x) (hf : ¬ Pl.full size l = true) (hI : InsOk l x) :
    Calls Try.prog 10 #[.pointer (some ⟨B, 0, none⟩), .agg x.cells.toArray] w fun e w' => e = .returned (.tuple #[.agg (Pl.putG size l x).cells.toArray, .bool (Pl.putF size l x), .int .i64 (Pl.putE size l x)]) ∧ PTo 63 w w' base B v size (Pl.put size l x) := by
  obtain ⟨e1, e2, e3, e4⟩ := Pl.put_ins (size := size) hM hcl hf
  rw [e1, e2, e3, e4]
  clear e1 e2 e3 e4
  obtain ⟨A, c, hvA, _, _⟩ := h.own.form
  have HW := Lib.hid h.wok
  have HX := Lib.hid hx
  have hn256 := h.n256
  have HU0 := (h.putAt (Below.refl _ _)).alloc x.cells
  have HU1 := Lib.hid (HU0.alloc Wt.none.cells)
  rw [show (w.alloc (.cells x.cells.toArray 38)).heap.size = w.heap.size + 1 by simp] at HU1
  have MB := Lib.hid (fun W => mayBe_any x hx W)
  have HA := Lib.hid (hvA ▸ h.own |>.lsAt (Wt.lens h.wok))
  have HC76 := Lib.hid (Wt.cells_len hx)
  have HC1 := Lib.hid (Wt.cells_one hx)
  have HZ76 := Lib.hid (Wt.cells_len Wt.none_ok)
  have HZ1 := Lib.hid (Wt.cells_one Wt.none_ok)
  have HBt : Hid (Try.prog.built 38 [] = some Wt.none.cells.toArray) := Lib.hid wait_built0
  have hzv := wait_zv
  have HBp := Lib.hid (fun W b (hr : Row W b 38 x.cells) => WBox.row hx hr)
  have hMk := Lib.hid hM
  have MB := Lib.hid (fun W => by have := MB.out W; rw [decide_eq_true hM] at this; exact this)
  clear hM
  have HNC : Hid (∀ k (hk : k < l.length), ¬ Pl.Clash l[k] x) := Lib.hid (fun k hk q => hcl ⟨_, List.getElem_mem hk, q⟩)
  have HFi0 : Hid (¬ size ≤ l.length) := Lib.hid (by unfold Pl.full at hf; simpa using hf)
  have HOk : Hid (Pl.Ok size (Pl.ins l x)) := Lib.hid (h.ok.ins hx hMk.out (by have := HFi0.out; omega) hcl)
  have HI0 := Lib.hid hI
  clear hI hcl hf
  obtain ⟨pix, hpix⟩ : ∃ z, x.ix = z := ⟨_, rfl⟩
  obtain ⟨pf, hpf⟩ : ∃ z, x.tx.frm = z := ⟨_, rfl⟩
  obtain ⟨pn, hpn⟩ : ∃ z, x.tx.nonce = z := ⟨_, rfl⟩
  obtain ⟨pe, hpe⟩ : ∃ z, x.tx.fee = z := ⟨_, rfl⟩
  rw [hpix, hpf, hpn, hpe] at HBp
  have HPi := Lib.hid hpix
  have HPf := Lib.hid hpf
  have HPn := Lib.hid hpn
  have HPe := Lib.hid hpe
  clear HU0 hpix hpf hpn hpe
  obtain ⟨C, hC⟩ : ∃ C, x.cells = C := ⟨_, rfl⟩
  rw [hC] at HC76 HC1 HU1 MB HBp ⊢
  have HCx := Lib.hid hC
  obtain ⟨ZT, hZT⟩ : ∃ ZT, Wt.none.cells = ZT := ⟨_, rfl⟩
  rw [hZT] at HZ76 HZ1 HBt hzv HU1
  rw [hZT]
  have HZT := Lib.hid hZT
  obtain ⟨n, hn⟩ : ∃ n, n = l.length := ⟨_, rfl⟩
  rw [← hn] at hn256 hvA
  have HN := Lib.hid hn
  obtain ⟨gp, hgp⟩ : ∃ gp, w.heap.size = gp := ⟨_, rfl⟩
  obtain ⟨g4, hg4⟩ : ∃ g4, w.heap.size + 1 = g4 := ⟨_, rfl⟩
  rw [hg4, hgp] at HU1
  have Hgp := Lib.hid hgp
  have Hg4 := Lib.hid hg4
  rw [hgp] at hg4
  have hne4 : g4 ≠ gp := by omega
  have HNE := Lib.hid hne4
  subst hvA
  have c1 := HU1.out.pat.c1
  clear hn h hx hC hZT hne4
  have HFi : Hid (decide (size ≤ n) = false) := Lib.hid (decide_eq_false (by have := HFi0.out; have := HN.out; omega))
  go_enter Try.func10, Try.ntmps10
  go_wp2_with (first
    | ((with_reducible show wpList _ _ _ (⟨_, .load 38 (.tmp 3), _, _, _, _⟩ :: _) _ _); refine wpList_load_tx rfl 38 (.tmp 3) rfl gp 0 (rfl) C _ (row_range (HU1.out.row (gp, C) (by simp))) Try.underlying38 rfl (by rw [wait_info, HC76.out]) ?_))
  refine (MB.out _).mono ?_
  rintro _ w2 ⟨rfl, hb2⟩
  have HU2 := Lib.hid (HU1.out.below hb2)
  clear hb2 c1
  have c1 := HU2.out.pat.c1
  go_wp2_with fail
  clear c1
  go_loopw [26] (fun si wr => ∃ k : Nat, k ≤ n ∧ si = .int .i64 k ∧ (∀ j (hj : j < l.length), j < k → ¬ Pl.Clash l[j] x) ∧ PutAt 63 w wr base B (.slice A n c) (.slice A n c) size l [(g4, ZT), (gp, C)]) (fun i _ => n - (intOf i).toNat)
  case atStart => exact ⟨0, Nat.zero_le _, rfl, fun j hj h => by omega, HU2.out⟩
  case round =>
    obtain ⟨k, hk, rfl, hno, hu⟩ := hrel
    have HU := Lib.hid hu
    have HNo := Lib.hid hno
    clear hu hno HU2
    by_cases hkn : k < n
    · have hki : (k : Int) < (n : Int) := by omega
      have hk0 : (0 : Int) ≤ (k : Int) := by omega
      have hkl0 : k < l.length := by have := HN.out; omega
      obtain ⟨g, hge, hg, hat0⟩ := HA.out (by intro e; rw [e] at hkl0; simp at hkl0)
      subst hge
      have hX := HW.out _ (List.getElem_mem hkl0)
      have HR : Hid (wr.rangeAt g (k * 76) l[k].cells) := Lib.hid ((HU.out.pat.own.at (Wt.lens HW.out) k hkl0))
      have HXe : Hid (∀ (q : ¬ Pl.Clash l[k] x), ∀ j (hj : j < l.length), j = k → ¬ Pl.Clash l[j] x) := Lib.hid (fun q j hj e => by subst e; exact q)
      obtain ⟨X, hXe⟩ : ∃ X, l[k] = X := ⟨_, rfl⟩
      have hncX : Pl.Clash l[k] x ↔ (X.ix = pix ∨ (X.tx.frm = pf ∧ X.tx.nonce = pn)) := by rw [hXe]; unfold Pl.Clash; rw [HPi.out, HPf.out, HPn.out]
      have HNCX := Lib.hid hncX
      rw [hXe] at hX HR
      have HX76 := Lib.hid (Wt.cells_len hX)
      have HX1 := Lib.hid (Wt.cells_one hX)
      have HBx := Lib.hid (fun W b (hr : Row W b 38 X.cells) => WBox.row hX hr)
      generalize X.cells = CX at *
      generalize X.tx.frm = nf at *
      generalize X.tx.nonce = nn at *
      generalize X.ix = nix at *
      clear hat0 hX hXe hncX
      by_cases q1 : nix = pix
      · have b1 : (nix == pix) = true := by simpa using q1
        have hcl := HNCX.out.2 (.inl q1)
        clear q1
        exact absurd hcl (HNC.out k hkl0)
      have b1 : (nix == pix) = false := by simpa using q1
      by_cases q2 : nf = pf
      · have b2 : (nf == pf) = true := by simpa using q2
        by_cases q3 : nn = pn
        · have b3 : (nn == pn) = true := by simpa using q3
          have hcl := HNCX.out.2 (.inr ⟨q2, q3⟩)
          clear q1 q2 q3
          exact absurd hcl (HNC.out k hkl0)
        · have b3 : (nn == pn) = false := by simpa using q3
          have HNk : Hid (¬ Pl.Clash l[k] x) := Lib.hid (fun e => by
            rcases HNCX.out.1 e with e | e
            · exact q1 e
            · exact q3 e.2)
          clear q1 q2 q3
          go_wp2_with (first
            | ((with_reducible show wpList _ _ _ (⟨_, .load 38 (.tmp 28), _, _, _, _⟩ :: _) _ _); refine wpList_load_tx rfl 38 (.tmp 28) rfl g (k * 76) (rfl) CX _ (HR.out) Try.underlying38 rfl (by rw [wait_info, HX76.out]) ?_)
            | (
               with_reducible show wpList _ _ _ (⟨_, .store 38 (.tmp 8) _, _, _, _, _⟩ :: _) _ _
               refine wpList_store_at rfl 38 (.tmp 8) (.tmp 29) rfl wr.heap.size 0 CX ZT _ rfl rfl (Row.new wr 38 ZT) (by have := HZ76.out; have := HX76.out; omega) (by rw [wait_info, HX76.out]) HX1.out ?_
               intro w4 hr hg
               rw [splice_all (HX76.out.trans HZ76.out.symm)] at hr
               have hbx := below_own ((Below.refl wr.heap.size wr).alloc (Nat.le_refl _) (.cells ZT.toArray 38)) hg (fun k hk => by cases hk; exact Nat.le_refl _)
               have HU4 := Lib.hid (HU.out.below hbx)
               obtain ⟨d0, d1, _, d72, _⟩ := HBx.out _ _ hr
               obtain ⟨p0, p1, _, p72, _⟩ := HBp.out _ _ (HU4.out.row (gp, C) (by simp))
               clear hbx
               clear hr hg))
          exact ⟨⟨k + 1, by omega, by go_num, fun j hj hjk => (by
            rcases Nat.lt_or_ge j k with q | q
            · exact HNo.out j hj q
            · have : j = k := by omega
              subst this
              exact HNk.out), HU4.out⟩, by simp [intOf]; omega⟩
      · have b2 : (nf == pf) = false := by simpa using q2
        have HNk : Hid (¬ Pl.Clash l[k] x) := Lib.hid (fun e => by
          rcases HNCX.out.1 e with e | e
          · exact q1 e
          · exact q2 e.1)
        clear q1 q2
        go_wp2_with (first
          | ((with_reducible show wpList _ _ _ (⟨_, .load 38 (.tmp 28), _, _, _, _⟩ :: _) _ _); refine wpList_load_tx rfl 38 (.tmp 28) rfl g (k * 76) (rfl) CX _ (HR.out) Try.underlying38 rfl (by rw [wait_info, HX76.out]) ?_)
          | (
             with_reducible show wpList _ _ _ (⟨_, .store 38 (.tmp 8) _, _, _, _, _⟩ :: _) _ _
             refine wpList_store_at rfl 38 (.tmp 8) (.tmp 29) rfl wr.heap.size 0 CX ZT _ rfl rfl (Row.new wr 38 ZT) (by have := HZ76.out; have := HX76.out; omega) (by rw [wait_info, HX76.out]) HX1.out ?_
             intro w4 hr hg
             rw [splice_all (HX76.out.trans HZ76.out.symm)] at hr
             have hbx := below_own ((Below.refl wr.heap.size wr).alloc (Nat.le_refl _) (.cells ZT.toArray 38)) hg (fun k hk => by cases hk; exact Nat.le_refl _)
             have HU4 := Lib.hid (HU.out.below hbx)
             obtain ⟨d0, d1, _, d72, _⟩ := HBx.out _ _ hr
             obtain ⟨p0, p1, _, p72, _⟩ := HBp.out _ _ (HU4.out.row (gp, C) (by simp))
             clear hbx
             clear hr hg))
        exact ⟨⟨k + 1, by omega, by go_num, fun j hj hjk => (by
          rcases Nat.lt_or_ge j k with q | q
          · exact HNo.out j hj q
          · have : j = k := by omega
            subst this
            exact HNk.out), HU4.out⟩, by simp [intOf]; omega⟩
    · have hki : ¬ (k : Int) < (n : Int) := by omega
      have hkn' : k = n := by omega
      clear hkn
      have HU5 := Lib.hid (HU.out.alloc ZT)
      clear hkn'
      go_wp2_with fail
      have c0 := HU5.out.pat.c0
      have c1 := HU5.out.pat.c1
      have dfi : decide (size ≤ n) = false := HFi.out
      go_quiet (fail)
      clear c0 c1
      replace HU5 := Lib.hid (HU5.out.below (below_drewN' (Below.refl _ _) nq))
      have HN9 : Hid (wr.heap.size ≠ g4 ∧ wr.heap.size ≠ gp) := Lib.hid ⟨fun e => by have := PS.lt_row HU.out (x := (g4, ZT)) (by simp); simp only at this; omega, fun e => by have := PS.lt_row HU.out (x := (gp, C)) (by simp); simp only at this; omega⟩
      clear HU
      generalize wr.heap.size = g9 at *
      generalize World.drewN _ nq = w6 at *
      have HU6 := HU5
      have hI := HI0.out
      unfold InsOk at hI
      obtain ⟨p2, hp2⟩ : ∃ p2, Pl.pos l pix = p2 := ⟨_, rfl⟩
      rw [HCx.out, HPi.out, hp2, ← HN.out] at hI
      have HP2 := Lib.hid hp2
      have HIns := Lib.hid hI
      clear hI hp2
      have p72 := (HBp.out _ _ (HU6.out.row (gp, C) (by simp))).2.2.2.1
      go_wp2_with fail
      have FI := Lib.hid (PAt.find _ pix HU6.out.pat)
      obtain ⟨bf, hbf⟩ : ∃ bf, decide (∃ y ∈ l, y.ix = pix) = bf := ⟨_, rfl⟩
      rw [hbf, HP2.out] at FI
      clear hbf
      refine FI.out.mono ?_
      rintro _ w17 ⟨rfl, hb17⟩
      have HU7 := Lib.hid (HU6.out.below hb17)
      clear hb17 p72 FI
      go_wp2_with fail
      have hT := HU7.out.below (Below.refl _ _).drew
      refine wp_region_noPanic ?_
      refine wp_region_held_drew (S := fun w' => Row w' gp 38 C) (by kernel_rfl) (HU7.out.row (gp, C) (by simp)) (fun hHeld => ?_)
      generalize w17.drew = wq at *
      refine wpAnyH_take (i := 0) (v := .pointer (some ⟨B, 0, none⟩)) rfl (by kernel_rfl) (by kernel_rfl) (by kernel_rfl) (fun _ _ _ h => h) (Or.inl ⟨by rfl, fun w' hSw => by go_simp⟩) hHeld ?_
      try simp only [Act.put, List.getElem_toArray, List.getElem_cons_succ, List.getElem_cons_zero, List.setIfInBounds_toArray, List.set_cons_zero, List.set_cons_succ]
      refine wpAnyH_take (i := 1) (v := .pointer (some ⟨B, 0, none⟩)) rfl (by kernel_rfl) (by kernel_rfl) (by kernel_rfl) (fun _ _ _ h => h) (Or.inl ⟨by rfl, fun w' hSw => by go_simp⟩) hHeld ?_
      try simp only [Act.put, List.getElem_toArray, List.getElem_cons_succ, List.getElem_cons_zero, List.setIfInBounds_toArray, List.set_cons_zero, List.set_cons_succ]
      refine wpAnyH_take (i := 2) (v := .pointer (some ⟨B, 0, none⟩)) rfl (by kernel_rfl) (by kernel_rfl) (by kernel_rfl) (fun _ _ _ h => h) (Or.inl ⟨by rfl, fun w' hSw => by go_simp⟩) hHeld ?_
      try simp only [Act.put, List.getElem_toArray, List.getElem_cons_succ, List.getElem_cons_zero, List.setIfInBounds_toArray, List.set_cons_zero, List.set_cons_succ]
      refine wpAnyH_take (i := 3) (v := .pointer (some ⟨B, 1, none⟩)) rfl (by kernel_rfl) (by kernel_rfl) (by kernel_rfl) (fun _ _ _ h => h) (Or.inl ⟨by rfl, fun w' hSw => by go_simp⟩) hHeld ?_
      try simp only [Act.put, List.getElem_toArray, List.getElem_cons_succ, List.getElem_cons_zero, List.setIfInBounds_toArray, List.set_cons_zero, List.set_cons_succ]
      refine wpAnyH_take (i := 5) (v := .int .i64 p2) rfl (by kernel_rfl) (by kernel_rfl) (by kernel_rfl) (fun _ _ _ h => h) (Or.inl ⟨by rfl, fun w' hSw => by go_simp⟩) hHeld ?_
      try simp only [Act.put, List.getElem_toArray, List.getElem_cons_succ, List.getElem_cons_zero, List.setIfInBounds_toArray, List.set_cons_zero, List.set_cons_succ]
      refine' wpAnyH_take (i := 6) (v := _) rfl (by kernel_rfl) (by kernel_rfl) (by kernel_rfl) (fun _ _ _ h => h) (yieldsIf_load_mid (by rfl) _ _ rfl gp 0 rfl C _ (fun w' hSw => row_range hSw) Try.underlying38 rfl (by rw [wait_info, HC76.out])) hHeld ?_
      try simp only [Act.put, List.getElem_toArray, List.getElem_cons_succ, List.getElem_cons_zero, List.setIfInBounds_toArray, List.set_cons_zero, List.set_cons_succ]
      refine wpAnyH_ready (rs := [4, 7]) (by kernel_rfl) (by simp) (AllReadyH.cons rfl (fun K1 hK1 => ?_) (AllReadyH.cons rfl (fun K1 hK1 => ?_) AllReadyH.nil))
      · skip
        try simp only [Act.put, List.getElem_toArray, List.getElem_cons_succ, List.getElem_cons_zero, List.setIfInBounds_toArray, List.set_cons_zero, List.set_cons_succ]
        rw [if_pos (by rfl)]
        have hcx := hT.pat.c1
        go_simp
        refine hK1.out _ _ (hHeld) (fun hHeld => ?_)
        clear hK1 K1
        try simp only [Act.put, List.getElem_toArray, List.getElem_cons_succ, List.getElem_cons_zero, List.setIfInBounds_toArray, List.set_cons_zero, List.set_cons_succ]
        clear hcx
        refine wpAnyH_ready (rs := [7]) (by kernel_rfl) (by simp) (AllReadyH.cons rfl (fun K1 hK1 => ?_) AllReadyH.nil)
        try simp only [Act.put, List.getElem_toArray, List.getElem_cons_succ, List.getElem_cons_zero, List.setIfInBounds_toArray, List.set_cons_zero, List.set_cons_succ]
        rw [if_pos (by rfl)]
        refine wp_buildWait (.tmp 98) rfl x HX.out C HCx.out rfl ?_
        replace hT := hT.alloc C
        have hHeld2 : Row (wq.alloc (.cells C.toArray 38)) gp 38 C := hT.row (gp, C) (by simp)
        have hgbo := (hT.out _ List.mem_cons_self).1
        generalize wq.alloc (.cells C.toArray 38) = wb1 at *
        generalize wq.heap.size = gb at *
        refine hK1.out _ _ (hHeld2) (fun hHeld => ?_)
        clear hK1 K1
        try simp only [Act.put, List.getElem_toArray, List.getElem_cons_succ, List.getElem_cons_zero, List.setIfInBounds_toArray, List.set_cons_zero, List.set_cons_succ]
        clear hHeld2
        refine wpAnyH_ready (rs := [8]) (by kernel_rfl) (by simp) (AllReadyH.cons rfl (fun K1 hK1 => ?_) AllReadyH.nil)
        try simp only [Act.put, List.getElem_toArray, List.getElem_cons_succ, List.getElem_cons_zero, List.setIfInBounds_toArray, List.set_cons_zero, List.set_cons_succ]
        go_simp
        refine Calls.mono (HIns.out wb1 base A c gb hT.pat.own (Nat.le_trans hT.pat.lo (Nat.le_of_lt hT.pat.row.lt)) hT.hd (fun e => hgbo (.inr e))) ?_
        rintro e wi2 ⟨u, rfl, ho, hc, hk⟩
        have hHeld2 := hc.row hHeld (fun e => (hT.out (gp, C) (by simp)).1 (.inr e))
        have hrB := hc.row hT.pat.row (fun e => hT.pat.own.ne_block hT.pat.row (by decide) e)
        obtain ⟨A3, c3, rfl, _, _⟩ := ho.form
        obtain ⟨n3, hn3⟩ : ∃ n3, (Pl.ins l x).length = n3 := ⟨_, rfl⟩
        rw [hn3] at ho hk ⊢
        clear hn3
        refine hK1.out _ _ (hHeld2) (fun hHeld => ?_)
        clear hK1 K1
        try simp only [Act.put, List.getElem_toArray, List.getElem_cons_succ, List.getElem_cons_zero, List.setIfInBounds_toArray, List.set_cons_zero, List.set_cons_succ]
        clear hHeld2
        refine wpAnyH_take (i := 9) (v := .pointer (some ⟨B, 0, none⟩)) rfl (by kernel_rfl) (by kernel_rfl) (by kernel_rfl) (fun _ _ _ h => h) (Or.inl ⟨by rfl, fun w' hSw => by go_simp⟩) hHeld ?_
        try simp only [Act.put, List.getElem_toArray, List.getElem_cons_succ, List.getElem_cons_zero, List.setIfInBounds_toArray, List.set_cons_zero, List.set_cons_succ]
        refine wpAnyH_take (i := 10) (v := .pointer (some ⟨B, 1, none⟩)) rfl (by kernel_rfl) (by kernel_rfl) (by kernel_rfl) (fun _ _ _ h => h) (Or.inl ⟨by rfl, fun w' hSw => by go_simp⟩) hHeld ?_
        try simp only [Act.put, List.getElem_toArray, List.getElem_cons_succ, List.getElem_cons_zero, List.setIfInBounds_toArray, List.set_cons_zero, List.set_cons_succ]
        refine wpAnyH_ready (rs := [11]) (by kernel_rfl) (by simp) (AllReadyH.cons rfl (fun K1 hK1 => ?_) AllReadyH.nil)
        try simp only [Act.put, List.getElem_toArray, List.getElem_cons_succ, List.getElem_cons_zero, List.setIfInBounds_toArray, List.set_cons_zero, List.set_cons_succ]
        rw [if_pos (by rfl)]
        refine wp_store_sl 30 (.tmp 102) (.tmp 100) rfl B 1 63 [.int .i64 size, .slice A n c] A3 n3 c3 rfl rfl hrB (by simp) (by kernel_rfl) ?_
        intro wt3 hr4 hg4
        have hU := hT.inserted ho hc hk hrB hr4 hg4 HOk.out (by decide)
        have hHeld2 : Row wt3 gp 38 C := (by obtain ⟨_, hU⟩ := hU; exact hU.row (gp, C) (by simp))
        refine hK1.out _ _ (hHeld2) (fun hHeld => ?_)
        clear hK1 K1
        try simp only [Act.put, List.getElem_toArray, List.getElem_cons_succ, List.getElem_cons_zero, List.setIfInBounds_toArray, List.set_cons_zero, List.set_cons_succ]
        clear hHeld2
        refine wpAnyH_done (by kernel_rfl) ?_ _
        refine NoPanic.normal ?_
        clear hHeld hT
        obtain ⟨v9, hU⟩ := hU
        have HU8 := Lib.hid hU
        clear hU
        go_wp2_with (first
          | ((with_reducible show wpList _ _ _ (⟨_, .load 38 (.tmp 9), _, _, _, _⟩ :: _) _ _); refine wpList_load_tx rfl 38 (.tmp 9) rfl g9 0 (rfl) ZT _ (row_range (HU8.out.row (g9, ZT) (by simp))) Try.underlying38 rfl (by rw [wait_info, HZ76.out]) ?_)
          | (
             with_reducible show wpList _ _ _ (⟨_, .store 38 (.tmp 4) _, _, _, _, _⟩ :: _) _ _
             refine wpList_store_at rfl 38 (.tmp 4) (.tmp 103) rfl g4 0 ZT ZT _ rfl rfl (HU8.out.row (g4, ZT) (by simp)) (by have := HZ76.out; have := HZ76.out; omega) (by rw [wait_info, HZ76.out]) HZ1.out ?_
             intro w9 hr hg
             rw [splice_all (HZ76.out.trans HZ76.out.symm)] at hr
             have HR4 := Lib.hid hr
             have HU9 := Lib.hid (HU8.out.write (rows' := [(g4, ZT)]) hg hr ⟨ZT, by simp⟩ (by intro x hx; simp only [List.mem_cons, List.not_mem_nil, or_false] at hx; exact .inl hx))
             clear hr hg))
        refine bodyPost_ret (results_row3 rfl _ _ g4 38 ZT _ rfl HR4.out Try.underlying38 rfl (by rw [wait_info]; simp [HZ76.out]) _ _ rfl rfl) rfl ⟨rfl, HU9.out.to⟩
      · skip
        try simp only [Act.put, List.getElem_toArray, List.getElem_cons_succ, List.getElem_cons_zero, List.setIfInBounds_toArray, List.set_cons_zero, List.set_cons_succ]
        rw [if_pos (by rfl)]
        refine wp_buildWait (.tmp 98) rfl x HX.out C HCx.out rfl ?_
        replace hT := hT.alloc C
        have hHeld2 : Row (wq.alloc (.cells C.toArray 38)) gp 38 C := hT.row (gp, C) (by simp)
        have hgbo := (hT.out _ List.mem_cons_self).1
        generalize wq.alloc (.cells C.toArray 38) = wb4 at *
        generalize wq.heap.size = gb at *
        refine hK1.out _ _ (hHeld2) (fun hHeld => ?_)
        clear hK1 K1
        try simp only [Act.put, List.getElem_toArray, List.getElem_cons_succ, List.getElem_cons_zero, List.setIfInBounds_toArray, List.set_cons_zero, List.set_cons_succ]
        clear hHeld2
        refine wpAnyH_ready (rs := [4]) (by kernel_rfl) (by simp) (AllReadyH.cons rfl (fun K1 hK1 => ?_) AllReadyH.nil)
        try simp only [Act.put, List.getElem_toArray, List.getElem_cons_succ, List.getElem_cons_zero, List.setIfInBounds_toArray, List.set_cons_zero, List.set_cons_succ]
        rw [if_pos (by rfl)]
        have hcx := hT.pat.c1
        go_simp
        refine hK1.out _ _ (hHeld) (fun hHeld => ?_)
        clear hK1 K1
        try simp only [Act.put, List.getElem_toArray, List.getElem_cons_succ, List.getElem_cons_zero, List.setIfInBounds_toArray, List.set_cons_zero, List.set_cons_succ]
        clear hcx
        refine wpAnyH_ready (rs := [8]) (by kernel_rfl) (by simp) (AllReadyH.cons rfl (fun K1 hK1 => ?_) AllReadyH.nil)
        try simp only [Act.put, List.getElem_toArray, List.getElem_cons_succ, List.getElem_cons_zero, List.setIfInBounds_toArray, List.set_cons_zero, List.set_cons_succ]
        go_simp
        refine Calls.mono (HIns.out wb4 base A c gb hT.pat.own (Nat.le_trans hT.pat.lo (Nat.le_of_lt hT.pat.row.lt)) hT.hd (fun e => hgbo (.inr e))) ?_
        rintro e wi5 ⟨u, rfl, ho, hc, hk⟩
        have hHeld2 := hc.row hHeld (fun e => (hT.out (gp, C) (by simp)).1 (.inr e))
        have hrB := hc.row hT.pat.row (fun e => hT.pat.own.ne_block hT.pat.row (by decide) e)
        obtain ⟨A3, c3, rfl, _, _⟩ := ho.form
        obtain ⟨n3, hn3⟩ : ∃ n3, (Pl.ins l x).length = n3 := ⟨_, rfl⟩
        rw [hn3] at ho hk ⊢
        clear hn3
        refine hK1.out _ _ (hHeld2) (fun hHeld => ?_)
        clear hK1 K1
        try simp only [Act.put, List.getElem_toArray, List.getElem_cons_succ, List.getElem_cons_zero, List.setIfInBounds_toArray, List.set_cons_zero, List.set_cons_succ]
        clear hHeld2
        refine wpAnyH_take (i := 9) (v := .pointer (some ⟨B, 0, none⟩)) rfl (by kernel_rfl) (by kernel_rfl) (by kernel_rfl) (fun _ _ _ h => h) (Or.inl ⟨by rfl, fun w' hSw => by go_simp⟩) hHeld ?_
        try simp only [Act.put, List.getElem_toArray, List.getElem_cons_succ, List.getElem_cons_zero, List.setIfInBounds_toArray, List.set_cons_zero, List.set_cons_succ]
        refine wpAnyH_take (i := 10) (v := .pointer (some ⟨B, 1, none⟩)) rfl (by kernel_rfl) (by kernel_rfl) (by kernel_rfl) (fun _ _ _ h => h) (Or.inl ⟨by rfl, fun w' hSw => by go_simp⟩) hHeld ?_
        try simp only [Act.put, List.getElem_toArray, List.getElem_cons_succ, List.getElem_cons_zero, List.setIfInBounds_toArray, List.set_cons_zero, List.set_cons_succ]
        refine wpAnyH_ready (rs := [11]) (by kernel_rfl) (by simp) (AllReadyH.cons rfl (fun K1 hK1 => ?_) AllReadyH.nil)
        try simp only [Act.put, List.getElem_toArray, List.getElem_cons_succ, List.getElem_cons_zero, List.setIfInBounds_toArray, List.set_cons_zero, List.set_cons_succ]
        rw [if_pos (by rfl)]
        refine wp_store_sl 30 (.tmp 102) (.tmp 100) rfl B 1 63 [.int .i64 size, .slice A n c] A3 n3 c3 rfl rfl hrB (by simp) (by kernel_rfl) ?_
        intro wt6 hr4 hg4
        have hU := hT.inserted ho hc hk hrB hr4 hg4 HOk.out (by decide)
        have hHeld2 : Row wt6 gp 38 C := (by obtain ⟨_, hU⟩ := hU; exact hU.row (gp, C) (by simp))
        refine hK1.out _ _ (hHeld2) (fun hHeld => ?_)
        clear hK1 K1
        try simp only [Act.put, List.getElem_toArray, List.getElem_cons_succ, List.getElem_cons_zero, List.setIfInBounds_toArray, List.set_cons_zero, List.set_cons_succ]
        clear hHeld2
        refine wpAnyH_done (by kernel_rfl) ?_ _
        refine NoPanic.normal ?_
        clear hHeld hT
        obtain ⟨v9, hU⟩ := hU
        have HU8 := Lib.hid hU
        clear hU
        go_wp2_with (first
          | ((with_reducible show wpList _ _ _ (⟨_, .load 38 (.tmp 9), _, _, _, _⟩ :: _) _ _); refine wpList_load_tx rfl 38 (.tmp 9) rfl g9 0 (rfl) ZT _ (row_range (HU8.out.row (g9, ZT) (by simp))) Try.underlying38 rfl (by rw [wait_info, HZ76.out]) ?_)
          | (
             with_reducible show wpList _ _ _ (⟨_, .store 38 (.tmp 4) _, _, _, _, _⟩ :: _) _ _
             refine wpList_store_at rfl 38 (.tmp 4) (.tmp 103) rfl g4 0 ZT ZT _ rfl rfl (HU8.out.row (g4, ZT) (by simp)) (by have := HZ76.out; have := HZ76.out; omega) (by rw [wait_info, HZ76.out]) HZ1.out ?_
             intro w9 hr hg
             rw [splice_all (HZ76.out.trans HZ76.out.symm)] at hr
             have HR4 := Lib.hid hr
             have HU9 := Lib.hid (HU8.out.write (rows' := [(g4, ZT)]) hg hr ⟨ZT, by simp⟩ (by intro x hx; simp only [List.mem_cons, List.not_mem_nil, or_false] at hx; exact .inl hx))
             clear hr hg))
        refine bodyPost_ret (results_row3 rfl _ _ g4 38 ZT _ rfl HR4.out Try.underlying38 rfl (by rw [wait_info]; simp [HZ76.out]) _ _ rfl rfl) rfl ⟨rfl, HU9.out.to⟩
set_option maxHeartbeats 6400000 in
theorem PAt.put_full {w : World} {base B size : Nat} {v : Value} {l : List Wt} (h : PAt 63 w base B v size l) (x : Wt) (hx : x.Ok) (hM : Pl.May x) (hcl : ¬ Pl.clash l x) (hf : Pl.full size l = true) (hp : x.tx.fee ≤ (Pl.g l (Pl.poor l l.length)).tx.fee) :
    Calls Try.prog 10 #[.pointer (some ⟨B, 0, none⟩), .agg x.cells.toArray] w fun e w' => e = .returned (.tuple #[.agg (Pl.putG size l x).cells.toArray, .bool (Pl.putF size l x), .int .i64 (Pl.putE size l x)]) ∧ PTo 63 w w' base B v size (Pl.put size l x) := by
  obtain ⟨e1, e2, e3, e4⟩ := Pl.put_full (size := size) hM hcl hf hp
  rw [e1, e2, e3, e4]
  clear e1 e2 e3 e4
  obtain ⟨A, c, hvA, _, _⟩ := h.own.form
  have HW := Lib.hid h.wok
  have HX := Lib.hid hx
  have hn256 := h.n256
  have HU0 := (h.putAt (Below.refl _ _)).alloc x.cells
  have HU1 := Lib.hid (HU0.alloc Wt.none.cells)
  rw [show (w.alloc (.cells x.cells.toArray 38)).heap.size = w.heap.size + 1 by simp] at HU1
  have MB := Lib.hid (fun W => mayBe_any x hx W)
  have HA := Lib.hid (hvA ▸ h.own |>.lsAt (Wt.lens h.wok))
  have HC76 := Lib.hid (Wt.cells_len hx)
  have HC1 := Lib.hid (Wt.cells_one hx)
  have HZ76 := Lib.hid (Wt.cells_len Wt.none_ok)
  have HZ1 := Lib.hid (Wt.cells_one Wt.none_ok)
  have HBt : Hid (Try.prog.built 38 [] = some Wt.none.cells.toArray) := Lib.hid wait_built0
  have hzv := wait_zv
  have HBp := Lib.hid (fun W b (hr : Row W b 38 x.cells) => WBox.row hx hr)
  have hMk := Lib.hid hM
  have MB := Lib.hid (fun W => by have := MB.out W; rw [decide_eq_true hM] at this; exact this)
  clear hM
  have HNC : Hid (∀ k (hk : k < l.length), ¬ Pl.Clash l[k] x) := Lib.hid (fun k hk q => hcl ⟨_, List.getElem_mem hk, q⟩)
  have HFi0 : Hid (size ≤ l.length) := Lib.hid (by unfold Pl.full at hf; simpa using hf)
  have hppl : Pl.poor l l.length < l.length := Pl.poor_lt l _ (by have := h.size.1; have := HFi0.out; omega)
  have HGe := Lib.hid (@Pl.g_eq l _ hppl)
  obtain ⟨pp, hpp⟩ : ∃ pp, Pl.poor l l.length = pp := ⟨_, rfl⟩
  have HPo := Lib.hid hpp
  have HPp : Hid (pp < l.length) := Lib.hid (hpp ▸ hppl)
  obtain ⟨qf, hqf⟩ : ∃ qf, (Pl.g l pp).tx.fee = qf := ⟨_, rfl⟩
  have HQf : Hid ((l[pp]'HPp.out).tx.fee = qf) := Lib.hid (by rw [← hqf, Pl.g_eq HPp.out])
  rw [hpp, hqf] at hp
  have HFe0 := Lib.hid hp
  clear hp hpp hqf hppl HGe hcl hf
  obtain ⟨pix, hpix⟩ : ∃ z, x.ix = z := ⟨_, rfl⟩
  obtain ⟨pf, hpf⟩ : ∃ z, x.tx.frm = z := ⟨_, rfl⟩
  obtain ⟨pn, hpn⟩ : ∃ z, x.tx.nonce = z := ⟨_, rfl⟩
  obtain ⟨pe, hpe⟩ : ∃ z, x.tx.fee = z := ⟨_, rfl⟩
  rw [hpix, hpf, hpn, hpe] at HBp
  have HPi := Lib.hid hpix
  have HPf := Lib.hid hpf
  have HPn := Lib.hid hpn
  have HPe := Lib.hid hpe
  clear HU0 hpix hpf hpn hpe
  obtain ⟨C, hC⟩ : ∃ C, x.cells = C := ⟨_, rfl⟩
  rw [hC] at HC76 HC1 HU1 MB HBp ⊢
  have HCx := Lib.hid hC
  obtain ⟨ZT, hZT⟩ : ∃ ZT, Wt.none.cells = ZT := ⟨_, rfl⟩
  rw [hZT] at HZ76 HZ1 HBt hzv HU1
  rw [hZT]
  have HZT := Lib.hid hZT
  obtain ⟨n, hn⟩ : ∃ n, n = l.length := ⟨_, rfl⟩
  rw [← hn] at hn256 hvA
  have HN := Lib.hid hn
  obtain ⟨gp, hgp⟩ : ∃ gp, w.heap.size = gp := ⟨_, rfl⟩
  obtain ⟨g4, hg4⟩ : ∃ g4, w.heap.size + 1 = g4 := ⟨_, rfl⟩
  rw [hg4, hgp] at HU1
  have Hgp := Lib.hid hgp
  have Hg4 := Lib.hid hg4
  rw [hgp] at hg4
  have hne4 : g4 ≠ gp := by omega
  have HNE := Lib.hid hne4
  subst hvA
  have c1 := HU1.out.pat.c1
  clear hn h hx hC hZT hne4
  have HFi : Hid (decide (size ≤ n) = true) := Lib.hid (decide_eq_true (by have := HFi0.out; have := HN.out; omega))
  have HFe : Hid (decide (pe ≤ qf) = true) := Lib.hid (decide_eq_true (by have := HFe0.out; rw [HPe.out] at this; exact this))
  go_enter Try.func10, Try.ntmps10
  go_wp2_with (first
    | ((with_reducible show wpList _ _ _ (⟨_, .load 38 (.tmp 3), _, _, _, _⟩ :: _) _ _); refine wpList_load_tx rfl 38 (.tmp 3) rfl gp 0 (rfl) C _ (row_range (HU1.out.row (gp, C) (by simp))) Try.underlying38 rfl (by rw [wait_info, HC76.out]) ?_))
  refine (MB.out _).mono ?_
  rintro _ w2 ⟨rfl, hb2⟩
  have HU2 := Lib.hid (HU1.out.below hb2)
  clear hb2 c1
  have c1 := HU2.out.pat.c1
  go_wp2_with fail
  clear c1
  go_loopw [26] (fun si wr => ∃ k : Nat, k ≤ n ∧ si = .int .i64 k ∧ (∀ j (hj : j < l.length), j < k → ¬ Pl.Clash l[j] x) ∧ PutAt 63 w wr base B (.slice A n c) (.slice A n c) size l [(g4, ZT), (gp, C)]) (fun i _ => n - (intOf i).toNat)
  case atStart => exact ⟨0, Nat.zero_le _, rfl, fun j hj h => by omega, HU2.out⟩
  case round =>
    obtain ⟨k, hk, rfl, hno, hu⟩ := hrel
    have HU := Lib.hid hu
    have HNo := Lib.hid hno
    clear hu hno HU2
    by_cases hkn : k < n
    · have hki : (k : Int) < (n : Int) := by omega
      have hk0 : (0 : Int) ≤ (k : Int) := by omega
      have hkl0 : k < l.length := by have := HN.out; omega
      obtain ⟨g, hge, hg, hat0⟩ := HA.out (by intro e; rw [e] at hkl0; simp at hkl0)
      subst hge
      have hX := HW.out _ (List.getElem_mem hkl0)
      have HR : Hid (wr.rangeAt g (k * 76) l[k].cells) := Lib.hid ((HU.out.pat.own.at (Wt.lens HW.out) k hkl0))
      have HXe : Hid (∀ (q : ¬ Pl.Clash l[k] x), ∀ j (hj : j < l.length), j = k → ¬ Pl.Clash l[j] x) := Lib.hid (fun q j hj e => by subst e; exact q)
      obtain ⟨X, hXe⟩ : ∃ X, l[k] = X := ⟨_, rfl⟩
      have hncX : Pl.Clash l[k] x ↔ (X.ix = pix ∨ (X.tx.frm = pf ∧ X.tx.nonce = pn)) := by rw [hXe]; unfold Pl.Clash; rw [HPi.out, HPf.out, HPn.out]
      have HNCX := Lib.hid hncX
      rw [hXe] at hX HR
      have HX76 := Lib.hid (Wt.cells_len hX)
      have HX1 := Lib.hid (Wt.cells_one hX)
      have HBx := Lib.hid (fun W b (hr : Row W b 38 X.cells) => WBox.row hX hr)
      generalize X.cells = CX at *
      generalize X.tx.frm = nf at *
      generalize X.tx.nonce = nn at *
      generalize X.ix = nix at *
      clear hat0 hX hXe hncX
      by_cases q1 : nix = pix
      · have b1 : (nix == pix) = true := by simpa using q1
        have hcl := HNCX.out.2 (.inl q1)
        clear q1
        exact absurd hcl (HNC.out k hkl0)
      have b1 : (nix == pix) = false := by simpa using q1
      by_cases q2 : nf = pf
      · have b2 : (nf == pf) = true := by simpa using q2
        by_cases q3 : nn = pn
        · have b3 : (nn == pn) = true := by simpa using q3
          have hcl := HNCX.out.2 (.inr ⟨q2, q3⟩)
          clear q1 q2 q3
          exact absurd hcl (HNC.out k hkl0)
        · have b3 : (nn == pn) = false := by simpa using q3
          have HNk : Hid (¬ Pl.Clash l[k] x) := Lib.hid (fun e => by
            rcases HNCX.out.1 e with e | e
            · exact q1 e
            · exact q3 e.2)
          clear q1 q2 q3
          go_wp2_with (first
            | ((with_reducible show wpList _ _ _ (⟨_, .load 38 (.tmp 28), _, _, _, _⟩ :: _) _ _); refine wpList_load_tx rfl 38 (.tmp 28) rfl g (k * 76) (rfl) CX _ (HR.out) Try.underlying38 rfl (by rw [wait_info, HX76.out]) ?_)
            | (
               with_reducible show wpList _ _ _ (⟨_, .store 38 (.tmp 8) _, _, _, _, _⟩ :: _) _ _
               refine wpList_store_at rfl 38 (.tmp 8) (.tmp 29) rfl wr.heap.size 0 CX ZT _ rfl rfl (Row.new wr 38 ZT) (by have := HZ76.out; have := HX76.out; omega) (by rw [wait_info, HX76.out]) HX1.out ?_
               intro w4 hr hg
               rw [splice_all (HX76.out.trans HZ76.out.symm)] at hr
               have hbx := below_own ((Below.refl wr.heap.size wr).alloc (Nat.le_refl _) (.cells ZT.toArray 38)) hg (fun k hk => by cases hk; exact Nat.le_refl _)
               have HU4 := Lib.hid (HU.out.below hbx)
               obtain ⟨d0, d1, _, d72, _⟩ := HBx.out _ _ hr
               obtain ⟨p0, p1, _, p72, _⟩ := HBp.out _ _ (HU4.out.row (gp, C) (by simp))
               clear hbx
               clear hr hg))
          exact ⟨⟨k + 1, by omega, by go_num, fun j hj hjk => (by
            rcases Nat.lt_or_ge j k with q | q
            · exact HNo.out j hj q
            · have : j = k := by omega
              subst this
              exact HNk.out), HU4.out⟩, by simp [intOf]; omega⟩
      · have b2 : (nf == pf) = false := by simpa using q2
        have HNk : Hid (¬ Pl.Clash l[k] x) := Lib.hid (fun e => by
          rcases HNCX.out.1 e with e | e
          · exact q1 e
          · exact q2 e.1)
        clear q1 q2
        go_wp2_with (first
          | ((with_reducible show wpList _ _ _ (⟨_, .load 38 (.tmp 28), _, _, _, _⟩ :: _) _ _); refine wpList_load_tx rfl 38 (.tmp 28) rfl g (k * 76) (rfl) CX _ (HR.out) Try.underlying38 rfl (by rw [wait_info, HX76.out]) ?_)
          | (
             with_reducible show wpList _ _ _ (⟨_, .store 38 (.tmp 8) _, _, _, _, _⟩ :: _) _ _
             refine wpList_store_at rfl 38 (.tmp 8) (.tmp 29) rfl wr.heap.size 0 CX ZT _ rfl rfl (Row.new wr 38 ZT) (by have := HZ76.out; have := HX76.out; omega) (by rw [wait_info, HX76.out]) HX1.out ?_
             intro w4 hr hg
             rw [splice_all (HX76.out.trans HZ76.out.symm)] at hr
             have hbx := below_own ((Below.refl wr.heap.size wr).alloc (Nat.le_refl _) (.cells ZT.toArray 38)) hg (fun k hk => by cases hk; exact Nat.le_refl _)
             have HU4 := Lib.hid (HU.out.below hbx)
             obtain ⟨d0, d1, _, d72, _⟩ := HBx.out _ _ hr
             obtain ⟨p0, p1, _, p72, _⟩ := HBp.out _ _ (HU4.out.row (gp, C) (by simp))
             clear hbx
             clear hr hg))
        exact ⟨⟨k + 1, by omega, by go_num, fun j hj hjk => (by
          rcases Nat.lt_or_ge j k with q | q
          · exact HNo.out j hj q
          · have : j = k := by omega
            subst this
            exact HNk.out), HU4.out⟩, by simp [intOf]; omega⟩
    · have hki : ¬ (k : Int) < (n : Int) := by omega
      have hkn' : k = n := by omega
      clear hkn
      have HU5 := Lib.hid (HU.out.alloc ZT)
      clear hkn'
      go_wp2_with fail
      have c0 := HU5.out.pat.c0
      have c1 := HU5.out.pat.c1
      have dfi : decide (size ≤ n) = true := HFi.out
      go_quiet (fail)
      clear c0 c1
      replace HU5 := Lib.hid (HU5.out.below (below_drewN' (Below.refl _ _) nq))
      have HN9 : Hid (wr.heap.size ≠ g4 ∧ wr.heap.size ≠ gp) := Lib.hid ⟨fun e => by have := PS.lt_row HU.out (x := (g4, ZT)) (by simp); simp only at this; omega, fun e => by have := PS.lt_row HU.out (x := (gp, C)) (by simp); simp only at this; omega⟩
      clear HU
      generalize wr.heap.size = g9 at *
      generalize World.drewN _ nq = w6 at *
      have hn9 : g9 ≠ g4 ∧ g9 ≠ gp := HN9.out
      have PO := Lib.hid (PAt.poorest HU5.out.pat)
      rw [HPo.out] at PO
      go_wp2_with fail
      refine PO.out.mono ?_
      rintro _ w7 ⟨rfl, hb7⟩
      have HU7 := Lib.hid (HU5.out.below hb7)
      clear hb7 PO
      obtain ⟨g, hge, hg, hat0⟩ := HA.out (by intro e; have := HPp.out; rw [e] at this; simp at this)
      subst hge
      have hpl := HPp.out
      have HRp := Lib.hid (HU7.out.pat.own.at (Wt.lens HW.out) pp hpl)
      have cf : w7.cell? ⟨g, pp * 76 + 2, none⟩ = some (.int .i64 qf) := by
        have := (WBox.of (HW.out _ (List.getElem_mem hpl)) HRp.out).2.2.1
        rw [HQf.out] at this
        exact this
      have cx := (HBp.out _ _ (HU7.out.row (gp, C) (by simp))).2.2.1
      have c1 := HU7.out.pat.c1
      have hpi : (pp : Int) < (n : Int) := by have := HN.out; omega
      have hp0 : (0 : Int) ≤ (pp : Int) := by omega
      have dfe := HFe.out
      clear hat0 hg
      go_wp2_with fail
      go_quiet (fail)
      clear cf cx c1 dfe
      have HU8 := Lib.hid (HU7.out.below (below_drewN' (Below.refl _ _) nq))
      generalize World.drewN _ nq = w8 at *
      go_wp2_with (first
        | ((with_reducible show wpList _ _ _ (⟨_, .build 38 _, _, _, _, _⟩ :: _) _ _); refine wpList_buildL rfl 38 [] rfl (some 81) rfl _ rfl ZT.toArray HBt.out ?_)
        | (
           with_reducible show wpList _ _ _ (⟨_, .store 38 (.tmp 4) _, _, _, _, _⟩ :: _) _ _
           refine wpList_store_at rfl 38 (.tmp 4) (.tmp 81) rfl g4 0 ZT ZT _ rfl rfl (HU8.out.row (g4, ZT) (by simp)) (by have := HZ76.out; have := HZ76.out; omega) (by rw [wait_info, HZ76.out]) HZ1.out ?_
           intro w9 hr hg
           rw [splice_all (HZ76.out.trans HZ76.out.symm)] at hr
           have HR4 := Lib.hid hr
           have HU9 := Lib.hid (HU8.out.write (rows' := [(g4, ZT)]) hg hr ⟨ZT, by simp⟩ (by intro x hx; simp only [List.mem_cons, List.not_mem_nil, or_false] at hx; exact .inl hx))
           clear hr hg))
      refine bodyPost_ret (results_row3 rfl _ _ g4 38 ZT _ rfl HR4.out Try.underlying38 rfl (by rw [wait_info]; simp [HZ76.out]) _ _ rfl rfl) rfl ⟨rfl, HU9.out.to⟩
set_option maxHeartbeats 6400000 in
theorem PAt.put_take {w : World} {base B size : Nat} {v : Value} {l : List Wt} (h : PAt 63 w base B v size l) (x : Wt) (hx : x.Ok) (hM : Pl.May x) (hcl : ¬ Pl.clash l x) (hf : Pl.full size l = true) (hp : ¬ x.tx.fee ≤ (Pl.g l (Pl.poor l l.length)).tx.fee) (hI : InsOk (l.eraseIdx (Pl.poor l l.length)) x) :
    Calls Try.prog 10 #[.pointer (some ⟨B, 0, none⟩), .agg x.cells.toArray] w fun e w' => e = .returned (.tuple #[.agg (Pl.putG size l x).cells.toArray, .bool (Pl.putF size l x), .int .i64 (Pl.putE size l x)]) ∧ PTo 63 w w' base B v size (Pl.put size l x) := by
  obtain ⟨e1, e2, e3, e4⟩ := Pl.put_take (size := size) hM hcl hf hp
  rw [e1, e2, e3, e4]
  clear e1 e2 e3 e4
  obtain ⟨A, c, hvA, _, _⟩ := h.own.form
  have HW := Lib.hid h.wok
  have HX := Lib.hid hx
  have hn256 := h.n256
  have HU0 := (h.putAt (Below.refl _ _)).alloc x.cells
  have HU1 := Lib.hid (HU0.alloc Wt.none.cells)
  rw [show (w.alloc (.cells x.cells.toArray 38)).heap.size = w.heap.size + 1 by simp] at HU1
  have MB := Lib.hid (fun W => mayBe_any x hx W)
  have HA := Lib.hid (hvA ▸ h.own |>.lsAt (Wt.lens h.wok))
  have HC76 := Lib.hid (Wt.cells_len hx)
  have HC1 := Lib.hid (Wt.cells_one hx)
  have HZ76 := Lib.hid (Wt.cells_len Wt.none_ok)
  have HZ1 := Lib.hid (Wt.cells_one Wt.none_ok)
  have HBt : Hid (Try.prog.built 38 [] = some Wt.none.cells.toArray) := Lib.hid wait_built0
  have hzv := wait_zv
  have HBp := Lib.hid (fun W b (hr : Row W b 38 x.cells) => WBox.row hx hr)
  have hMk := Lib.hid hM
  have MB := Lib.hid (fun W => by have := MB.out W; rw [decide_eq_true hM] at this; exact this)
  clear hM
  have HNC : Hid (∀ k (hk : k < l.length), ¬ Pl.Clash l[k] x) := Lib.hid (fun k hk q => hcl ⟨_, List.getElem_mem hk, q⟩)
  have HFi0 : Hid (size ≤ l.length) := Lib.hid (by unfold Pl.full at hf; simpa using hf)
  have hppl : Pl.poor l l.length < l.length := Pl.poor_lt l _ (by have := h.size.1; have := HFi0.out; omega)
  have HGe := Lib.hid (@Pl.g_eq l _ hppl)
  obtain ⟨pp, hpp⟩ : ∃ pp, Pl.poor l l.length = pp := ⟨_, rfl⟩
  have HPo := Lib.hid hpp
  have HPp : Hid (pp < l.length) := Lib.hid (hpp ▸ hppl)
  obtain ⟨qf, hqf⟩ : ∃ qf, (Pl.g l pp).tx.fee = qf := ⟨_, rfl⟩
  have HQf : Hid ((l[pp]'HPp.out).tx.fee = qf) := Lib.hid (by rw [← hqf, Pl.g_eq HPp.out])
  rw [hpp, hqf] at hp
  have HFe0 := Lib.hid hp
  have HOk0 : Pl.Ok size (Pl.ins (l.eraseIdx pp) x) := (h.ok.sub (List.eraseIdx_sublist l pp)).ins hx hMk.out (by rw [List.length_eraseIdx, if_pos HPp.out]; have := h.ok.len; have := h.size.1; have := HPp.out; omega) (fun q => hcl (Pl.clash_sub (List.eraseIdx_sublist l pp) q))
  rw [hpp] at hI ⊢
  obtain ⟨L2, hL2⟩ : ∃ L2, l.eraseIdx pp = L2 := ⟨_, rfl⟩
  rw [hL2] at hI HOk0 ⊢
  have HI0 := Lib.hid hI
  have HOk := Lib.hid HOk0
  have HL2 := Lib.hid hL2
  obtain ⟨C9, hC9⟩ : ∃ C9, (Pl.g l pp).cells = C9 := ⟨_, rfl⟩
  rw [hC9]
  have HGn : Hid (∀ (q : pp < l.length), (l[pp]'q).cells = C9) := Lib.hid (fun q => by rw [← hC9, Pl.g_eq q])
  clear hp hpp hqf hppl HGe hcl hf hI HOk0 hL2 hC9
  obtain ⟨pix, hpix⟩ : ∃ z, x.ix = z := ⟨_, rfl⟩
  obtain ⟨pf, hpf⟩ : ∃ z, x.tx.frm = z := ⟨_, rfl⟩
  obtain ⟨pn, hpn⟩ : ∃ z, x.tx.nonce = z := ⟨_, rfl⟩
  obtain ⟨pe, hpe⟩ : ∃ z, x.tx.fee = z := ⟨_, rfl⟩
  rw [hpix, hpf, hpn, hpe] at HBp
  have HPi := Lib.hid hpix
  have HPf := Lib.hid hpf
  have HPn := Lib.hid hpn
  have HPe := Lib.hid hpe
  clear HU0 hpix hpf hpn hpe
  obtain ⟨C, hC⟩ : ∃ C, x.cells = C := ⟨_, rfl⟩
  rw [hC] at HC76 HC1 HU1 MB HBp ⊢
  have HCx := Lib.hid hC
  obtain ⟨ZT, hZT⟩ : ∃ ZT, Wt.none.cells = ZT := ⟨_, rfl⟩
  rw [hZT] at HZ76 HZ1 HBt hzv HU1
  skip
  have HZT := Lib.hid hZT
  obtain ⟨n, hn⟩ : ∃ n, n = l.length := ⟨_, rfl⟩
  rw [← hn] at hn256 hvA
  have HN := Lib.hid hn
  obtain ⟨gp, hgp⟩ : ∃ gp, w.heap.size = gp := ⟨_, rfl⟩
  obtain ⟨g4, hg4⟩ : ∃ g4, w.heap.size + 1 = g4 := ⟨_, rfl⟩
  rw [hg4, hgp] at HU1
  have Hgp := Lib.hid hgp
  have Hg4 := Lib.hid hg4
  rw [hgp] at hg4
  have hne4 : g4 ≠ gp := by omega
  have HNE := Lib.hid hne4
  subst hvA
  have c1 := HU1.out.pat.c1
  clear hn h hx hC hZT hne4
  have HFi : Hid (decide (size ≤ n) = true) := Lib.hid (decide_eq_true (by have := HFi0.out; have := HN.out; omega))
  have HFe : Hid (decide (pe ≤ qf) = false) := Lib.hid (decide_eq_false (by have := HFe0.out; rw [HPe.out] at this; exact this))
  go_enter Try.func10, Try.ntmps10
  go_wp2_with (first
    | ((with_reducible show wpList _ _ _ (⟨_, .load 38 (.tmp 3), _, _, _, _⟩ :: _) _ _); refine wpList_load_tx rfl 38 (.tmp 3) rfl gp 0 (rfl) C _ (row_range (HU1.out.row (gp, C) (by simp))) Try.underlying38 rfl (by rw [wait_info, HC76.out]) ?_))
  refine (MB.out _).mono ?_
  rintro _ w2 ⟨rfl, hb2⟩
  have HU2 := Lib.hid (HU1.out.below hb2)
  clear hb2 c1
  have c1 := HU2.out.pat.c1
  go_wp2_with fail
  clear c1
  go_loopw [26] (fun si wr => ∃ k : Nat, k ≤ n ∧ si = .int .i64 k ∧ (∀ j (hj : j < l.length), j < k → ¬ Pl.Clash l[j] x) ∧ PutAt 63 w wr base B (.slice A n c) (.slice A n c) size l [(g4, ZT), (gp, C)]) (fun i _ => n - (intOf i).toNat)
  case atStart => exact ⟨0, Nat.zero_le _, rfl, fun j hj h => by omega, HU2.out⟩
  case round =>
    obtain ⟨k, hk, rfl, hno, hu⟩ := hrel
    have HU := Lib.hid hu
    have HNo := Lib.hid hno
    clear hu hno HU2
    by_cases hkn : k < n
    · have hki : (k : Int) < (n : Int) := by omega
      have hk0 : (0 : Int) ≤ (k : Int) := by omega
      have hkl0 : k < l.length := by have := HN.out; omega
      obtain ⟨g, hge, hg, hat0⟩ := HA.out (by intro e; rw [e] at hkl0; simp at hkl0)
      subst hge
      have hX := HW.out _ (List.getElem_mem hkl0)
      have HR : Hid (wr.rangeAt g (k * 76) l[k].cells) := Lib.hid ((HU.out.pat.own.at (Wt.lens HW.out) k hkl0))
      have HXe : Hid (∀ (q : ¬ Pl.Clash l[k] x), ∀ j (hj : j < l.length), j = k → ¬ Pl.Clash l[j] x) := Lib.hid (fun q j hj e => by subst e; exact q)
      obtain ⟨X, hXe⟩ : ∃ X, l[k] = X := ⟨_, rfl⟩
      have hncX : Pl.Clash l[k] x ↔ (X.ix = pix ∨ (X.tx.frm = pf ∧ X.tx.nonce = pn)) := by rw [hXe]; unfold Pl.Clash; rw [HPi.out, HPf.out, HPn.out]
      have HNCX := Lib.hid hncX
      rw [hXe] at hX HR
      have HX76 := Lib.hid (Wt.cells_len hX)
      have HX1 := Lib.hid (Wt.cells_one hX)
      have HBx := Lib.hid (fun W b (hr : Row W b 38 X.cells) => WBox.row hX hr)
      generalize X.cells = CX at *
      generalize X.tx.frm = nf at *
      generalize X.tx.nonce = nn at *
      generalize X.ix = nix at *
      clear hat0 hX hXe hncX
      by_cases q1 : nix = pix
      · have b1 : (nix == pix) = true := by simpa using q1
        have hcl := HNCX.out.2 (.inl q1)
        clear q1
        exact absurd hcl (HNC.out k hkl0)
      have b1 : (nix == pix) = false := by simpa using q1
      by_cases q2 : nf = pf
      · have b2 : (nf == pf) = true := by simpa using q2
        by_cases q3 : nn = pn
        · have b3 : (nn == pn) = true := by simpa using q3
          have hcl := HNCX.out.2 (.inr ⟨q2, q3⟩)
          clear q1 q2 q3
          exact absurd hcl (HNC.out k hkl0)
        · have b3 : (nn == pn) = false := by simpa using q3
          have HNk : Hid (¬ Pl.Clash l[k] x) := Lib.hid (fun e => by
            rcases HNCX.out.1 e with e | e
            · exact q1 e
            · exact q3 e.2)
          clear q1 q2 q3
          go_wp2_with (first
            | ((with_reducible show wpList _ _ _ (⟨_, .load 38 (.tmp 28), _, _, _, _⟩ :: _) _ _); refine wpList_load_tx rfl 38 (.tmp 28) rfl g (k * 76) (rfl) CX _ (HR.out) Try.underlying38 rfl (by rw [wait_info, HX76.out]) ?_)
            | (
               with_reducible show wpList _ _ _ (⟨_, .store 38 (.tmp 8) _, _, _, _, _⟩ :: _) _ _
               refine wpList_store_at rfl 38 (.tmp 8) (.tmp 29) rfl wr.heap.size 0 CX ZT _ rfl rfl (Row.new wr 38 ZT) (by have := HZ76.out; have := HX76.out; omega) (by rw [wait_info, HX76.out]) HX1.out ?_
               intro w4 hr hg
               rw [splice_all (HX76.out.trans HZ76.out.symm)] at hr
               have hbx := below_own ((Below.refl wr.heap.size wr).alloc (Nat.le_refl _) (.cells ZT.toArray 38)) hg (fun k hk => by cases hk; exact Nat.le_refl _)
               have HU4 := Lib.hid (HU.out.below hbx)
               obtain ⟨d0, d1, _, d72, _⟩ := HBx.out _ _ hr
               obtain ⟨p0, p1, _, p72, _⟩ := HBp.out _ _ (HU4.out.row (gp, C) (by simp))
               clear hbx
               clear hr hg))
          exact ⟨⟨k + 1, by omega, by go_num, fun j hj hjk => (by
            rcases Nat.lt_or_ge j k with q | q
            · exact HNo.out j hj q
            · have : j = k := by omega
              subst this
              exact HNk.out), HU4.out⟩, by simp [intOf]; omega⟩
      · have b2 : (nf == pf) = false := by simpa using q2
        have HNk : Hid (¬ Pl.Clash l[k] x) := Lib.hid (fun e => by
          rcases HNCX.out.1 e with e | e
          · exact q1 e
          · exact q2 e.1)
        clear q1 q2
        go_wp2_with (first
          | ((with_reducible show wpList _ _ _ (⟨_, .load 38 (.tmp 28), _, _, _, _⟩ :: _) _ _); refine wpList_load_tx rfl 38 (.tmp 28) rfl g (k * 76) (rfl) CX _ (HR.out) Try.underlying38 rfl (by rw [wait_info, HX76.out]) ?_)
          | (
             with_reducible show wpList _ _ _ (⟨_, .store 38 (.tmp 8) _, _, _, _, _⟩ :: _) _ _
             refine wpList_store_at rfl 38 (.tmp 8) (.tmp 29) rfl wr.heap.size 0 CX ZT _ rfl rfl (Row.new wr 38 ZT) (by have := HZ76.out; have := HX76.out; omega) (by rw [wait_info, HX76.out]) HX1.out ?_
             intro w4 hr hg
             rw [splice_all (HX76.out.trans HZ76.out.symm)] at hr
             have hbx := below_own ((Below.refl wr.heap.size wr).alloc (Nat.le_refl _) (.cells ZT.toArray 38)) hg (fun k hk => by cases hk; exact Nat.le_refl _)
             have HU4 := Lib.hid (HU.out.below hbx)
             obtain ⟨d0, d1, _, d72, _⟩ := HBx.out _ _ hr
             obtain ⟨p0, p1, _, p72, _⟩ := HBp.out _ _ (HU4.out.row (gp, C) (by simp))
             clear hbx
             clear hr hg))
        exact ⟨⟨k + 1, by omega, by go_num, fun j hj hjk => (by
          rcases Nat.lt_or_ge j k with q | q
          · exact HNo.out j hj q
          · have : j = k := by omega
            subst this
            exact HNk.out), HU4.out⟩, by simp [intOf]; omega⟩
    · have hki : ¬ (k : Int) < (n : Int) := by omega
      have hkn' : k = n := by omega
      clear hkn
      have HU5 := Lib.hid (HU.out.alloc ZT)
      clear hkn'
      go_wp2_with fail
      have c0 := HU5.out.pat.c0
      have c1 := HU5.out.pat.c1
      have dfi : decide (size ≤ n) = true := HFi.out
      go_quiet (fail)
      clear c0 c1
      replace HU5 := Lib.hid (HU5.out.below (below_drewN' (Below.refl _ _) nq))
      have HN9 : Hid (wr.heap.size ≠ g4 ∧ wr.heap.size ≠ gp) := Lib.hid ⟨fun e => by have := PS.lt_row HU.out (x := (g4, ZT)) (by simp); simp only at this; omega, fun e => by have := PS.lt_row HU.out (x := (gp, C)) (by simp); simp only at this; omega⟩
      clear HU
      generalize wr.heap.size = g9 at *
      generalize World.drewN _ nq = w6 at *
      have hn9 : g9 ≠ g4 ∧ g9 ≠ gp := HN9.out
      have PO := Lib.hid (PAt.poorest HU5.out.pat)
      rw [HPo.out] at PO
      go_wp2_with fail
      refine PO.out.mono ?_
      rintro _ w7 ⟨rfl, hb7⟩
      have HU7 := Lib.hid (HU5.out.below hb7)
      clear hb7 PO
      obtain ⟨g, hge, hg, hat0⟩ := HA.out (by intro e; have := HPp.out; rw [e] at this; simp at this)
      subst hge
      have hpl := HPp.out
      have HRp := Lib.hid (HU7.out.pat.own.at (Wt.lens HW.out) pp hpl)
      have cf : w7.cell? ⟨g, pp * 76 + 2, none⟩ = some (.int .i64 qf) := by
        have := (WBox.of (HW.out _ (List.getElem_mem hpl)) HRp.out).2.2.1
        rw [HQf.out] at this
        exact this
      have cx := (HBp.out _ _ (HU7.out.row (gp, C) (by simp))).2.2.1
      have c1 := HU7.out.pat.c1
      have hpi : (pp : Int) < (n : Int) := by have := HN.out; omega
      have hp0 : (0 : Int) ≤ (pp : Int) := by omega
      have dfe := HFe.out
      clear hat0 hg
      go_wp2_with fail
      go_quiet (fail)
      clear cf cx c1 dfe
      have HU8 := Lib.hid (HU7.out.below (below_drewN' (Below.refl _ _) nq))
      generalize World.drewN _ nq = w8 at *
      have hpl := HPp.out
      have TKE := HU8.out.pat.take pp hpl
      rw [HL2.out] at TKE
      have hgn := HGn.out hpl
      have h9 := HW.out _ (List.getElem_mem hpl)
      have H976 := Lib.hid (Wt.cells_len h9)
      have H91 := Lib.hid (Wt.cells_one h9)
      rw [hgn] at TKE H976 H91
      have TK := Lib.hid TKE
      clear TKE hgn h9
      go_wp2_with fail
      refine TK.out.mono ?_
      rintro _ w11 ⟨rfl, hpt⟩
      obtain ⟨v3, hU⟩ := HU8.out.step hpt
      have hn2' : Pl.Ok size L2 := hU.pat.ok
      obtain ⟨A2, c2, hv2, _, _⟩ := hU.pat.own.form
      obtain ⟨n2, hn2⟩ : ∃ n2, L2.length = n2 := ⟨_, rfl⟩
      rw [hn2] at hv2
      subst hv2
      have HU9a := Lib.hid hU
      have HN2 := Lib.hid hn2
      clear hU hpt hn2 hn2' TK
      have hI := HI0.out
      unfold InsOk at hI
      obtain ⟨p2, hp2⟩ : ∃ p2, Pl.pos L2 pix = p2 := ⟨_, rfl⟩
      rw [HCx.out, HPi.out, hp2, HN2.out] at hI
      have HP2 := Lib.hid hp2
      have HIns := Lib.hid hI
      clear hI hp2
      go_wp2_with (first
        | (
           with_reducible show wpList _ _ _ (⟨_, .store 38 (.tmp 9) _, _, _, _, _⟩ :: _) _ _
           refine wpList_store_at rfl 38 (.tmp 9) (.tmp 84) rfl g9 0 C9 ZT _ rfl rfl (HU9a.out.row (g9, ZT) (by simp)) (by have := HZ76.out; have := H976.out; omega) (by rw [wait_info, H976.out]) H91.out ?_
           intro w12 hr hg
           rw [splice_all (H976.out.trans HZ76.out.symm)] at hr
           have HU6 := Lib.hid (HU9a.out.write (rows' := [(g9, C9), (g4, ZT), (gp, C)]) hg hr ⟨ZT, by simp⟩ (by
             intro x hx
             simp only [List.mem_cons, List.not_mem_nil, or_false] at hx
             rcases hx with rfl | rfl | rfl
             · exact .inl rfl
             · exact .inr ⟨by simp, fun e => hn9.1 e.symm⟩
             · exact .inr ⟨by simp, fun e => hn9.2 e.symm⟩))
           have p72 := (HBp.out _ _ (HU6.out.row (gp, C) (by simp))).2.2.2.1
           clear hr hg))
      have FI := Lib.hid (PAt.find _ pix HU6.out.pat)
      obtain ⟨bf, hbf⟩ : ∃ bf, decide (∃ y ∈ L2, y.ix = pix) = bf := ⟨_, rfl⟩
      rw [hbf, HP2.out] at FI
      clear hbf
      refine FI.out.mono ?_
      rintro _ w17 ⟨rfl, hb17⟩
      have HU7 := Lib.hid (HU6.out.below hb17)
      clear hb17 p72 FI
      go_wp2_with fail
      have hT := HU7.out.below (Below.refl _ _).drew
      refine wp_region_noPanic ?_
      refine wp_region_held_drew (S := fun w' => Row w' gp 38 C) (by kernel_rfl) (HU7.out.row (gp, C) (by simp)) (fun hHeld => ?_)
      generalize w17.drew = wq at *
      refine wpAnyH_take (i := 0) (v := .pointer (some ⟨B, 0, none⟩)) rfl (by kernel_rfl) (by kernel_rfl) (by kernel_rfl) (fun _ _ _ h => h) (Or.inl ⟨by rfl, fun w' hSw => by go_simp⟩) hHeld ?_
      try simp only [Act.put, List.getElem_toArray, List.getElem_cons_succ, List.getElem_cons_zero, List.setIfInBounds_toArray, List.set_cons_zero, List.set_cons_succ]
      refine wpAnyH_take (i := 1) (v := .pointer (some ⟨B, 0, none⟩)) rfl (by kernel_rfl) (by kernel_rfl) (by kernel_rfl) (fun _ _ _ h => h) (Or.inl ⟨by rfl, fun w' hSw => by go_simp⟩) hHeld ?_
      try simp only [Act.put, List.getElem_toArray, List.getElem_cons_succ, List.getElem_cons_zero, List.setIfInBounds_toArray, List.set_cons_zero, List.set_cons_succ]
      refine wpAnyH_take (i := 2) (v := .pointer (some ⟨B, 0, none⟩)) rfl (by kernel_rfl) (by kernel_rfl) (by kernel_rfl) (fun _ _ _ h => h) (Or.inl ⟨by rfl, fun w' hSw => by go_simp⟩) hHeld ?_
      try simp only [Act.put, List.getElem_toArray, List.getElem_cons_succ, List.getElem_cons_zero, List.setIfInBounds_toArray, List.set_cons_zero, List.set_cons_succ]
      refine wpAnyH_take (i := 3) (v := .pointer (some ⟨B, 1, none⟩)) rfl (by kernel_rfl) (by kernel_rfl) (by kernel_rfl) (fun _ _ _ h => h) (Or.inl ⟨by rfl, fun w' hSw => by go_simp⟩) hHeld ?_
      try simp only [Act.put, List.getElem_toArray, List.getElem_cons_succ, List.getElem_cons_zero, List.setIfInBounds_toArray, List.set_cons_zero, List.set_cons_succ]
      refine wpAnyH_take (i := 5) (v := .int .i64 p2) rfl (by kernel_rfl) (by kernel_rfl) (by kernel_rfl) (fun _ _ _ h => h) (Or.inl ⟨by rfl, fun w' hSw => by go_simp⟩) hHeld ?_
      try simp only [Act.put, List.getElem_toArray, List.getElem_cons_succ, List.getElem_cons_zero, List.setIfInBounds_toArray, List.set_cons_zero, List.set_cons_succ]
      refine' wpAnyH_take (i := 6) (v := _) rfl (by kernel_rfl) (by kernel_rfl) (by kernel_rfl) (fun _ _ _ h => h) (yieldsIf_load_mid (by rfl) _ _ rfl gp 0 rfl C _ (fun w' hSw => row_range hSw) Try.underlying38 rfl (by rw [wait_info, HC76.out])) hHeld ?_
      try simp only [Act.put, List.getElem_toArray, List.getElem_cons_succ, List.getElem_cons_zero, List.setIfInBounds_toArray, List.set_cons_zero, List.set_cons_succ]
      refine wpAnyH_ready (rs := [4, 7]) (by kernel_rfl) (by simp) (AllReadyH.cons rfl (fun K1 hK1 => ?_) (AllReadyH.cons rfl (fun K1 hK1 => ?_) AllReadyH.nil))
      · skip
        try simp only [Act.put, List.getElem_toArray, List.getElem_cons_succ, List.getElem_cons_zero, List.setIfInBounds_toArray, List.set_cons_zero, List.set_cons_succ]
        rw [if_pos (by rfl)]
        have hcx := hT.pat.c1
        go_simp
        refine hK1.out _ _ (hHeld) (fun hHeld => ?_)
        clear hK1 K1
        try simp only [Act.put, List.getElem_toArray, List.getElem_cons_succ, List.getElem_cons_zero, List.setIfInBounds_toArray, List.set_cons_zero, List.set_cons_succ]
        clear hcx
        refine wpAnyH_ready (rs := [7]) (by kernel_rfl) (by simp) (AllReadyH.cons rfl (fun K1 hK1 => ?_) AllReadyH.nil)
        try simp only [Act.put, List.getElem_toArray, List.getElem_cons_succ, List.getElem_cons_zero, List.setIfInBounds_toArray, List.set_cons_zero, List.set_cons_succ]
        rw [if_pos (by rfl)]
        refine wp_buildWait (.tmp 98) rfl x HX.out C HCx.out rfl ?_
        replace hT := hT.alloc C
        have hHeld2 : Row (wq.alloc (.cells C.toArray 38)) gp 38 C := hT.row (gp, C) (by simp)
        have hgbo := (hT.out _ List.mem_cons_self).1
        generalize wq.alloc (.cells C.toArray 38) = wb1 at *
        generalize wq.heap.size = gb at *
        refine hK1.out _ _ (hHeld2) (fun hHeld => ?_)
        clear hK1 K1
        try simp only [Act.put, List.getElem_toArray, List.getElem_cons_succ, List.getElem_cons_zero, List.setIfInBounds_toArray, List.set_cons_zero, List.set_cons_succ]
        clear hHeld2
        refine wpAnyH_ready (rs := [8]) (by kernel_rfl) (by simp) (AllReadyH.cons rfl (fun K1 hK1 => ?_) AllReadyH.nil)
        try simp only [Act.put, List.getElem_toArray, List.getElem_cons_succ, List.getElem_cons_zero, List.setIfInBounds_toArray, List.set_cons_zero, List.set_cons_succ]
        go_simp
        refine Calls.mono (HIns.out wb1 base A2 c2 gb hT.pat.own (Nat.le_trans hT.pat.lo (Nat.le_of_lt hT.pat.row.lt)) hT.hd (fun e => hgbo (.inr e))) ?_
        rintro e wi2 ⟨u, rfl, ho, hc, hk⟩
        have hHeld2 := hc.row hHeld (fun e => (hT.out (gp, C) (by simp)).1 (.inr e))
        have hrB := hc.row hT.pat.row (fun e => hT.pat.own.ne_block hT.pat.row (by decide) e)
        obtain ⟨A3, c3, rfl, _, _⟩ := ho.form
        obtain ⟨n3, hn3⟩ : ∃ n3, (Pl.ins L2 x).length = n3 := ⟨_, rfl⟩
        rw [hn3] at ho hk ⊢
        clear hn3
        refine hK1.out _ _ (hHeld2) (fun hHeld => ?_)
        clear hK1 K1
        try simp only [Act.put, List.getElem_toArray, List.getElem_cons_succ, List.getElem_cons_zero, List.setIfInBounds_toArray, List.set_cons_zero, List.set_cons_succ]
        clear hHeld2
        refine wpAnyH_take (i := 9) (v := .pointer (some ⟨B, 0, none⟩)) rfl (by kernel_rfl) (by kernel_rfl) (by kernel_rfl) (fun _ _ _ h => h) (Or.inl ⟨by rfl, fun w' hSw => by go_simp⟩) hHeld ?_
        try simp only [Act.put, List.getElem_toArray, List.getElem_cons_succ, List.getElem_cons_zero, List.setIfInBounds_toArray, List.set_cons_zero, List.set_cons_succ]
        refine wpAnyH_take (i := 10) (v := .pointer (some ⟨B, 1, none⟩)) rfl (by kernel_rfl) (by kernel_rfl) (by kernel_rfl) (fun _ _ _ h => h) (Or.inl ⟨by rfl, fun w' hSw => by go_simp⟩) hHeld ?_
        try simp only [Act.put, List.getElem_toArray, List.getElem_cons_succ, List.getElem_cons_zero, List.setIfInBounds_toArray, List.set_cons_zero, List.set_cons_succ]
        refine wpAnyH_ready (rs := [11]) (by kernel_rfl) (by simp) (AllReadyH.cons rfl (fun K1 hK1 => ?_) AllReadyH.nil)
        try simp only [Act.put, List.getElem_toArray, List.getElem_cons_succ, List.getElem_cons_zero, List.setIfInBounds_toArray, List.set_cons_zero, List.set_cons_succ]
        rw [if_pos (by rfl)]
        refine wp_store_sl 30 (.tmp 102) (.tmp 100) rfl B 1 63 [.int .i64 size, .slice A2 n2 c2] A3 n3 c3 rfl rfl hrB (by simp) (by kernel_rfl) ?_
        intro wt3 hr4 hg4
        have hU := hT.inserted ho hc hk hrB hr4 hg4 HOk.out (by decide)
        have hHeld2 : Row wt3 gp 38 C := (by obtain ⟨_, hU⟩ := hU; exact hU.row (gp, C) (by simp))
        refine hK1.out _ _ (hHeld2) (fun hHeld => ?_)
        clear hK1 K1
        try simp only [Act.put, List.getElem_toArray, List.getElem_cons_succ, List.getElem_cons_zero, List.setIfInBounds_toArray, List.set_cons_zero, List.set_cons_succ]
        clear hHeld2
        refine wpAnyH_done (by kernel_rfl) ?_ _
        refine NoPanic.normal ?_
        clear hHeld hT
        obtain ⟨v9, hU⟩ := hU
        have HU8 := Lib.hid hU
        clear hU
        go_wp2_with (first
          | ((with_reducible show wpList _ _ _ (⟨_, .load 38 (.tmp 9), _, _, _, _⟩ :: _) _ _); refine wpList_load_tx rfl 38 (.tmp 9) rfl g9 0 (rfl) C9 _ (row_range (HU8.out.row (g9, C9) (by simp))) Try.underlying38 rfl (by rw [wait_info, H976.out]) ?_)
          | (
             with_reducible show wpList _ _ _ (⟨_, .store 38 (.tmp 4) _, _, _, _, _⟩ :: _) _ _
             refine wpList_store_at rfl 38 (.tmp 4) (.tmp 103) rfl g4 0 C9 ZT _ rfl rfl (HU8.out.row (g4, ZT) (by simp)) (by have := HZ76.out; have := H976.out; omega) (by rw [wait_info, H976.out]) H91.out ?_
             intro w9 hr hg
             rw [splice_all (H976.out.trans HZ76.out.symm)] at hr
             have HR4 := Lib.hid hr
             have HU9 := Lib.hid (HU8.out.write (rows' := [(g4, C9)]) hg hr ⟨ZT, by simp⟩ (by intro x hx; simp only [List.mem_cons, List.not_mem_nil, or_false] at hx; exact .inl hx))
             clear hr hg))
        refine bodyPost_ret (results_row3 rfl _ _ g4 38 C9 _ rfl HR4.out Try.underlying38 rfl (by rw [wait_info]; simp [H976.out]) _ _ rfl rfl) rfl ⟨rfl, HU9.out.to⟩
      · skip
        try simp only [Act.put, List.getElem_toArray, List.getElem_cons_succ, List.getElem_cons_zero, List.setIfInBounds_toArray, List.set_cons_zero, List.set_cons_succ]
        rw [if_pos (by rfl)]
        refine wp_buildWait (.tmp 98) rfl x HX.out C HCx.out rfl ?_
        replace hT := hT.alloc C
        have hHeld2 : Row (wq.alloc (.cells C.toArray 38)) gp 38 C := hT.row (gp, C) (by simp)
        have hgbo := (hT.out _ List.mem_cons_self).1
        generalize wq.alloc (.cells C.toArray 38) = wb4 at *
        generalize wq.heap.size = gb at *
        refine hK1.out _ _ (hHeld2) (fun hHeld => ?_)
        clear hK1 K1
        try simp only [Act.put, List.getElem_toArray, List.getElem_cons_succ, List.getElem_cons_zero, List.setIfInBounds_toArray, List.set_cons_zero, List.set_cons_succ]
        clear hHeld2
        refine wpAnyH_ready (rs := [4]) (by kernel_rfl) (by simp) (AllReadyH.cons rfl (fun K1 hK1 => ?_) AllReadyH.nil)
        try simp only [Act.put, List.getElem_toArray, List.getElem_cons_succ, List.getElem_cons_zero, List.setIfInBounds_toArray, List.set_cons_zero, List.set_cons_succ]
        rw [if_pos (by rfl)]
        have hcx := hT.pat.c1
        go_simp
        refine hK1.out _ _ (hHeld) (fun hHeld => ?_)
        clear hK1 K1
        try simp only [Act.put, List.getElem_toArray, List.getElem_cons_succ, List.getElem_cons_zero, List.setIfInBounds_toArray, List.set_cons_zero, List.set_cons_succ]
        clear hcx
        refine wpAnyH_ready (rs := [8]) (by kernel_rfl) (by simp) (AllReadyH.cons rfl (fun K1 hK1 => ?_) AllReadyH.nil)
        try simp only [Act.put, List.getElem_toArray, List.getElem_cons_succ, List.getElem_cons_zero, List.setIfInBounds_toArray, List.set_cons_zero, List.set_cons_succ]
        go_simp
        refine Calls.mono (HIns.out wb4 base A2 c2 gb hT.pat.own (Nat.le_trans hT.pat.lo (Nat.le_of_lt hT.pat.row.lt)) hT.hd (fun e => hgbo (.inr e))) ?_
        rintro e wi5 ⟨u, rfl, ho, hc, hk⟩
        have hHeld2 := hc.row hHeld (fun e => (hT.out (gp, C) (by simp)).1 (.inr e))
        have hrB := hc.row hT.pat.row (fun e => hT.pat.own.ne_block hT.pat.row (by decide) e)
        obtain ⟨A3, c3, rfl, _, _⟩ := ho.form
        obtain ⟨n3, hn3⟩ : ∃ n3, (Pl.ins L2 x).length = n3 := ⟨_, rfl⟩
        rw [hn3] at ho hk ⊢
        clear hn3
        refine hK1.out _ _ (hHeld2) (fun hHeld => ?_)
        clear hK1 K1
        try simp only [Act.put, List.getElem_toArray, List.getElem_cons_succ, List.getElem_cons_zero, List.setIfInBounds_toArray, List.set_cons_zero, List.set_cons_succ]
        clear hHeld2
        refine wpAnyH_take (i := 9) (v := .pointer (some ⟨B, 0, none⟩)) rfl (by kernel_rfl) (by kernel_rfl) (by kernel_rfl) (fun _ _ _ h => h) (Or.inl ⟨by rfl, fun w' hSw => by go_simp⟩) hHeld ?_
        try simp only [Act.put, List.getElem_toArray, List.getElem_cons_succ, List.getElem_cons_zero, List.setIfInBounds_toArray, List.set_cons_zero, List.set_cons_succ]
        refine wpAnyH_take (i := 10) (v := .pointer (some ⟨B, 1, none⟩)) rfl (by kernel_rfl) (by kernel_rfl) (by kernel_rfl) (fun _ _ _ h => h) (Or.inl ⟨by rfl, fun w' hSw => by go_simp⟩) hHeld ?_
        try simp only [Act.put, List.getElem_toArray, List.getElem_cons_succ, List.getElem_cons_zero, List.setIfInBounds_toArray, List.set_cons_zero, List.set_cons_succ]
        refine wpAnyH_ready (rs := [11]) (by kernel_rfl) (by simp) (AllReadyH.cons rfl (fun K1 hK1 => ?_) AllReadyH.nil)
        try simp only [Act.put, List.getElem_toArray, List.getElem_cons_succ, List.getElem_cons_zero, List.setIfInBounds_toArray, List.set_cons_zero, List.set_cons_succ]
        rw [if_pos (by rfl)]
        refine wp_store_sl 30 (.tmp 102) (.tmp 100) rfl B 1 63 [.int .i64 size, .slice A2 n2 c2] A3 n3 c3 rfl rfl hrB (by simp) (by kernel_rfl) ?_
        intro wt6 hr4 hg4
        have hU := hT.inserted ho hc hk hrB hr4 hg4 HOk.out (by decide)
        have hHeld2 : Row wt6 gp 38 C := (by obtain ⟨_, hU⟩ := hU; exact hU.row (gp, C) (by simp))
        refine hK1.out _ _ (hHeld2) (fun hHeld => ?_)
        clear hK1 K1
        try simp only [Act.put, List.getElem_toArray, List.getElem_cons_succ, List.getElem_cons_zero, List.setIfInBounds_toArray, List.set_cons_zero, List.set_cons_succ]
        clear hHeld2
        refine wpAnyH_done (by kernel_rfl) ?_ _
        refine NoPanic.normal ?_
        clear hHeld hT
        obtain ⟨v9, hU⟩ := hU
        have HU8 := Lib.hid hU
        clear hU
        go_wp2_with (first
          | ((with_reducible show wpList _ _ _ (⟨_, .load 38 (.tmp 9), _, _, _, _⟩ :: _) _ _); refine wpList_load_tx rfl 38 (.tmp 9) rfl g9 0 (rfl) C9 _ (row_range (HU8.out.row (g9, C9) (by simp))) Try.underlying38 rfl (by rw [wait_info, H976.out]) ?_)
          | (
             with_reducible show wpList _ _ _ (⟨_, .store 38 (.tmp 4) _, _, _, _, _⟩ :: _) _ _
             refine wpList_store_at rfl 38 (.tmp 4) (.tmp 103) rfl g4 0 C9 ZT _ rfl rfl (HU8.out.row (g4, ZT) (by simp)) (by have := HZ76.out; have := H976.out; omega) (by rw [wait_info, H976.out]) H91.out ?_
             intro w9 hr hg
             rw [splice_all (H976.out.trans HZ76.out.symm)] at hr
             have HR4 := Lib.hid hr
             have HU9 := Lib.hid (HU8.out.write (rows' := [(g4, C9)]) hg hr ⟨ZT, by simp⟩ (by intro x hx; simp only [List.mem_cons, List.not_mem_nil, or_false] at hx; exact .inl hx))
             clear hr hg))
        refine bodyPost_ret (results_row3 rfl _ _ g4 38 C9 _ rfl HR4.out Try.underlying38 rfl (by rw [wait_info]; simp [H976.out]) _ _ rfl rfl) rfl ⟨rfl, HU9.out.to⟩
end Go.Proofs.Ytoicpidiejhjeaa
