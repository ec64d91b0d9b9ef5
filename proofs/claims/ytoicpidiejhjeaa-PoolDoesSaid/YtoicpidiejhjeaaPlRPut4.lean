/- The reference's Put: the poorest goes. -/
import Derived.Test.YtoicpidiejhjeaaPlRPut3
namespace Go.Proofs.Ytoicpidiejhjeaa
open Go.RowKit
set_option linter.unusedVariables false
set_option linter.unusedSimpArgs false
set_option maxRecDepth 100000
set_option maxHeartbeats 6400000 in
theorem PAt.rput_take {w : World} {base B size : Nat} {v : Value} {l : List Wt} (h : PAt 32 w base B v size l) (x : Wt) (hx : x.Ok) (hm : Pl.May x) (hcl : ¬ Pl.clash l x) (hfull : size ≤ l.length) (hfee : ¬ x.tx.fee ≤ (Pl.g l (Pl.poor l l.length)).tx.fee) : Calls Try.prog 11 #[.pointer (some ⟨B, 0, none⟩), .agg x.cells.toArray] w fun e w' => e = .returned (.tuple #[.agg (Pl.g l (Pl.poor l l.length)).cells.toArray, .bool true, .int .i64 0]) ∧ PTo 32 w w' base B v size (Pl.ins (l.eraseIdx (Pl.poor l l.length)) x) := by
  have hq0 : Pl.poor l l.length < l.length := Pl.poor_lt l _ (by have := h.size.1; omega)
  obtain ⟨L, hL⟩ : ∃ L, l.eraseIdx (Pl.poor l l.length) = L := ⟨_, rfl⟩
  have hLok : Pl.Ok size L := hL ▸ h.ok.sub (List.eraseIdx_sublist l _)
  have hLs : L.length < size := by rw [← hL, List.length_eraseIdx, if_pos hq0]; have := h.ok.len; omega
  have hLc : ¬ Pl.clash L x := hL ▸ fun q => hcl (Pl.clash_sub (List.eraseIdx_sublist l _) q)
  have hWo : Pl.wout l (Pl.g l (Pl.poor l l.length)).ix = L := by
    rw [← hL, Pl.g_eq hq0]
    exact Pl.wout_erase h.ok.srt _ hq0
  rw [hL]
  have HLokP := Lib.hid hLok
  have HWo : Hid (∀ (A : Option Addr) (c : Nat) (W : World), SlW W W.heap.size A c l → Calls Try.prog 32 #[.slice A l.length c, .int .i64 (Pl.g l (Pl.poor l l.length)).ix] W fun e w' => ∃ u, e = .returned u ∧ OwnL w' W.heap.size 38 76 Wt.cells u L ∧ Below W.heap.size W w') := Lib.hid (fun A c W hin => by
    have := without_any A c l (Pl.g l (Pl.poor l l.length)).ix W hin (Nat.le_trans h.ok.len h.size.2)
    rwa [hWo] at this)
  have HPok : Hid ((Pl.g l (Pl.poor l l.length)).Ok) := Lib.hid (by rw [Pl.g_eq hq0]; exact h.wok _ (List.getElem_mem _))
  clear hL hWo hq0
  have HLok : Hid (∀ y ∈ L, y.Ok) := Lib.hid (fun y hy => (hLok.may y hy).1)
  have HOkI : Hid (Pl.Ok size (Pl.ins L x)) := Lib.hid (hLok.ins hx hm hLs hLc)
  have hne : ∀ y ∈ L, y.ix ≠ x.ix := fun y hy e => hLc ⟨y, hy, .inl e⟩
  have HHere := Lib.hid (Pl.insK_here hLok.srt hne)
  have HElse := Lib.hid (fun (k : Nat) (hk : k < L.length) hp => Pl.insK_else hLok.srt k hk hp hne)
  have HIK0 := Lib.hid (Pl.insK_zero L x)
  have HEnd := Lib.hid (Pl.insK_end L x)
  have HIl := Lib.hid (Pl.insK_len L x)
  have HPp := Lib.hid (Pl.pos_le L x.ix)
  have HL256 : Hid (L.length ≤ 256) := Lib.hid (Nat.le_trans hLok.len h.size.2)
  have HXo := Lib.hid hx
  obtain ⟨IK, hIK⟩ : ∃ IK, Pl.insK L x = IK := ⟨_, rfl⟩
  obtain ⟨p, hp⟩ : ∃ p, Pl.pos L x.ix = p := ⟨_, rfl⟩
  rw [hIK] at HIK0 HEnd HIl
  rw [hp] at HEnd HPp
  have HHere : Hid (∀ (k : Nat) (hk : k < L.length), ¬ p < k → x.ix < L[k].ix → p = k ∧ IK (k + 1) = IK k ++ [x] ++ [L[k]]) := Lib.hid (by have := HHere.out; rw [hp] at this; intro k hk h1 h2; rw [← hIK]; exact this k hk h1 h2)
  have HElse : Hid (∀ (k : Nat) (hk : k < L.length), (p < k ∨ ¬ x.ix < L[k].ix) → (p < k + 1 ↔ p < k) ∧ IK (k + 1) = IK k ++ [L[k]]) := Lib.hid (by have := HElse.out; rw [hp] at this; intro k hk h1; rw [← hIK]; exact this k hk h1)
  clear hIK hp hne hLok hLs hLc
  obtain ⟨A, c, rfl, _, _⟩ := h.own.form
  have hmm : x.tx.err = 0 ∧ Pl.small x.ix ∧ Pl.small x.till ∧ Pl.small x.at_ ∧ Pl.small x.place := hm
  have HA := Lib.hid (h.own.lsAt (Wt.lens h.wok))
  have HWk := Lib.hid h.wok
  have hn256 := h.n256
  have hcell1 : Hid (∀ W, Below w.heap.size w W → W.cell? ⟨B, 1, none⟩ = some (.slice A l.length c)) := Lib.hid (fun W hW => (h.below hW).c1)
  have HNc : Hid (∀ (j : Nat) (hj : j < l.length), ¬ Pl.Clash l[j] x) := Lib.hid (fun j hj q => hcl ⟨_, List.getElem_mem hj, q⟩)
  have hsz := h.size.1
  have HMy := Lib.hid h.ok.may
  have hcell0 : Hid (∀ W, Below w.heap.size w W → W.cell? ⟨B, 0, none⟩ = some (.int .i64 size)) := Lib.hid (fun W hW => (h.below hW).c0)
  have HPs : Hid (∀ k, Pl.poor l (k + 1) = if (Pl.g l k).tx.fee ≤ (Pl.g l (Pl.poor l k)).tx.fee then k else Pl.poor l k) := Lib.hid (fun k => rfl)
  have HPl : Hid (∀ k, 0 < k → k ≤ l.length → (Pl.g l (Pl.poor l k)).Ok) := Lib.hid (fun k h0 hk => by
    have := Pl.poor_lt l k h0
    rw [Pl.g_eq (by omega : Pl.poor l k < l.length)]
    exact (h.ok.may _ (List.getElem_mem _)).1)
  have HPg : Hid (∀ (k : Nat) (hk : k < l.length), Pl.g l k = l[k]) := Lib.hid (fun k hk => Pl.g_eq hk)
  have hCd : ∀ y : Wt, Pl.Clash y x ↔ (y.ix = x.ix ∨ (y.tx.frm = x.tx.frm ∧ y.tx.nonce = x.tx.nonce)) := fun y => Iff.rfl
  obtain ⟨n, hn⟩ : ∃ n, l.length = n := ⟨_, rfl⟩
  rw [hn] at hcell1 hn256 hfull hfee HWo HPok ⊢
  have HCGe : Hid ((Pl.g l (Pl.poor l n)).cells = (Pl.g l (Pl.poor l n)).cells) := Lib.hid rfl
  have dFl : decide ((n : Int) ≥ (size : Int)) = true := decide_eq_true (by omega)
  have dFl' : decide ((size : Int) ≤ (n : Int)) = true := decide_eq_true (by omega)
  have hn1 : 1 ≤ n := by omega
  have HFl : Hid (size ≤ n) := Lib.hid hfull
  have HN : Hid (n = l.length) := Lib.hid hn.symm
  have HH : Hid (PAt 32 w base B (.slice A n c) size l) := Lib.hid (by rw [← hn]; exact h)
  have HC76 := Lib.hid (Wt.cells_len hx)
  have HZ76 := Lib.hid (Wt.cells_len Wt.none_ok)
  have HZ1 := Lib.hid (Wt.cells_one Wt.none_ok)
  have hzv := wait_zv
  have HBt : Hid (Try.prog.built 38 [] = some Wt.none.cells.toArray) := Lib.hid wait_built0
  have CK : Hid (∀ W, Calls Try.prog 30 #[.agg x.tx.cells.toArray] W fun e w' => e = .returned (.int .i64 x.tx.err) ∧ Below W.heap.size W w') := Lib.hid (fun W => rcheck4_any x.tx hx.tx W)
  rw [hmm.1] at CK
  have WI := Lib.hid within18_any
  have d1 := decide_eq_true hmm.2.1
  have d2 := decide_eq_true hmm.2.2.1
  have d3 := decide_eq_true hmm.2.2.2.1
  have d4 := decide_eq_true hmm.2.2.2.2
  have hC0 := (Row.new w 38 x.cells).below ((Below.refl _ _).alloc (Nat.le_refl _) (.cells Wt.none.cells.toArray 38))
  have hR0 := Row.new (w.alloc (.cells x.cells.toArray 38)) 38 Wt.none.cells
  have HB0 := Lib.hid (((Below.refl w.heap.size w).alloc (Nat.le_refl _) (.cells x.cells.toArray 38)).alloc (by simp) (.cells Wt.none.cells.toArray 38))
  rw [show (w.alloc (.cells x.cells.toArray 38)).heap.size = w.heap.size + 1 by simp] at hR0
  have HRt := Lib.hid (Wt.tx_range hx (row_range hC0))
  have HT72 := Lib.hid (Tx.cells_length hx.tx)
  have HBx := Lib.hid (fun W g0 (hr : Row W g0 38 x.cells) => WBox.row hx hr)
  have HC0 := Lib.hid hC0
  have HR0 := Lib.hid hR0
  have HCd := Lib.hid hCd
  clear hC0 hR0 hmm hx hm hcl h hn hCd
  generalize hCg : x.cells = C at *
  have HCx := Lib.hid hCg
  clear hCg
  generalize x.tx.cells = CT at *
  obtain ⟨ZT, hZT⟩ : ∃ ZT, Wt.none.cells = ZT := ⟨_, rfl⟩
  rw [hZT] at HZ76 HZ1 hzv HBt HB0 HRt HC0 HR0
  generalize x.tx.frm = xf at *
  generalize x.tx.fee = xfee at *
  have HFee := Lib.hid hfee
  clear hfee hfull hsz
  generalize x.tx.nonce = xn at *
  generalize x.ix = xi at *
  generalize x.till = xt at *
  generalize x.at_ = xa at *
  generalize x.place = xp at *
  clear hZT
  obtain ⟨CG, hCG⟩ : ∃ CG, (Pl.g l (Pl.poor l n)).cells = CG := ⟨_, rfl⟩
  have HCGe := Lib.hid hCG
  have HG76 := Lib.hid (Wt.cells_len HPok.out)
  have HG1 := Lib.hid (Wt.cells_one HPok.out)
  rw [hCG] at HG76 HG1
  clear hCG
  go_enter Try.func11, Try.ntmps11
  go_wp2_with (first
    | ((with_reducible show wpList _ _ _ (⟨_, .load 36 (.tmp 15), _, _, _, _⟩ :: _) _ _); refine wpList_load_tx rfl 36 (.tmp 15) rfl w.heap.size 0 (rfl) CT _ (HRt.out) Try.underlying36 rfl (by rw [tx_info, HT72.out]) ?_))
  refine (CK.out _).mono ?_
  rintro _ w2 ⟨rfl, hb2⟩
  have HB2 := Lib.hid (two_below' HB0.out hb2)
  have HR2 := Lib.hid (HR0.out.below hb2)
  obtain ⟨_, _, _, c72, c73, c74, c75⟩ := HBx.out _ _ (HC0.out.below hb2)
  have hb2k := hb2
  clear hb2 CK
  go_wp2_with fail
  refine (WI.out xi _).mono ?_
  rintro _ w3 ⟨rfl, rfl⟩
  go_wp2_with fail
  refine (WI.out xt _).mono ?_
  rintro _ w3 ⟨rfl, rfl⟩
  go_wp2_with fail
  refine (WI.out xa _).mono ?_
  rintro _ w3 ⟨rfl, rfl⟩
  go_wp2_with fail
  refine (WI.out xp _).mono ?_
  rintro _ w3 ⟨rfl, rfl⟩
  have c1 := hcell1.out _ HB2.out
  have HC2 := Lib.hid (HC0.out.below hb2k)
  clear HC0 HR0 HB0 HRt
  clear c72 c73 c74 c75
  go_wp2_with fail
  clear c1
  go_loopw [7] (fun s7 wr => ∃ k : Nat, k ≤ n ∧ s7 = .int .i64 k ∧ Below w.heap.size w wr ∧ Row wr w.heap.size 38 C ∧ Row wr (w.heap.size + 1) 38 ZT) (fun i _ => n - (intOf i).toNat)
  case atStart => exact ⟨0, Nat.zero_le _, rfl, HB2.out, HC2.out, HR2.out⟩
  case round =>
    obtain ⟨k, hk, rfl, hbz, hcz, hrz⟩ := hrel
    have HBz := Lib.hid hbz
    have HCz := Lib.hid hcz
    have HRz := Lib.hid hrz
    clear hbz hcz hrz HB2 HC2 HR2
    have c1 := hcell1.out _ HBz.out
    have hk0 : (0 : Int) ≤ (k : Int) := by omega
    by_cases hkn : k < n
    · have hki : (k : Int) < (n : Int) := by omega
      have hkl : k < l.length := by have := HN.out; omega
      obtain ⟨g, rfl, hg, hat0⟩ := HA.out (by intro e; rw [e] at hkl; simp at hkl)
      have hyo := HWk.out _ (List.getElem_mem hkl)
      have HR : Hid (wr.rangeAt g (k * 76) l[k].cells) := Lib.hid (fun q u hu => (HBz.out.cell (p := ⟨g, k * 76 + q, none⟩) hg).trans (hat0 k hkl q u hu))
      have HD76 := Lib.hid (Wt.cells_len hyo)
      have HD1 := Lib.hid (Wt.cells_one hyo)
      have HBy := Lib.hid (fun W g0 (hr : Row W g0 38 l[k].cells) => WBox.row hyo hr)
      have hcd := HCd.out l[k]
      have hnk := HNc.out k hkl
      rw [hcd] at hnk
      obtain ⟨D, hD⟩ : ∃ D, l[k].cells = D := ⟨_, rfl⟩
      rw [hD] at HR HD76 HD1 HBy
      obtain ⟨yi, hyi⟩ : ∃ q, l[k].ix = q := ⟨_, rfl⟩
      obtain ⟨yf, hyf⟩ : ∃ q, l[k].tx.frm = q := ⟨_, rfl⟩
      obtain ⟨yn, hyn⟩ : ∃ q, l[k].tx.nonce = q := ⟨_, rfl⟩
      rw [hyi, hyf, hyn] at HBy hnk
      clear hg hat0 hyo hcd hD hyi hyf hyn
      by_cases q1 : yi = xi
      · have e1 : (yi == xi) = true := by simpa using q1
        exact absurd (.inl q1) hnk
      · have e1 : (yi == xi) = false := by simpa using q1
        by_cases q2 : yf = xf
        · have e2 : (yf == xf) = true := by simpa using q2
          by_cases q3 : yn = xn
          · have e3 : (yn == xn) = true := by simpa using q3
            exact absurd (.inr ⟨q2, q3⟩) hnk
          · have e3 : (yn == xn) = false := by simpa using q3
            clear q1 q2 q3 hnk
            go_wp2_with (first
              | ((with_reducible show wpList _ _ _ (⟨_, .load 38 (.tmp 58), _, _, _, _⟩ :: _) _ _); refine wpList_load_tx rfl 38 (.tmp 58) rfl g (k * 76) (by first | rfl | simp) D _ (HR.out) Try.underlying38 rfl (by rw [wait_info, HD76.out]) ?_)
              | (
                 with_reducible show wpList _ _ _ (⟨_, .store 38 (.tmp 8) _, _, _, _, _⟩ :: _) _ _
                 refine wpList_store_at rfl 38 (.tmp 8) (.tmp 59) rfl wr.heap.size 0 D ZT _ rfl rfl (Row.new wr 38 ZT) (by have := HZ76.out; have := HD76.out; omega) (by rw [wait_info, HD76.out]) HD1.out ?_
                 intro w4 hr hg
                 rw [splice_all (HD76.out.trans HZ76.out.symm)] at hr
                 have hbx := below_own ((Below.refl wr.heap.size wr).alloc (Nat.le_refl _) (.cells ZT.toArray 38)) hg (fun k hk => by cases hk; exact Nat.le_refl _)
                 have HB4 := Lib.hid (two_below' HBz.out hbx)
                 have HC4 := Lib.hid (HCz.out.below hbx)
                 have HR4 := Lib.hid (HRz.out.below hbx)
                 have HX4 := Lib.hid hr
                 obtain ⟨x0, x1, _, x72, _, _, _⟩ := HBx.out _ _ HC4.out
                 obtain ⟨y0, y1, _, y72, _, _, _⟩ := HBy.out _ _ HX4.out
                 clear hbx
                 clear hr hg))
            exact ⟨⟨k + 1, by omega, by go_num, HB4.out, HC4.out, HR4.out⟩, by simp [intOf]; omega⟩
        · have e2 : (yf == xf) = false := by simpa using q2
          clear q1 q2 hnk
          go_wp2_with (first
            | ((with_reducible show wpList _ _ _ (⟨_, .load 38 (.tmp 58), _, _, _, _⟩ :: _) _ _); refine wpList_load_tx rfl 38 (.tmp 58) rfl g (k * 76) (by first | rfl | simp) D _ (HR.out) Try.underlying38 rfl (by rw [wait_info, HD76.out]) ?_)
            | (
               with_reducible show wpList _ _ _ (⟨_, .store 38 (.tmp 8) _, _, _, _, _⟩ :: _) _ _
               refine wpList_store_at rfl 38 (.tmp 8) (.tmp 59) rfl wr.heap.size 0 D ZT _ rfl rfl (Row.new wr 38 ZT) (by have := HZ76.out; have := HD76.out; omega) (by rw [wait_info, HD76.out]) HD1.out ?_
               intro w4 hr hg
               rw [splice_all (HD76.out.trans HZ76.out.symm)] at hr
               have hbx := below_own ((Below.refl wr.heap.size wr).alloc (Nat.le_refl _) (.cells ZT.toArray 38)) hg (fun k hk => by cases hk; exact Nat.le_refl _)
               have HB4 := Lib.hid (two_below' HBz.out hbx)
               have HC4 := Lib.hid (HCz.out.below hbx)
               have HR4 := Lib.hid (HRz.out.below hbx)
               have HX4 := Lib.hid hr
               obtain ⟨x0, x1, _, x72, _, _, _⟩ := HBx.out _ _ HC4.out
               obtain ⟨y0, y1, _, y72, _, _, _⟩ := HBy.out _ _ HX4.out
               clear hbx
               clear hr hg))
          exact ⟨⟨k + 1, by omega, by go_num, HB4.out, HC4.out, HR4.out⟩, by simp [intOf]; omega⟩
    · have hki : ¬ (k : Int) < (n : Int) := by omega
      clear hk hk0 hkn
      go_wp2_with (first
      | ((with_reducible show wpList _ _ _ (⟨_, .build 38 _, _, _, _, _⟩ :: _) _ _); refine wpList_buildL rfl 38 [] rfl (some 84) rfl _ rfl ZT.toArray HBt.out ?_)
      | (
         with_reducible show wpList _ _ _ (⟨_, .store 38 (.tmp 9) _, _, _, _, _⟩ :: _) _ _
         refine wpList_store_at rfl 38 (.tmp 9) (.tmp 84) rfl wr.heap.size 0 ZT ZT _ rfl rfl (Row.new wr 38 ZT) (by have := HZ76.out; have := HZ76.out; omega) (by rw [wait_info, HZ76.out]) HZ1.out ?_
         intro w4 hr hg
         rw [splice_all (HZ76.out.trans HZ76.out.symm)] at hr
         have hbx := below_own ((Below.refl wr.heap.size wr).alloc (Nat.le_refl _) (.cells ZT.toArray 38)) hg (fun k hk => by cases hk; exact Nat.le_refl _)
         have HB4 := Lib.hid (two_below' HBz.out hbx)
         have HC4 := Lib.hid (HCz.out.below hbx)
         have HR4 := Lib.hid (HRz.out.below hbx)
         have HG4 := Lib.hid hr
         clear hbx
         clear hr hg))
      refine wp_region_noPanic ?_
      refine wp_region_held_drew (S := fun w' => Below w4.heap.size w4 w') (by kernel_rfl) ((Below.refl _ _).drew) (fun hHeld => ?_)
      generalize w4.drew = wq at *
      refine wpAnyH_take (i := 0) (v := .pointer (some ⟨B, 0, none⟩)) rfl (by kernel_rfl) (by kernel_rfl) (by kernel_rfl) (fun _ _ _ h => h) (Or.inl ⟨by rfl, fun w' hSw => by go_simp⟩) hHeld ?_
      try simp only [Act.put, List.getElem_toArray, List.getElem_cons_succ, List.getElem_cons_zero, List.setIfInBounds_toArray, List.set_cons_zero, List.set_cons_succ]
      refine wpAnyH_take (i := 1) (v := .pointer (some ⟨B, 0, none⟩)) rfl (by kernel_rfl) (by kernel_rfl) (by kernel_rfl) (fun _ _ _ h => h) (Or.inl ⟨by rfl, fun w' hSw => by go_simp⟩) hHeld ?_
      try simp only [Act.put, List.getElem_toArray, List.getElem_cons_succ, List.getElem_cons_zero, List.setIfInBounds_toArray, List.set_cons_zero, List.set_cons_succ]
      refine wpAnyH_take (i := 2) (v := .pointer (some ⟨B, 1, none⟩)) rfl (by kernel_rfl) (by kernel_rfl) (by kernel_rfl) (fun _ _ _ h => h) (Or.inl ⟨by rfl, fun w' hSw => by go_simp⟩) hHeld ?_
      try simp only [Act.put, List.getElem_toArray, List.getElem_cons_succ, List.getElem_cons_zero, List.setIfInBounds_toArray, List.set_cons_zero, List.set_cons_succ]
      refine wpAnyH_take (i := 3) (v := .slice A n c) rfl (by kernel_rfl) (by kernel_rfl) (by kernel_rfl) (fun _ _ _ h => h) (Or.inl ⟨by rfl, fun w' hSw => by have hq := hSw; have hd := hcell1.out _ (two_below' HB4.out hq); go_simp⟩) hHeld ?_
      try simp only [Act.put, List.getElem_toArray, List.getElem_cons_succ, List.getElem_cons_zero, List.setIfInBounds_toArray, List.set_cons_zero, List.set_cons_succ]
      refine wpAnyH_take (i := 4) (v := .int .i64 n) rfl (by kernel_rfl) (by kernel_rfl) (by kernel_rfl) (fun _ _ _ h => h) (Or.inl ⟨by rfl, fun w' hSw => by go_simp⟩) hHeld ?_
      try simp only [Act.put, List.getElem_toArray, List.getElem_cons_succ, List.getElem_cons_zero, List.setIfInBounds_toArray, List.set_cons_zero, List.set_cons_succ]
      refine wpAnyH_take (i := 5) (v := .pointer (some ⟨B, 0, none⟩)) rfl (by kernel_rfl) (by kernel_rfl) (by kernel_rfl) (fun _ _ _ h => h) (Or.inl ⟨by rfl, fun w' hSw => by go_simp⟩) hHeld ?_
      try simp only [Act.put, List.getElem_toArray, List.getElem_cons_succ, List.getElem_cons_zero, List.setIfInBounds_toArray, List.set_cons_zero, List.set_cons_succ]
      refine wpAnyH_take (i := 6) (v := .pointer (some ⟨B, 0, none⟩)) rfl (by kernel_rfl) (by kernel_rfl) (by kernel_rfl) (fun _ _ _ h => h) (Or.inl ⟨by rfl, fun w' hSw => by go_simp⟩) hHeld ?_
      try simp only [Act.put, List.getElem_toArray, List.getElem_cons_succ, List.getElem_cons_zero, List.setIfInBounds_toArray, List.set_cons_zero, List.set_cons_succ]
      refine wpAnyH_take (i := 7) (v := .pointer (some ⟨B, 0, none⟩)) rfl (by kernel_rfl) (by kernel_rfl) (by kernel_rfl) (fun _ _ _ h => h) (Or.inl ⟨by rfl, fun w' hSw => by go_simp⟩) hHeld ?_
      try simp only [Act.put, List.getElem_toArray, List.getElem_cons_succ, List.getElem_cons_zero, List.setIfInBounds_toArray, List.set_cons_zero, List.set_cons_succ]
      refine wpAnyH_take (i := 8) (v := .int .i64 size) rfl (by kernel_rfl) (by kernel_rfl) (by kernel_rfl) (fun _ _ _ h => h) (Or.inl ⟨by rfl, fun w' hSw => by have hq := hSw; have hd := hcell0.out _ (two_below' HB4.out hq); go_simp⟩) hHeld ?_
      try simp only [Act.put, List.getElem_toArray, List.getElem_cons_succ, List.getElem_cons_zero, List.setIfInBounds_toArray, List.set_cons_zero, List.set_cons_succ]
      refine wpAnyH_take (i := 9) (v := .bool true) rfl (by kernel_rfl) (by kernel_rfl) (by kernel_rfl) (fun _ _ _ h => h) (Or.inl ⟨by rfl, fun w' hSw => by have hq := hSw; have hk9 := HFl.out; go_simp⟩) hHeld ?_
      try simp only [Act.put, List.getElem_toArray, List.getElem_cons_succ, List.getElem_cons_zero, List.setIfInBounds_toArray, List.set_cons_zero, List.set_cons_succ]
      refine wpAnyH_take (i := 10) (v := .bool true) rfl (by kernel_rfl) (by kernel_rfl) (by kernel_rfl) (fun _ _ _ h => h) (Or.inl ⟨by rfl, fun w' hSw => by go_simp⟩) hHeld ?_
      try simp only [Act.put, List.getElem_toArray, List.getElem_cons_succ, List.getElem_cons_zero, List.setIfInBounds_toArray, List.set_cons_zero, List.set_cons_succ]
      refine wpAnyH_done (by kernel_rfl) ?_ _
      refine NoPanic.normal ?_
      have HB5 := Lib.hid (two_below' HB4.out hHeld)
      have HC5 := Lib.hid (HC4.out.below hHeld)
      have HR5 := Lib.hid (HR4.out.below hHeld)
      have HG5 := Lib.hid (HG4.out.below hHeld)
      clear hHeld
      have c1 := hcell1.out _ HB5.out
      have hl0 : 0 < l.length := by have := HN.out; omega
      obtain ⟨g, rfl, hg, hat0⟩ := HA.out (by intro e; rw [e] at hl0; simp at hl0)
      have hn0 : (0 : Int) < (n : Int) := by omega
      have hR0 : wq.rangeAt g 0 l[0].cells := fun q u hu => (HB5.out.cell (p := ⟨g, 0 + q, none⟩) hg).trans (by have := hat0 0 hl0 q u hu; rwa [Nat.zero_mul] at this)
      have hy0 := HWk.out _ (List.getElem_mem hl0)
      have HD76 := Lib.hid (Wt.cells_len hy0)
      have HD1 := Lib.hid (Wt.cells_one hy0)
      have hg1 : Pl.g l (Pl.poor l 1) = l[0] := by
        rw [HPs.out 0]
        show Pl.g l (if _ then 0 else 0) = _
        rw [ite_self]
        exact HPg.out 0 hl0
      obtain ⟨D, hD⟩ : ∃ D, l[0].cells = D := ⟨_, rfl⟩
      rw [hD] at hR0 HD76 HD1
      have HRd0 := Lib.hid hR0
      have HD0 : Hid ((Pl.g l (Pl.poor l 1)).cells = D) := Lib.hid (by rw [hg1]; exact hD)
      have HRa : Hid (∀ (W : World), Below w.heap.size w W → ∀ (k : Nat) (hk : k < l.length), W.rangeAt g (k * 76) l[k].cells) := Lib.hid (fun W hW k hk q u hu => (hW.cell (p := ⟨g, k * 76 + q, none⟩) hg).trans (hat0 k hk q u hu))
      clear hR0 hy0 hg1 hD hat0 hg hl0
      go_wp2_with (first
      | ((with_reducible show wpList _ _ _ (⟨_, .load 38 (.tmp 100), _, _, _, _⟩ :: _) _ _); refine wpList_load_tx rfl 38 (.tmp 100) rfl g 0 (by first | rfl | simp) D _ (HRd0.out) Try.underlying38 rfl (by rw [wait_info, HD76.out]) ?_)
      | (
         with_reducible show wpList _ _ _ (⟨_, .store 38 (.tmp 9) _, _, _, _, _⟩ :: _) _ _
         refine wpList_store_at rfl 38 (.tmp 9) (.tmp 101) rfl wr.heap.size 0 D ZT _ rfl rfl (HG5.out) (by have := HZ76.out; have := HD76.out; omega) (by rw [wait_info, HD76.out]) HD1.out ?_
         intro w6 hr hg
         rw [splice_all (HD76.out.trans HZ76.out.symm)] at hr
         have HB6 := Lib.hid (below_own HB5.out hg (fun k hk => by cases hk; exact HBz.out.size))
         have HC6 := Lib.hid (HC5.out.kept hg (by have := HCz.out.lt; intro e; injection e with e; omega))
         have HR6 := Lib.hid (HR5.out.kept hg (by have := HRz.out.lt; intro e; injection e with e; omega))
         have HG6 := Lib.hid hr
         clear hr hg))
      have HN9a : Hid (some w.heap.size ≠ some wr.heap.size) := Lib.hid (by have := HCz.out.lt; intro e; injection e with e; omega)
      have HN9b : Hid (some (w.heap.size + 1) ≠ some wr.heap.size) := Lib.hid (by have := HRz.out.lt; intro e; injection e with e; omega)
      have HG9 : Hid (w.heap.size ≤ wr.heap.size) := Lib.hid HBz.out.size
      have HP1 : Hid (Row w6 wr.heap.size 38 (Pl.g l (Pl.poor l 1)).cells) := Lib.hid (by rw [HD0.out]; exact HG6.out)
      generalize wr.heap.size = g9 at *
      clear HG5 HC5 HR5 HC4 HR4 HG4 HG6 c1
      go_loopw [11] (fun s11 wz => ∃ k : Nat, 1 ≤ k ∧ k ≤ n ∧ s11 = .int .i64 k ∧ Below w.heap.size w wz ∧ Row wz w.heap.size 38 C ∧ Row wz (w.heap.size + 1) 38 ZT ∧ Row wz g9 38 (Pl.g l (Pl.poor l k)).cells) (fun i _ => n - (intOf i).toNat)
      case atStart => exact ⟨1, Nat.le_refl _, hn1, rfl, HB6.out, HC6.out, HR6.out, HP1.out⟩
      case round =>
        obtain ⟨k, hk1, hk, rfl, hbz, hcz, hrz, hgz⟩ := hrel
        have HBu := Lib.hid hbz
        have HCu := Lib.hid hcz
        have HRu := Lib.hid hrz
        have HGu := Lib.hid hgz
        clear hbz hcz hrz hgz HB6 HC6 HR6 HP1
        have c1 := hcell1.out _ HBu.out
        have hk0 : (0 : Int) ≤ (k : Int) := by omega
        have hpo := HPl.out k (by omega) (by have := HN.out; omega)
        have hps := HPs.out k
        have HBg := Lib.hid (fun W g0 (hr : Row W g0 38 (Pl.g l (Pl.poor l k)).cells) => (WBox.row hpo hr).2.2.1)
        have HE76 := Lib.hid (Wt.cells_len hpo)
        have hxf := HFee.out
        obtain ⟨CE, hCE⟩ : ∃ CE, (Pl.g l (Pl.poor l k)).cells = CE := ⟨_, rfl⟩
        have HCE := Lib.hid hCE
        rw [hCE] at HBg HE76 HGu
        by_cases hkn : k < n
        · have hki : (k : Int) < (n : Int) := by omega
          have hkl : k < l.length := by have := HN.out; omega
          have hyo := HWk.out _ (List.getElem_mem hkl)
          have hra := fun W hW => HRa.out W hW k hkl
          have HD76 := Lib.hid (Wt.cells_len hyo)
          have HD1 := Lib.hid (Wt.cells_one hyo)
          rw [HPg.out k hkl] at hps
          obtain ⟨Y, hY⟩ : ∃ Y, l[k] = Y := ⟨_, rfl⟩
          have hgk : Pl.g l k = Y := by rw [HPg.out k hkl]; exact hY
          have HGk := Lib.hid hgk
          rw [hY] at hyo hra HD76 HD1 hps
          have hyf : ∀ W, Below w.heap.size w W → W.cell? ⟨g, k * 76 + 2, none⟩ = some (.int .i64 Y.tx.fee) := fun W hW => (WBox.of hyo (hra W hW)).2.2.1
          have HYf := Lib.hid hyf
          obtain ⟨D2, hD2⟩ : ∃ D2, Y.cells = D2 := ⟨_, rfl⟩
          rw [hD2] at hra HD76 HD1
          have HD2 := Lib.hid hD2
          have HRy := Lib.hid hra
          clear hyf hra hyo hY hCE hpo hD2 hgk hxf hkl
          generalize (Pl.g l (Pl.poor l k)).tx.fee = gf at *
          generalize Y.tx.fee = yf at *
          by_cases q : yf ≤ gf
          · have dq : decide (yf ≤ gf) = true := decide_eq_true q
            rw [if_pos q] at hps
            have HPs2 := Lib.hid hps
            clear hps q
            go_wp2_with fail
            refine wp_region_noPanic ?_
            refine wp_region_held_drew (S := fun w' => Below wr.heap.size wr w') (by kernel_rfl) ((Below.refl _ _).drew) (fun hHeld => ?_)
            generalize wr.drew = wy at *
            refine wpAnyH_take (i := 0) (v := .pointer (some ⟨B, 0, none⟩)) rfl (by kernel_rfl) (by kernel_rfl) (by kernel_rfl) (fun _ _ _ h => h) (Or.inl ⟨by rfl, fun w' hSw => by go_simp⟩) hHeld ?_
            try simp only [Act.put, List.getElem_toArray, List.getElem_cons_succ, List.getElem_cons_zero, List.setIfInBounds_toArray, List.set_cons_zero, List.set_cons_succ]
            refine wpAnyH_take (i := 1) (v := .pointer (some ⟨B, 0, none⟩)) rfl (by kernel_rfl) (by kernel_rfl) (by kernel_rfl) (fun _ _ _ h => h) (Or.inl ⟨by rfl, fun w' hSw => by go_simp⟩) hHeld ?_
            try simp only [Act.put, List.getElem_toArray, List.getElem_cons_succ, List.getElem_cons_zero, List.setIfInBounds_toArray, List.set_cons_zero, List.set_cons_succ]
            refine wpAnyH_take (i := 2) (v := .pointer (some ⟨B, 1, none⟩)) rfl (by kernel_rfl) (by kernel_rfl) (by kernel_rfl) (fun _ _ _ h => h) (Or.inl ⟨by rfl, fun w' hSw => by go_simp⟩) hHeld ?_
            try simp only [Act.put, List.getElem_toArray, List.getElem_cons_succ, List.getElem_cons_zero, List.setIfInBounds_toArray, List.set_cons_zero, List.set_cons_succ]
            refine wpAnyH_take (i := 3) (v := .slice (some ⟨g, 0, none⟩) n c) rfl (by kernel_rfl) (by kernel_rfl) (by kernel_rfl) (fun _ _ _ h => h) (Or.inl ⟨by rfl, fun w' hSw => by have hq := hSw; have hd := hcell1.out _ (two_below' HBu.out hq); go_simp⟩) hHeld ?_
            try simp only [Act.put, List.getElem_toArray, List.getElem_cons_succ, List.getElem_cons_zero, List.setIfInBounds_toArray, List.set_cons_zero, List.set_cons_succ]
            refine wpAnyH_take (i := 4) (v := .int .i64 k) rfl (by kernel_rfl) (by kernel_rfl) (by kernel_rfl) (fun _ _ _ h => h) (Or.inl ⟨by rfl, fun w' hSw => by go_simp⟩) hHeld ?_
            try simp only [Act.put, List.getElem_toArray, List.getElem_cons_succ, List.getElem_cons_zero, List.setIfInBounds_toArray, List.set_cons_zero, List.set_cons_succ]
            refine wpAnyH_take (i := 5) (v := .pointer (some ⟨g, (k * 76), none⟩)) rfl (by kernel_rfl) (by kernel_rfl) (by kernel_rfl) (fun _ _ _ h => h) (Or.inl ⟨by rfl, fun w' hSw => by go_simp⟩) hHeld ?_
            try simp only [Act.put, List.getElem_toArray, List.getElem_cons_succ, List.getElem_cons_zero, List.setIfInBounds_toArray, List.set_cons_zero, List.set_cons_succ]
            refine wpAnyH_take (i := 6) (v := .pointer (some ⟨g, (k * 76), none⟩)) rfl (by kernel_rfl) (by kernel_rfl) (by kernel_rfl) (fun _ _ _ h => h) (Or.inl ⟨by rfl, fun w' hSw => by go_simp⟩) hHeld ?_
            try simp only [Act.put, List.getElem_toArray, List.getElem_cons_succ, List.getElem_cons_zero, List.setIfInBounds_toArray, List.set_cons_zero, List.set_cons_succ]
            refine wpAnyH_take (i := 7) (v := .pointer (some ⟨g, (k * 76 + 2), none⟩)) rfl (by kernel_rfl) (by kernel_rfl) (by kernel_rfl) (fun _ _ _ h => h) (Or.inl ⟨by rfl, fun w' hSw => by go_simp⟩) hHeld ?_
            try simp only [Act.put, List.getElem_toArray, List.getElem_cons_succ, List.getElem_cons_zero, List.setIfInBounds_toArray, List.set_cons_zero, List.set_cons_succ]
            refine wpAnyH_take (i := 8) (v := .int .i64 yf) rfl (by kernel_rfl) (by kernel_rfl) (by kernel_rfl) (fun _ _ _ h => h) (Or.inl ⟨by rfl, fun w' hSw => by have hq := hSw; have hd := HYf.out _ (two_below' HBu.out hq); go_simp⟩) hHeld ?_
            try simp only [Act.put, List.getElem_toArray, List.getElem_cons_succ, List.getElem_cons_zero, List.setIfInBounds_toArray, List.set_cons_zero, List.set_cons_succ]
            refine wpAnyH_take (i := 9) (v := .pointer (some ⟨g9, 0, none⟩)) rfl (by kernel_rfl) (by kernel_rfl) (by kernel_rfl) (fun _ _ _ h => h) (Or.inl ⟨by rfl, fun w' hSw => by go_simp⟩) hHeld ?_
            try simp only [Act.put, List.getElem_toArray, List.getElem_cons_succ, List.getElem_cons_zero, List.setIfInBounds_toArray, List.set_cons_zero, List.set_cons_succ]
            refine wpAnyH_take (i := 10) (v := .pointer (some ⟨g9, 2, none⟩)) rfl (by kernel_rfl) (by kernel_rfl) (by kernel_rfl) (fun _ _ _ h => h) (Or.inl ⟨by rfl, fun w' hSw => by go_simp⟩) hHeld ?_
            try simp only [Act.put, List.getElem_toArray, List.getElem_cons_succ, List.getElem_cons_zero, List.setIfInBounds_toArray, List.set_cons_zero, List.set_cons_succ]
            refine wpAnyH_take (i := 11) (v := .int .i64 gf) rfl (by kernel_rfl) (by kernel_rfl) (by kernel_rfl) (fun _ _ _ h => h) (Or.inl ⟨by rfl, fun w' hSw => by have hq := hSw; have hd := HBg.out _ _ (HGu.out.below hq); go_simp⟩) hHeld ?_
            try simp only [Act.put, List.getElem_toArray, List.getElem_cons_succ, List.getElem_cons_zero, List.setIfInBounds_toArray, List.set_cons_zero, List.set_cons_succ]
            refine wpAnyH_take (i := 12) (v := .bool true) rfl (by kernel_rfl) (by kernel_rfl) (by kernel_rfl) (fun _ _ _ h => h) (Or.inl ⟨by rfl, fun w' hSw => by go_simp⟩) hHeld ?_
            try simp only [Act.put, List.getElem_toArray, List.getElem_cons_succ, List.getElem_cons_zero, List.setIfInBounds_toArray, List.set_cons_zero, List.set_cons_succ]
            refine wpAnyH_done (by kernel_rfl) ?_ _
            refine NoPanic.normal ?_
            have HB7 := Lib.hid (two_below' HBu.out hHeld)
            have HC7 := Lib.hid (HCu.out.below hHeld)
            have HR7 := Lib.hid (HRu.out.below hHeld)
            have HG7 := Lib.hid (HGu.out.below hHeld)
            clear hHeld
            have c1 := hcell1.out _ HB7.out
            have HRk := Lib.hid (HRy.out _ HB7.out)
            go_wp2_with (first
            | ((with_reducible show wpList _ _ _ (⟨_, .load 38 (.tmp 129), _, _, _, _⟩ :: _) _ _); refine wpList_load_tx rfl 38 (.tmp 129) rfl g (k * 76) (by first | rfl | simp) D2 _ (HRk.out) Try.underlying38 rfl (by rw [wait_info, HD76.out]) ?_)
            | (
               with_reducible show wpList _ _ _ (⟨_, .store 38 (.tmp 9) _, _, _, _, _⟩ :: _) _ _
               refine wpList_store_at rfl 38 (.tmp 9) (.tmp 130) rfl g9 0 D2 CE _ rfl rfl (HG7.out) (by have := HE76.out; have := HD76.out; omega) (by rw [wait_info, HD76.out]) HD1.out ?_
               intro w8 hr hg
               rw [splice_all (HD76.out.trans HE76.out.symm)] at hr
               have HB8 := Lib.hid (below_own HB7.out hg (fun k hk => by cases hk; exact HG9.out))
               have HC8 := Lib.hid (HC7.out.kept hg HN9a.out)
               have HR8 := Lib.hid (HR7.out.kept hg HN9b.out)
               have HG8 := Lib.hid hr
               clear hr hg))
            exact ⟨⟨k + 1, by omega, by omega, by go_num, HB8.out, HC8.out, HR8.out, by rw [HPs2.out, HGk.out, HD2.out]; exact HG8.out⟩, by simp [intOf]; omega⟩
          · have dq : decide (yf ≤ gf) = false := decide_eq_false q
            rw [if_neg q] at hps
            have HPs2 := Lib.hid hps
            clear hps q
            go_wp2_with fail
            refine wp_region_noPanic ?_
            refine wp_region_held_drew (S := fun w' => Below wr.heap.size wr w') (by kernel_rfl) ((Below.refl _ _).drew) (fun hHeld => ?_)
            generalize wr.drew = wy at *
            refine wpAnyH_take (i := 0) (v := .pointer (some ⟨B, 0, none⟩)) rfl (by kernel_rfl) (by kernel_rfl) (by kernel_rfl) (fun _ _ _ h => h) (Or.inl ⟨by rfl, fun w' hSw => by go_simp⟩) hHeld ?_
            try simp only [Act.put, List.getElem_toArray, List.getElem_cons_succ, List.getElem_cons_zero, List.setIfInBounds_toArray, List.set_cons_zero, List.set_cons_succ]
            refine wpAnyH_take (i := 1) (v := .pointer (some ⟨B, 0, none⟩)) rfl (by kernel_rfl) (by kernel_rfl) (by kernel_rfl) (fun _ _ _ h => h) (Or.inl ⟨by rfl, fun w' hSw => by go_simp⟩) hHeld ?_
            try simp only [Act.put, List.getElem_toArray, List.getElem_cons_succ, List.getElem_cons_zero, List.setIfInBounds_toArray, List.set_cons_zero, List.set_cons_succ]
            refine wpAnyH_take (i := 2) (v := .pointer (some ⟨B, 1, none⟩)) rfl (by kernel_rfl) (by kernel_rfl) (by kernel_rfl) (fun _ _ _ h => h) (Or.inl ⟨by rfl, fun w' hSw => by go_simp⟩) hHeld ?_
            try simp only [Act.put, List.getElem_toArray, List.getElem_cons_succ, List.getElem_cons_zero, List.setIfInBounds_toArray, List.set_cons_zero, List.set_cons_succ]
            refine wpAnyH_take (i := 3) (v := .slice (some ⟨g, 0, none⟩) n c) rfl (by kernel_rfl) (by kernel_rfl) (by kernel_rfl) (fun _ _ _ h => h) (Or.inl ⟨by rfl, fun w' hSw => by have hq := hSw; have hd := hcell1.out _ (two_below' HBu.out hq); go_simp⟩) hHeld ?_
            try simp only [Act.put, List.getElem_toArray, List.getElem_cons_succ, List.getElem_cons_zero, List.setIfInBounds_toArray, List.set_cons_zero, List.set_cons_succ]
            refine wpAnyH_take (i := 4) (v := .int .i64 k) rfl (by kernel_rfl) (by kernel_rfl) (by kernel_rfl) (fun _ _ _ h => h) (Or.inl ⟨by rfl, fun w' hSw => by go_simp⟩) hHeld ?_
            try simp only [Act.put, List.getElem_toArray, List.getElem_cons_succ, List.getElem_cons_zero, List.setIfInBounds_toArray, List.set_cons_zero, List.set_cons_succ]
            refine wpAnyH_take (i := 5) (v := .pointer (some ⟨g, (k * 76), none⟩)) rfl (by kernel_rfl) (by kernel_rfl) (by kernel_rfl) (fun _ _ _ h => h) (Or.inl ⟨by rfl, fun w' hSw => by go_simp⟩) hHeld ?_
            try simp only [Act.put, List.getElem_toArray, List.getElem_cons_succ, List.getElem_cons_zero, List.setIfInBounds_toArray, List.set_cons_zero, List.set_cons_succ]
            refine wpAnyH_take (i := 6) (v := .pointer (some ⟨g, (k * 76), none⟩)) rfl (by kernel_rfl) (by kernel_rfl) (by kernel_rfl) (fun _ _ _ h => h) (Or.inl ⟨by rfl, fun w' hSw => by go_simp⟩) hHeld ?_
            try simp only [Act.put, List.getElem_toArray, List.getElem_cons_succ, List.getElem_cons_zero, List.setIfInBounds_toArray, List.set_cons_zero, List.set_cons_succ]
            refine wpAnyH_take (i := 7) (v := .pointer (some ⟨g, (k * 76 + 2), none⟩)) rfl (by kernel_rfl) (by kernel_rfl) (by kernel_rfl) (fun _ _ _ h => h) (Or.inl ⟨by rfl, fun w' hSw => by go_simp⟩) hHeld ?_
            try simp only [Act.put, List.getElem_toArray, List.getElem_cons_succ, List.getElem_cons_zero, List.setIfInBounds_toArray, List.set_cons_zero, List.set_cons_succ]
            refine wpAnyH_take (i := 8) (v := .int .i64 yf) rfl (by kernel_rfl) (by kernel_rfl) (by kernel_rfl) (fun _ _ _ h => h) (Or.inl ⟨by rfl, fun w' hSw => by have hq := hSw; have hd := HYf.out _ (two_below' HBu.out hq); go_simp⟩) hHeld ?_
            try simp only [Act.put, List.getElem_toArray, List.getElem_cons_succ, List.getElem_cons_zero, List.setIfInBounds_toArray, List.set_cons_zero, List.set_cons_succ]
            refine wpAnyH_take (i := 9) (v := .pointer (some ⟨g9, 0, none⟩)) rfl (by kernel_rfl) (by kernel_rfl) (by kernel_rfl) (fun _ _ _ h => h) (Or.inl ⟨by rfl, fun w' hSw => by go_simp⟩) hHeld ?_
            try simp only [Act.put, List.getElem_toArray, List.getElem_cons_succ, List.getElem_cons_zero, List.setIfInBounds_toArray, List.set_cons_zero, List.set_cons_succ]
            refine wpAnyH_take (i := 10) (v := .pointer (some ⟨g9, 2, none⟩)) rfl (by kernel_rfl) (by kernel_rfl) (by kernel_rfl) (fun _ _ _ h => h) (Or.inl ⟨by rfl, fun w' hSw => by go_simp⟩) hHeld ?_
            try simp only [Act.put, List.getElem_toArray, List.getElem_cons_succ, List.getElem_cons_zero, List.setIfInBounds_toArray, List.set_cons_zero, List.set_cons_succ]
            refine wpAnyH_take (i := 11) (v := .int .i64 gf) rfl (by kernel_rfl) (by kernel_rfl) (by kernel_rfl) (fun _ _ _ h => h) (Or.inl ⟨by rfl, fun w' hSw => by have hq := hSw; have hd := HBg.out _ _ (HGu.out.below hq); go_simp⟩) hHeld ?_
            try simp only [Act.put, List.getElem_toArray, List.getElem_cons_succ, List.getElem_cons_zero, List.setIfInBounds_toArray, List.set_cons_zero, List.set_cons_succ]
            refine wpAnyH_take (i := 12) (v := .bool false) rfl (by kernel_rfl) (by kernel_rfl) (by kernel_rfl) (fun _ _ _ h => h) (Or.inl ⟨by rfl, fun w' hSw => by go_simp⟩) hHeld ?_
            try simp only [Act.put, List.getElem_toArray, List.getElem_cons_succ, List.getElem_cons_zero, List.setIfInBounds_toArray, List.set_cons_zero, List.set_cons_succ]
            refine wpAnyH_done (by kernel_rfl) ?_ _
            refine NoPanic.normal ?_
            have HB7 := Lib.hid (two_below' HBu.out hHeld)
            have HC7 := Lib.hid (HCu.out.below hHeld)
            have HR7 := Lib.hid (HRu.out.below hHeld)
            have HG7 := Lib.hid (HGu.out.below hHeld)
            clear hHeld
            go_wp2_with fail
            exact ⟨⟨k + 1, by omega, by omega, by go_num, HB7.out, HC7.out, HR7.out, by rw [HPs2.out, HCE.out]; exact HG7.out⟩, by simp [intOf]; omega⟩
        · have hki : ¬ (k : Int) < (n : Int) := by omega
          have hkn2 : k = n := by omega
          subst hkn2
          have hxg : ¬ xfee ≤ (Pl.g l (Pl.poor l k)).tx.fee := by omega
          have cg := HBg.out _ _ HGu.out
          obtain ⟨_, _, cx, _, _, _, _⟩ := HBx.out _ _ HCu.out
          have HBgi := Lib.hid (fun W g0 (hr : Row W g0 38 (Pl.g l (Pl.poor l k)).cells) => (WBox.row hpo hr).2.2.2.1)
          rw [hCE] at HBgi
          have hce : CE = CG := hCE.symm.trans HCGe.out
          rw [hce] at HBgi HGu HE76 HBg
          generalize (Pl.g l (Pl.poor l k)).tx.fee = gf at *
          generalize (Pl.g l (Pl.poor l k)).ix = gi at *
          have dx : decide (gf ≥ xfee) = false := decide_eq_false hxg
          have dx' : decide (xfee ≤ gf) = false := decide_eq_false hxg
          have HUw : Hid (∀ k', PS B (.slice (some ⟨g, 0, none⟩) k c) k' → k' < w.heap.size) := Lib.hid (fun k hk => (HH.out.lt k hk).2)
          have hU := (((HH.out.putAt HBu.out).new HCu.out (fun q => Nat.lt_irrefl _ (HUw.out _ q)) (Nat.le_refl _)).new HRu.out (fun q => by have := HUw.out _ q; omega) (by omega)).new HGu.out (fun q => by have := HUw.out _ q; have := HG9.out; omega) HG9.out
          have HU0 := Lib.hid hU
          clear hxg hxf hps hpo hCE hce hU hkn hki hk0 hk hk1
          go_wp2_with fail
          clear cg cx c1
          have hT := HU0.out.below (Below.refl _ _).drew
          refine wp_region_noPanic ?_
          refine wp_region_held_drew (S := fun w' => Row w' g9 38 CG) (by kernel_rfl) (HU0.out.row (g9, CG) (by simp)) (fun hHeld => ?_)
          generalize wr.drew = wv at *
          refine wpAnyH_take (i := 0) (v := .pointer (some ⟨B, 0, none⟩)) rfl (by kernel_rfl) (by kernel_rfl) (by kernel_rfl) (fun _ _ _ h => h) (Or.inl ⟨by rfl, fun w' hSw => by go_simp⟩) hHeld ?_
          try simp only [Act.put, List.getElem_toArray, List.getElem_cons_succ, List.getElem_cons_zero, List.setIfInBounds_toArray, List.set_cons_zero, List.set_cons_succ]
          refine wpAnyH_take (i := 1) (v := .pointer (some ⟨B, 0, none⟩)) rfl (by kernel_rfl) (by kernel_rfl) (by kernel_rfl) (fun _ _ _ h => h) (Or.inl ⟨by rfl, fun w' hSw => by go_simp⟩) hHeld ?_
          try simp only [Act.put, List.getElem_toArray, List.getElem_cons_succ, List.getElem_cons_zero, List.setIfInBounds_toArray, List.set_cons_zero, List.set_cons_succ]
          refine wpAnyH_take (i := 2) (v := .pointer (some ⟨B, 0, none⟩)) rfl (by kernel_rfl) (by kernel_rfl) (by kernel_rfl) (fun _ _ _ h => h) (Or.inl ⟨by rfl, fun w' hSw => by go_simp⟩) hHeld ?_
          try simp only [Act.put, List.getElem_toArray, List.getElem_cons_succ, List.getElem_cons_zero, List.setIfInBounds_toArray, List.set_cons_zero, List.set_cons_succ]
          refine wpAnyH_take (i := 3) (v := .pointer (some ⟨B, 1, none⟩)) rfl (by kernel_rfl) (by kernel_rfl) (by kernel_rfl) (fun _ _ _ h => h) (Or.inl ⟨by rfl, fun w' hSw => by go_simp⟩) hHeld ?_
          try simp only [Act.put, List.getElem_toArray, List.getElem_cons_succ, List.getElem_cons_zero, List.setIfInBounds_toArray, List.set_cons_zero, List.set_cons_succ]
          refine wpAnyH_take (i := 5) (v := .pointer (some ⟨g9, 72, none⟩)) rfl (by kernel_rfl) (by kernel_rfl) (by kernel_rfl) (fun _ _ _ h => h) (Or.inl ⟨by rfl, fun w' hSw => by go_simp⟩) hHeld ?_
          try simp only [Act.put, List.getElem_toArray, List.getElem_cons_succ, List.getElem_cons_zero, List.setIfInBounds_toArray, List.set_cons_zero, List.set_cons_succ]
          refine wpAnyH_take (i := 6) (v := .int .i64 gi) rfl (by kernel_rfl) (by kernel_rfl) (by kernel_rfl) (fun _ _ _ h => h) (Or.inl ⟨by rfl, fun w' hSw => by have hq := hSw; have hd := HBgi.out _ _ hq; go_simp⟩) hHeld ?_
          try simp only [Act.put, List.getElem_toArray, List.getElem_cons_succ, List.getElem_cons_zero, List.setIfInBounds_toArray, List.set_cons_zero, List.set_cons_succ]
          refine wpAnyH_ready (rs := [4]) (by kernel_rfl) (by simp) (AllReadyH.cons rfl (fun K1 hK1 => ?_) AllReadyH.nil)
          try simp only [Act.put, List.getElem_toArray, List.getElem_cons_succ, List.getElem_cons_zero, List.setIfInBounds_toArray, List.set_cons_zero, List.set_cons_succ]
          rw [if_pos (by rfl)]
          have hcx := hT.pat.c1
          go_simp
          refine hK1.out _ _ (hHeld) (fun hHeld => ?_)
          clear hK1 K1
          try simp only [Act.put, List.getElem_toArray, List.getElem_cons_succ, List.getElem_cons_zero, List.setIfInBounds_toArray, List.set_cons_zero, List.set_cons_succ]
          clear hcx
          refine wpAnyH_ready (rs := [7]) (by kernel_rfl) (by simp) (AllReadyH.cons rfl (fun K1 hK1 => ?_) AllReadyH.nil)
          try simp only [Act.put, List.getElem_toArray, List.getElem_cons_succ, List.getElem_cons_zero, List.setIfInBounds_toArray, List.set_cons_zero, List.set_cons_succ]
          go_simp
          refine Calls.mono (HWo.out _ c wv hT.pat.slW) ?_
          rintro e wi1 ⟨u, rfl, ho, hb⟩
          have hHeld2 := hHeld.below hb
          have hrB := hT.pat.row.below hb
          obtain ⟨A2, c2, rfl, _, _⟩ := ho.form
          obtain ⟨n2, hn2⟩ : ∃ n2, L.length = n2 := ⟨_, rfl⟩
          have HLn : Hid (n2 = L.length) := Lib.hid hn2.symm
          rw [hn2] at ho ⊢
          clear hn2
          refine hK1.out _ _ (hHeld2) (fun hHeld => ?_)
          clear hK1 K1
          try simp only [Act.put, List.getElem_toArray, List.getElem_cons_succ, List.getElem_cons_zero, List.setIfInBounds_toArray, List.set_cons_zero, List.set_cons_succ]
          clear hHeld2
          refine wpAnyH_take (i := 8) (v := .pointer (some ⟨B, 0, none⟩)) rfl (by kernel_rfl) (by kernel_rfl) (by kernel_rfl) (fun _ _ _ h => h) (Or.inl ⟨by rfl, fun w' hSw => by go_simp⟩) hHeld ?_
          try simp only [Act.put, List.getElem_toArray, List.getElem_cons_succ, List.getElem_cons_zero, List.setIfInBounds_toArray, List.set_cons_zero, List.set_cons_succ]
          refine wpAnyH_take (i := 9) (v := .pointer (some ⟨B, 1, none⟩)) rfl (by kernel_rfl) (by kernel_rfl) (by kernel_rfl) (fun _ _ _ h => h) (Or.inl ⟨by rfl, fun w' hSw => by go_simp⟩) hHeld ?_
          try simp only [Act.put, List.getElem_toArray, List.getElem_cons_succ, List.getElem_cons_zero, List.setIfInBounds_toArray, List.set_cons_zero, List.set_cons_succ]
          refine wpAnyH_ready (rs := [10]) (by kernel_rfl) (by simp) (AllReadyH.cons rfl (fun K1 hK1 => ?_) AllReadyH.nil)
          try simp only [Act.put, List.getElem_toArray, List.getElem_cons_succ, List.getElem_cons_zero, List.setIfInBounds_toArray, List.set_cons_zero, List.set_cons_succ]
          rw [if_pos (by rfl)]
          refine wp_store_sl 30 (.tmp 148) (.tmp 146) rfl B 1 32 [.int .i64 size, .slice (some ⟨g, 0, none⟩) k c] A2 n2 c2 rfl rfl hrB (by simp) (by kernel_rfl) ?_
          intro wt2 hr4 hg4
          have hU := hT.took (ho.mono (Nat.le_trans hT.pat.lo (Nat.le_of_lt hT.pat.row.lt))) (Chg.of_below hb) (fun k hk => ho.lt k hk) hrB hr4 hg4 HLokP.out (by decide)
          have hHeld2 : Row wt2 g9 38 CG := hU.row (g9, CG) (by simp)
          refine hK1.out _ _ (hHeld2) (fun hHeld => ?_)
          clear hK1 K1
          try simp only [Act.put, List.getElem_toArray, List.getElem_cons_succ, List.getElem_cons_zero, List.setIfInBounds_toArray, List.set_cons_zero, List.set_cons_succ]
          clear hHeld2
          refine wpAnyH_done (by kernel_rfl) ?_ _
          refine NoPanic.normal ?_
          clear hHeld hT
          have HU := Lib.hid hU
          clear hU hr4 hg4 hrB ho hb
          go_wp2_with fail
          go_loopw [12, 13, 14] (fun s12 s13 s14 wr => ∃ (k : Nat) (b : Bool), k ≤ n2 ∧ s14 = .int .i64 k ∧ s13 = .bool b ∧ (b = true ↔ p < k) ∧ OwnL wr wt2.heap.size 38 76 Wt.cells s12 (IK k) ∧ Below wt2.heap.size wt2 wr) (fun _ _ i _ => n2 - (intOf i).toNat)
          case atStart => exact ⟨0, false, Nat.zero_le _, rfl, rfl, ⟨fun e => (by cases e), fun e => absurd e (Nat.not_lt_zero _)⟩, (by rw [HIK0.out]; exact OwnL.nil _ _ _ _ _), Below.refl _ _⟩
          case round =>
            obtain ⟨k, b, hk, rfl, rfl, hb, hown, hbz⟩ := hrel
            have HBz := Lib.hid hbz
            have HOz := Lib.hid hown
            have c1 := (HU.out.below hbz).pat.c1
            have HXz := Lib.hid ((HU.out.below hbz).row (w.heap.size, C) (by simp))
            have hL256 : n2 ≤ 256 := by have := HL256.out; have := HLn.out; omega
            have HLr : Hid ((IK k).length ≤ 100000) := Lib.hid (Nat.le_trans (HIl.out k (by have := HLn.out; omega)) (by omega))
            have HLr2 : Hid ((IK k ++ [x]).length ≤ 100000) := Lib.hid (by rw [List.length_append]; have := HIl.out k (by have := HLn.out; omega); simp; omega)
            clear hbz hown
            have hk0 : (0 : Int) ≤ (k : Int) := by omega
            by_cases hkn : k < n2
            · have hki : (k : Int) < (n2 : Int) := by omega
              have hkl : k < L.length := by have := HLn.out; omega
              obtain ⟨g, c', hge, _, _⟩ := HU.out.pat.own.ne (by intro e; rw [e] at hkl; simp at hkl)
              injection hge with ea eb ec
              subst ea
              clear eb ec
              have HR : Hid (∀ W, Below wt2.heap.size wt2 W → W.rangeAt g (k * 76) L[k].cells) := Lib.hid (fun W hW => (HU.out.below hW).pat.own.at (Wt.lens HLok.out) k hkl)
              have hYo := HLok.out _ (List.getElem_mem hkl)
              obtain ⟨Y, hYe⟩ : ∃ Y, L[k] = Y := ⟨_, rfl⟩
              rw [hYe] at HR hYo
              have HYo := Lib.hid hYo
              have HD76 := Lib.hid (Wt.cells_len hYo)
              have HYi : Hid (∀ W, Below wt2.heap.size wt2 W → W.cell? ⟨g, k * 76 + 72, none⟩ = some (.int .i64 Y.ix)) := Lib.hid (fun W hW => (WBox.of hYo (HR.out W hW)).2.2.2.1)
              obtain ⟨D, hD⟩ : ∃ D, Y.cells = D := ⟨_, rfl⟩
              obtain ⟨yi, hYie⟩ : ∃ yi, Y.ix = yi := ⟨_, rfl⟩
              rw [hD] at HR HD76
              rw [hYie] at HYi
              have HYc := Lib.hid hD
              clear hD hYo
              cases b with
              | true =>
                have hpk : p < k := hb.1 rfl
                obtain ⟨hks1, hks⟩ := HElse.out k hkl (.inl hpk)
                rw [hYe] at hks
                have HKS := Lib.hid hks
                have HK1 : Hid (p < k + 1) := Lib.hid (by omega)
                clear hb hpk hks1 hks hYe hkl
                go_wp2_with fail
                refine wp_region_noPanic ?_
                refine wp_region_held_drew (S := fun w' => Below wr.heap.size wr w') (by kernel_rfl) ((Below.refl _ _).drew) (fun hHeld => ?_)
                generalize wr.drew = wy at *
                refine wpAnyH_take (i := 0) (v := .bool true) rfl (by kernel_rfl) (by kernel_rfl) (by kernel_rfl) (fun _ _ _ h => h) (Or.inl ⟨by rfl, fun w' hSw => by go_simp⟩) hHeld ?_
                try simp only [Act.put, List.getElem_toArray, List.getElem_cons_succ, List.getElem_cons_zero, List.setIfInBounds_toArray, List.set_cons_zero, List.set_cons_succ]
                refine wpAnyH_take (i := 1) (v := .bool false) rfl (by kernel_rfl) (by kernel_rfl) (by kernel_rfl) (fun _ _ _ h => h) (Or.inl ⟨by rfl, fun w' hSw => by go_simp⟩) hHeld ?_
                try simp only [Act.put, List.getElem_toArray, List.getElem_cons_succ, List.getElem_cons_zero, List.setIfInBounds_toArray, List.set_cons_zero, List.set_cons_succ]
                refine wpAnyH_take (i := 2) (v := .bool false) rfl (by kernel_rfl) (by kernel_rfl) (by kernel_rfl) (fun _ _ _ h => h) (Or.inl ⟨by rfl, fun w' hSw => by go_simp⟩) hHeld ?_
                try simp only [Act.put, List.getElem_toArray, List.getElem_cons_succ, List.getElem_cons_zero, List.setIfInBounds_toArray, List.set_cons_zero, List.set_cons_succ]
                refine wpAnyH_take (i := 3) (v := undef) rfl (by kernel_rfl) (by kernel_rfl) (by kernel_rfl) (fun _ _ _ h => h) (Or.inr ⟨by rfl, rfl⟩) hHeld ?_
                try simp only [Act.put, List.getElem_toArray, List.getElem_cons_succ, List.getElem_cons_zero, List.setIfInBounds_toArray, List.set_cons_zero, List.set_cons_succ]
                refine wpAnyH_take (i := 4) (v := undef) rfl (by kernel_rfl) (by kernel_rfl) (by kernel_rfl) (fun _ _ _ h => h) (Or.inr ⟨by rfl, rfl⟩) hHeld ?_
                try simp only [Act.put, List.getElem_toArray, List.getElem_cons_succ, List.getElem_cons_zero, List.setIfInBounds_toArray, List.set_cons_zero, List.set_cons_succ]
                refine wpAnyH_take (i := 5) (v := undef) rfl (by kernel_rfl) (by kernel_rfl) (by kernel_rfl) (fun _ _ _ h => h) (Or.inr ⟨by rfl, rfl⟩) hHeld ?_
                try simp only [Act.put, List.getElem_toArray, List.getElem_cons_succ, List.getElem_cons_zero, List.setIfInBounds_toArray, List.set_cons_zero, List.set_cons_succ]
                refine wpAnyH_take (i := 6) (v := undef) rfl (by kernel_rfl) (by kernel_rfl) (by kernel_rfl) (fun _ _ _ h => h) (Or.inr ⟨by rfl, rfl⟩) hHeld ?_
                try simp only [Act.put, List.getElem_toArray, List.getElem_cons_succ, List.getElem_cons_zero, List.setIfInBounds_toArray, List.set_cons_zero, List.set_cons_succ]
                refine wpAnyH_take (i := 7) (v := undef) rfl (by kernel_rfl) (by kernel_rfl) (by kernel_rfl) (fun _ _ _ h => h) (Or.inr ⟨by rfl, rfl⟩) hHeld ?_
                try simp only [Act.put, List.getElem_toArray, List.getElem_cons_succ, List.getElem_cons_zero, List.setIfInBounds_toArray, List.set_cons_zero, List.set_cons_succ]
                refine wpAnyH_take (i := 8) (v := undef) rfl (by kernel_rfl) (by kernel_rfl) (by kernel_rfl) (fun _ _ _ h => h) (Or.inr ⟨by rfl, rfl⟩) hHeld ?_
                try simp only [Act.put, List.getElem_toArray, List.getElem_cons_succ, List.getElem_cons_zero, List.setIfInBounds_toArray, List.set_cons_zero, List.set_cons_succ]
                refine wpAnyH_take (i := 9) (v := undef) rfl (by kernel_rfl) (by kernel_rfl) (by kernel_rfl) (fun _ _ _ h => h) (Or.inr ⟨by rfl, rfl⟩) hHeld ?_
                try simp only [Act.put, List.getElem_toArray, List.getElem_cons_succ, List.getElem_cons_zero, List.setIfInBounds_toArray, List.set_cons_zero, List.set_cons_succ]
                refine wpAnyH_take (i := 10) (v := undef) rfl (by kernel_rfl) (by kernel_rfl) (by kernel_rfl) (fun _ _ _ h => h) (Or.inr ⟨by rfl, rfl⟩) hHeld ?_
                try simp only [Act.put, List.getElem_toArray, List.getElem_cons_succ, List.getElem_cons_zero, List.setIfInBounds_toArray, List.set_cons_zero, List.set_cons_succ]
                refine wpAnyH_take (i := 11) (v := undef) rfl (by kernel_rfl) (by kernel_rfl) (by kernel_rfl) (fun _ _ _ h => h) (Or.inr ⟨by rfl, rfl⟩) hHeld ?_
                try simp only [Act.put, List.getElem_toArray, List.getElem_cons_succ, List.getElem_cons_zero, List.setIfInBounds_toArray, List.set_cons_zero, List.set_cons_succ]
                refine wpAnyH_take (i := 12) (v := undef) rfl (by kernel_rfl) (by kernel_rfl) (by kernel_rfl) (fun _ _ _ h => h) (Or.inr ⟨by rfl, rfl⟩) hHeld ?_
                try simp only [Act.put, List.getElem_toArray, List.getElem_cons_succ, List.getElem_cons_zero, List.setIfInBounds_toArray, List.set_cons_zero, List.set_cons_succ]
                refine wpAnyH_take (i := 13) (v := undef) rfl (by kernel_rfl) (by kernel_rfl) (by kernel_rfl) (fun _ _ _ h => h) (Or.inr ⟨by rfl, rfl⟩) hHeld ?_
                try simp only [Act.put, List.getElem_toArray, List.getElem_cons_succ, List.getElem_cons_zero, List.setIfInBounds_toArray, List.set_cons_zero, List.set_cons_succ]
                refine wpAnyH_take (i := 14) (v := .bool false) rfl (by kernel_rfl) (by kernel_rfl) (by kernel_rfl) (fun _ _ _ h => h) (Or.inl ⟨by rfl, fun w' hSw => by go_simp⟩) hHeld ?_
                try simp only [Act.put, List.getElem_toArray, List.getElem_cons_succ, List.getElem_cons_zero, List.setIfInBounds_toArray, List.set_cons_zero, List.set_cons_succ]
                refine wpAnyH_done (by kernel_rfl) ?_ _
                refine NoPanic.normal ?_
                have HB7 := Lib.hid (two_below' HBz.out hHeld)
                have HO7 := Lib.hid (HOz.out.below hHeld)
                have HR7 := Lib.hid (HR.out _ HB7.out)
                have c1 := (HU.out.below HB7.out).pat.c1
                have HX7 := Lib.hid ((HU.out.below HB7.out).row (w.heap.size, C) (by simp))
                clear hHeld
                go_wp2_with (first
                  | ((with_reducible show wpList _ _ _ (⟨_, .load 38 (.tmp 183), _, _, _, _⟩ :: _) _ _); refine wpList_load_tx rfl 38 (.tmp 183) rfl g (k * 76) (by first | rfl | simp) D _ (HR7.out) Try.underlying38 rfl (by rw [wait_info, HD76.out]) ?_)
                  | ((with_reducible show wpList _ _ _ (⟨some 185, .buildSlice 30 _ _, _, _, _, _⟩ :: _) _ _)
                     refine wpList_push rfl rfl (.tmp 184) 185 (.tmp 177) rfl rfl rfl (Y) (HYo.out) D (HYc.out) rfl (wt2.heap.size) _ _ (HO7.out) (HB7.out.size) (HLr.out) rfl rfl ?_
                     intro v9 w9 ho9 hc9 hk9
                     have HO9 := Lib.hid ho9
                     have HB9 := Lib.hid (below_chg HB7.out hc9 HB7.out.size (fun k hk => (HO7.out.lt k hk).1))
                     clear ho9 hc9 hk9))
                exact ⟨⟨k + 1, true, by omega, by go_num, rfl, ⟨fun _ => HK1.out, fun _ => rfl⟩, by rw [HKS.out]; exact HO9.out, HB9.out⟩, by simp [intOf]; omega⟩
              | false =>
                have hpk : ¬ p < k := fun q => by cases (hb.2 q)
                by_cases q : xi < yi
                · have dq : decide (yi > xi) = true := decide_eq_true q
                  have dq' : decide (xi < yi) = true := decide_eq_true q
                  obtain ⟨hks1, hks⟩ := HHere.out k hkl hpk (by rw [hYe, hYie]; omega)
                  rw [hYe] at hks
                  have HKS := Lib.hid hks
                  have HK1 : Hid (p < k + 1) := Lib.hid (by omega)
                  clear hb hpk hks1 hks q hYe hkl hYie
                  go_wp2_with fail
                  refine wp_region_noPanic ?_
                  refine wp_region_held_drew (S := fun w' => Below wr.heap.size wr w') (by kernel_rfl) ((Below.refl _ _).drew) (fun hHeld => ?_)
                  generalize wr.drew = wy at *
                  refine wpAnyH_take (i := 0) (v := .bool false) rfl (by kernel_rfl) (by kernel_rfl) (by kernel_rfl) (fun _ _ _ h => h) (Or.inl ⟨by rfl, fun w' hSw => by go_simp⟩) hHeld ?_
                  try simp only [Act.put, List.getElem_toArray, List.getElem_cons_succ, List.getElem_cons_zero, List.setIfInBounds_toArray, List.set_cons_zero, List.set_cons_succ]
                  refine wpAnyH_take (i := 1) (v := .bool true) rfl (by kernel_rfl) (by kernel_rfl) (by kernel_rfl) (fun _ _ _ h => h) (Or.inl ⟨by rfl, fun w' hSw => by go_simp⟩) hHeld ?_
                  try simp only [Act.put, List.getElem_toArray, List.getElem_cons_succ, List.getElem_cons_zero, List.setIfInBounds_toArray, List.set_cons_zero, List.set_cons_succ]
                  refine wpAnyH_take (i := 2) (v := .bool true) rfl (by kernel_rfl) (by kernel_rfl) (by kernel_rfl) (fun _ _ _ h => h) (Or.inl ⟨by rfl, fun w' hSw => by go_simp⟩) hHeld ?_
                  try simp only [Act.put, List.getElem_toArray, List.getElem_cons_succ, List.getElem_cons_zero, List.setIfInBounds_toArray, List.set_cons_zero, List.set_cons_succ]
                  refine wpAnyH_take (i := 3) (v := .pointer (some ⟨B, 0, none⟩)) rfl (by kernel_rfl) (by kernel_rfl) (by kernel_rfl) (fun _ _ _ h => h) (Or.inl ⟨by rfl, fun w' hSw => by go_simp⟩) hHeld ?_
                  try simp only [Act.put, List.getElem_toArray, List.getElem_cons_succ, List.getElem_cons_zero, List.setIfInBounds_toArray, List.set_cons_zero, List.set_cons_succ]
                  refine wpAnyH_take (i := 4) (v := .pointer (some ⟨B, 0, none⟩)) rfl (by kernel_rfl) (by kernel_rfl) (by kernel_rfl) (fun _ _ _ h => h) (Or.inl ⟨by rfl, fun w' hSw => by go_simp⟩) hHeld ?_
                  try simp only [Act.put, List.getElem_toArray, List.getElem_cons_succ, List.getElem_cons_zero, List.setIfInBounds_toArray, List.set_cons_zero, List.set_cons_succ]
                  refine wpAnyH_take (i := 5) (v := .pointer (some ⟨B, 1, none⟩)) rfl (by kernel_rfl) (by kernel_rfl) (by kernel_rfl) (fun _ _ _ h => h) (Or.inl ⟨by rfl, fun w' hSw => by go_simp⟩) hHeld ?_
                  try simp only [Act.put, List.getElem_toArray, List.getElem_cons_succ, List.getElem_cons_zero, List.setIfInBounds_toArray, List.set_cons_zero, List.set_cons_succ]
                  refine wpAnyH_take (i := 6) (v := .slice (some ⟨g, 0, none⟩) n2 c2) rfl (by kernel_rfl) (by kernel_rfl) (by kernel_rfl) (fun _ _ _ h => h) (Or.inl ⟨by rfl, fun w' hSw => by have hq := hSw; have hd := (HU.out.below (two_below' HBz.out hq)).pat.c1; go_simp⟩) hHeld ?_
                  try simp only [Act.put, List.getElem_toArray, List.getElem_cons_succ, List.getElem_cons_zero, List.setIfInBounds_toArray, List.set_cons_zero, List.set_cons_succ]
                  refine wpAnyH_take (i := 7) (v := .int .i64 k) rfl (by kernel_rfl) (by kernel_rfl) (by kernel_rfl) (fun _ _ _ h => h) (Or.inl ⟨by rfl, fun w' hSw => by go_simp⟩) hHeld ?_
                  try simp only [Act.put, List.getElem_toArray, List.getElem_cons_succ, List.getElem_cons_zero, List.setIfInBounds_toArray, List.set_cons_zero, List.set_cons_succ]
                  refine wpAnyH_take (i := 8) (v := .pointer (some ⟨g, (k * 76), none⟩)) rfl (by kernel_rfl) (by kernel_rfl) (by kernel_rfl) (fun _ _ _ h => h) (Or.inl ⟨by rfl, fun w' hSw => by go_simp⟩) hHeld ?_
                  try simp only [Act.put, List.getElem_toArray, List.getElem_cons_succ, List.getElem_cons_zero, List.setIfInBounds_toArray, List.set_cons_zero, List.set_cons_succ]
                  refine wpAnyH_take (i := 9) (v := .pointer (some ⟨g, (k * 76 + 72), none⟩)) rfl (by kernel_rfl) (by kernel_rfl) (by kernel_rfl) (fun _ _ _ h => h) (Or.inl ⟨by rfl, fun w' hSw => by go_simp⟩) hHeld ?_
                  try simp only [Act.put, List.getElem_toArray, List.getElem_cons_succ, List.getElem_cons_zero, List.setIfInBounds_toArray, List.set_cons_zero, List.set_cons_succ]
                  refine wpAnyH_take (i := 10) (v := .int .i64 yi) rfl (by kernel_rfl) (by kernel_rfl) (by kernel_rfl) (fun _ _ _ h => h) (Or.inl ⟨by rfl, fun w' hSw => by have hq := hSw; have hd := HYi.out _ (two_below' HBz.out hq); go_simp⟩) hHeld ?_
                  try simp only [Act.put, List.getElem_toArray, List.getElem_cons_succ, List.getElem_cons_zero, List.setIfInBounds_toArray, List.set_cons_zero, List.set_cons_succ]
                  refine wpAnyH_take (i := 11) (v := .pointer (some ⟨w.heap.size, 72, none⟩)) rfl (by kernel_rfl) (by kernel_rfl) (by kernel_rfl) (fun _ _ _ h => h) (Or.inl ⟨by rfl, fun w' hSw => by go_simp⟩) hHeld ?_
                  try simp only [Act.put, List.getElem_toArray, List.getElem_cons_succ, List.getElem_cons_zero, List.setIfInBounds_toArray, List.set_cons_zero, List.set_cons_succ]
                  refine wpAnyH_take (i := 12) (v := .int .i64 xi) rfl (by kernel_rfl) (by kernel_rfl) (by kernel_rfl) (fun _ _ _ h => h) (Or.inl ⟨by rfl, fun w' hSw => by have hq := hSw; have hd := (HBx.out _ _ ((HU.out.below (two_below' HBz.out hq)).row (w.heap.size, C) (by simp))).2.2.2.1; go_simp⟩) hHeld ?_
                  try simp only [Act.put, List.getElem_toArray, List.getElem_cons_succ, List.getElem_cons_zero, List.setIfInBounds_toArray, List.set_cons_zero, List.set_cons_succ]
                  refine wpAnyH_take (i := 13) (v := .bool true) rfl (by kernel_rfl) (by kernel_rfl) (by kernel_rfl) (fun _ _ _ h => h) (Or.inl ⟨by rfl, fun w' hSw => by go_simp⟩) hHeld ?_
                  try simp only [Act.put, List.getElem_toArray, List.getElem_cons_succ, List.getElem_cons_zero, List.setIfInBounds_toArray, List.set_cons_zero, List.set_cons_succ]
                  refine wpAnyH_take (i := 14) (v := .bool true) rfl (by kernel_rfl) (by kernel_rfl) (by kernel_rfl) (fun _ _ _ h => h) (Or.inl ⟨by rfl, fun w' hSw => by go_simp⟩) hHeld ?_
                  try simp only [Act.put, List.getElem_toArray, List.getElem_cons_succ, List.getElem_cons_zero, List.setIfInBounds_toArray, List.set_cons_zero, List.set_cons_succ]
                  refine wpAnyH_done (by kernel_rfl) ?_ _
                  refine NoPanic.normal ?_
                  have HB7 := Lib.hid (two_below' HBz.out hHeld)
                  have HO7 := Lib.hid (HOz.out.below hHeld)
                  have HR7 := Lib.hid (HR.out _ HB7.out)
                  have c1 := (HU.out.below HB7.out).pat.c1
                  have HX7 := Lib.hid ((HU.out.below HB7.out).row (w.heap.size, C) (by simp))
                  clear hHeld
                  go_wp2_with (first
                    | ((with_reducible show wpList _ _ _ (⟨_, .load 38 (.tmp 3), _, _, _, _⟩ :: _) _ _); refine wpList_load_tx rfl 38 (.tmp 3) rfl w.heap.size 0 (rfl) C _ (row_range HX7.out) Try.underlying38 rfl (by rw [wait_info, HC76.out]) ?_)
                    | ((with_reducible show wpList _ _ _ (⟨some 175, .buildSlice 30 _ _, _, _, _, _⟩ :: _) _ _)
                       refine wpList_push rfl rfl (.tmp 174) 175 (.tmp 173) rfl rfl rfl (x) (HXo.out) C (HCx.out) rfl (wt2.heap.size) _ _ (HO7.out) (HB7.out.size) (HLr.out) rfl rfl ?_
                       intro v9 w9 ho9 hc9 hk9
                       have HO8 := Lib.hid ho9
                       have HB8 := Lib.hid (below_chg HB7.out hc9 HB7.out.size (fun k hk => (HO7.out.lt k hk).1))
                       have HR8 := Lib.hid (HR.out _ HB8.out)
                       have c1 := (HU.out.below HB8.out).pat.c1
                       clear ho9 hc9 hk9)
                    | ((with_reducible show wpList _ _ _ (⟨_, .load 38 (.tmp 183), _, _, _, _⟩ :: _) _ _); refine wpList_load_tx rfl 38 (.tmp 183) rfl g (k * 76) (by first | rfl | simp) D _ (HR8.out) Try.underlying38 rfl (by rw [wait_info, HD76.out]) ?_)
                    | ((with_reducible show wpList _ _ _ (⟨some 185, .buildSlice 30 _ _, _, _, _, _⟩ :: _) _ _)
                       refine wpList_push rfl rfl (.tmp 184) 185 (.tmp 177) rfl rfl rfl (Y) (HYo.out) D (HYc.out) rfl (wt2.heap.size) _ _ (HO8.out) (HB8.out.size) (HLr2.out) rfl rfl ?_
                       intro v9 w9 ho9 hc9 hk9
                       have HO9 := Lib.hid ho9
                       have HB9 := Lib.hid (below_chg HB8.out hc9 HB8.out.size (fun k hk => (HO8.out.lt k hk).1))
                       clear ho9 hc9 hk9))
                  exact ⟨⟨k + 1, true, by omega, by go_num, rfl, ⟨fun _ => HK1.out, fun _ => rfl⟩, by rw [HKS.out]; exact HO9.out, HB9.out⟩, by simp [intOf]; omega⟩
                · have dq : decide (yi > xi) = false := decide_eq_false q
                  have dq' : decide (xi < yi) = false := decide_eq_false q
                  obtain ⟨hks1, hks⟩ := HElse.out k hkl (.inr (by rw [hYe, hYie]; omega))
                  rw [hYe] at hks
                  have HKS := Lib.hid hks
                  have HK1 : Hid (¬ p < k + 1) := Lib.hid (by omega)
                  clear hb hpk hks1 hks q hYe hkl hYie
                  go_wp2_with fail
                  refine wp_region_noPanic ?_
                  refine wp_region_held_drew (S := fun w' => Below wr.heap.size wr w') (by kernel_rfl) ((Below.refl _ _).drew) (fun hHeld => ?_)
                  generalize wr.drew = wy at *
                  refine wpAnyH_take (i := 0) (v := .bool false) rfl (by kernel_rfl) (by kernel_rfl) (by kernel_rfl) (fun _ _ _ h => h) (Or.inl ⟨by rfl, fun w' hSw => by go_simp⟩) hHeld ?_
                  try simp only [Act.put, List.getElem_toArray, List.getElem_cons_succ, List.getElem_cons_zero, List.setIfInBounds_toArray, List.set_cons_zero, List.set_cons_succ]
                  refine wpAnyH_take (i := 1) (v := .bool true) rfl (by kernel_rfl) (by kernel_rfl) (by kernel_rfl) (fun _ _ _ h => h) (Or.inl ⟨by rfl, fun w' hSw => by go_simp⟩) hHeld ?_
                  try simp only [Act.put, List.getElem_toArray, List.getElem_cons_succ, List.getElem_cons_zero, List.setIfInBounds_toArray, List.set_cons_zero, List.set_cons_succ]
                  refine wpAnyH_take (i := 2) (v := .bool true) rfl (by kernel_rfl) (by kernel_rfl) (by kernel_rfl) (fun _ _ _ h => h) (Or.inl ⟨by rfl, fun w' hSw => by go_simp⟩) hHeld ?_
                  try simp only [Act.put, List.getElem_toArray, List.getElem_cons_succ, List.getElem_cons_zero, List.setIfInBounds_toArray, List.set_cons_zero, List.set_cons_succ]
                  refine wpAnyH_take (i := 3) (v := .pointer (some ⟨B, 0, none⟩)) rfl (by kernel_rfl) (by kernel_rfl) (by kernel_rfl) (fun _ _ _ h => h) (Or.inl ⟨by rfl, fun w' hSw => by go_simp⟩) hHeld ?_
                  try simp only [Act.put, List.getElem_toArray, List.getElem_cons_succ, List.getElem_cons_zero, List.setIfInBounds_toArray, List.set_cons_zero, List.set_cons_succ]
                  refine wpAnyH_take (i := 4) (v := .pointer (some ⟨B, 0, none⟩)) rfl (by kernel_rfl) (by kernel_rfl) (by kernel_rfl) (fun _ _ _ h => h) (Or.inl ⟨by rfl, fun w' hSw => by go_simp⟩) hHeld ?_
                  try simp only [Act.put, List.getElem_toArray, List.getElem_cons_succ, List.getElem_cons_zero, List.setIfInBounds_toArray, List.set_cons_zero, List.set_cons_succ]
                  refine wpAnyH_take (i := 5) (v := .pointer (some ⟨B, 1, none⟩)) rfl (by kernel_rfl) (by kernel_rfl) (by kernel_rfl) (fun _ _ _ h => h) (Or.inl ⟨by rfl, fun w' hSw => by go_simp⟩) hHeld ?_
                  try simp only [Act.put, List.getElem_toArray, List.getElem_cons_succ, List.getElem_cons_zero, List.setIfInBounds_toArray, List.set_cons_zero, List.set_cons_succ]
                  refine wpAnyH_take (i := 6) (v := .slice (some ⟨g, 0, none⟩) n2 c2) rfl (by kernel_rfl) (by kernel_rfl) (by kernel_rfl) (fun _ _ _ h => h) (Or.inl ⟨by rfl, fun w' hSw => by have hq := hSw; have hd := (HU.out.below (two_below' HBz.out hq)).pat.c1; go_simp⟩) hHeld ?_
                  try simp only [Act.put, List.getElem_toArray, List.getElem_cons_succ, List.getElem_cons_zero, List.setIfInBounds_toArray, List.set_cons_zero, List.set_cons_succ]
                  refine wpAnyH_take (i := 7) (v := .int .i64 k) rfl (by kernel_rfl) (by kernel_rfl) (by kernel_rfl) (fun _ _ _ h => h) (Or.inl ⟨by rfl, fun w' hSw => by go_simp⟩) hHeld ?_
                  try simp only [Act.put, List.getElem_toArray, List.getElem_cons_succ, List.getElem_cons_zero, List.setIfInBounds_toArray, List.set_cons_zero, List.set_cons_succ]
                  refine wpAnyH_take (i := 8) (v := .pointer (some ⟨g, (k * 76), none⟩)) rfl (by kernel_rfl) (by kernel_rfl) (by kernel_rfl) (fun _ _ _ h => h) (Or.inl ⟨by rfl, fun w' hSw => by go_simp⟩) hHeld ?_
                  try simp only [Act.put, List.getElem_toArray, List.getElem_cons_succ, List.getElem_cons_zero, List.setIfInBounds_toArray, List.set_cons_zero, List.set_cons_succ]
                  refine wpAnyH_take (i := 9) (v := .pointer (some ⟨g, (k * 76 + 72), none⟩)) rfl (by kernel_rfl) (by kernel_rfl) (by kernel_rfl) (fun _ _ _ h => h) (Or.inl ⟨by rfl, fun w' hSw => by go_simp⟩) hHeld ?_
                  try simp only [Act.put, List.getElem_toArray, List.getElem_cons_succ, List.getElem_cons_zero, List.setIfInBounds_toArray, List.set_cons_zero, List.set_cons_succ]
                  refine wpAnyH_take (i := 10) (v := .int .i64 yi) rfl (by kernel_rfl) (by kernel_rfl) (by kernel_rfl) (fun _ _ _ h => h) (Or.inl ⟨by rfl, fun w' hSw => by have hq := hSw; have hd := HYi.out _ (two_below' HBz.out hq); go_simp⟩) hHeld ?_
                  try simp only [Act.put, List.getElem_toArray, List.getElem_cons_succ, List.getElem_cons_zero, List.setIfInBounds_toArray, List.set_cons_zero, List.set_cons_succ]
                  refine wpAnyH_take (i := 11) (v := .pointer (some ⟨w.heap.size, 72, none⟩)) rfl (by kernel_rfl) (by kernel_rfl) (by kernel_rfl) (fun _ _ _ h => h) (Or.inl ⟨by rfl, fun w' hSw => by go_simp⟩) hHeld ?_
                  try simp only [Act.put, List.getElem_toArray, List.getElem_cons_succ, List.getElem_cons_zero, List.setIfInBounds_toArray, List.set_cons_zero, List.set_cons_succ]
                  refine wpAnyH_take (i := 12) (v := .int .i64 xi) rfl (by kernel_rfl) (by kernel_rfl) (by kernel_rfl) (fun _ _ _ h => h) (Or.inl ⟨by rfl, fun w' hSw => by have hq := hSw; have hd := (HBx.out _ _ ((HU.out.below (two_below' HBz.out hq)).row (w.heap.size, C) (by simp))).2.2.2.1; go_simp⟩) hHeld ?_
                  try simp only [Act.put, List.getElem_toArray, List.getElem_cons_succ, List.getElem_cons_zero, List.setIfInBounds_toArray, List.set_cons_zero, List.set_cons_succ]
                  refine wpAnyH_take (i := 13) (v := .bool false) rfl (by kernel_rfl) (by kernel_rfl) (by kernel_rfl) (fun _ _ _ h => h) (Or.inl ⟨by rfl, fun w' hSw => by go_simp⟩) hHeld ?_
                  try simp only [Act.put, List.getElem_toArray, List.getElem_cons_succ, List.getElem_cons_zero, List.setIfInBounds_toArray, List.set_cons_zero, List.set_cons_succ]
                  refine wpAnyH_take (i := 14) (v := .bool false) rfl (by kernel_rfl) (by kernel_rfl) (by kernel_rfl) (fun _ _ _ h => h) (Or.inl ⟨by rfl, fun w' hSw => by go_simp⟩) hHeld ?_
                  try simp only [Act.put, List.getElem_toArray, List.getElem_cons_succ, List.getElem_cons_zero, List.setIfInBounds_toArray, List.set_cons_zero, List.set_cons_succ]
                  refine wpAnyH_done (by kernel_rfl) ?_ _
                  refine NoPanic.normal ?_
                  have HB7 := Lib.hid (two_below' HBz.out hHeld)
                  have HO7 := Lib.hid (HOz.out.below hHeld)
                  have HR7 := Lib.hid (HR.out _ HB7.out)
                  have c1 := (HU.out.below HB7.out).pat.c1
                  have HX7 := Lib.hid ((HU.out.below HB7.out).row (w.heap.size, C) (by simp))
                  clear hHeld
                  go_wp2_with (first
                    | ((with_reducible show wpList _ _ _ (⟨_, .load 38 (.tmp 183), _, _, _, _⟩ :: _) _ _); refine wpList_load_tx rfl 38 (.tmp 183) rfl g (k * 76) (by first | rfl | simp) D _ (HR7.out) Try.underlying38 rfl (by rw [wait_info, HD76.out]) ?_)
                    | ((with_reducible show wpList _ _ _ (⟨some 185, .buildSlice 30 _ _, _, _, _, _⟩ :: _) _ _)
                       refine wpList_push rfl rfl (.tmp 184) 185 (.tmp 177) rfl rfl rfl (Y) (HYo.out) D (HYc.out) rfl (wt2.heap.size) _ _ (HO7.out) (HB7.out.size) (HLr.out) rfl rfl ?_
                       intro v9 w9 ho9 hc9 hk9
                       have HO9 := Lib.hid ho9
                       have HB9 := Lib.hid (below_chg HB7.out hc9 HB7.out.size (fun k hk => (HO7.out.lt k hk).1))
                       clear ho9 hc9 hk9))
                  exact ⟨⟨k + 1, false, by omega, by go_num, rfl, ⟨fun e => (by cases e), fun e => absurd e HK1.out⟩, by rw [HKS.out]; exact HO9.out, HB9.out⟩, by simp [intOf]; omega⟩
            · have hki : ¬ (k : Int) < (n2 : Int) := by omega
              have hkn2 : k = L.length := by have := HLn.out; omega
              obtain ⟨hE1, hE2⟩ := HEnd.out
              cases b with
              | true =>
                have hpk : p < k := hb.1 rfl
                have HE : Hid (IK k = Pl.ins L x) := Lib.hid (by rw [hkn2] at hpk ⊢; exact hE1 hpk)
                clear hE1 hE2 hpk hb hkn hkn2
                have hoz := HOz.out
                rw [HE.out] at hoz
                obtain ⟨A3, c3, rfl, _, _⟩ := hoz.form
                obtain ⟨n3, hn3⟩ : ∃ n3, (Pl.ins L x).length = n3 := ⟨_, rfl⟩
                rw [hn3] at hoz ⊢
                have HOf := Lib.hid hoz
                have HBf := HBz
                have HRw := Lib.hid (HU.out.below HBz.out).pat.row
                clear hn3 hoz HOz
                go_wp2_with (first
                  | ((with_reducible show wpList _ _ _ (⟨_, .store 30 _ _, _, _, _, _⟩ :: _) _ _)
                     refine wpList_store_sl rfl 30 (.tmp 196) (.tmp 194) rfl B 1 32 [.int .i64 size, .slice A2 n2 c2] A3 n3 c3 rfl rfl (HRw.out) (by simp) rfl ?_
                     intro w8 hr8 hg8
                     obtain ⟨v9, hU8⟩ := HU.out.inserted (HOf.out.mono (Nat.le_trans HU.out.pat.lo (Nat.le_of_lt HU.out.pat.row.lt))) (Chg.of_below HBf.out) (fun k hk => .inr (HOf.out.lt k hk).1) HRw.out hr8 hg8 HOkI.out (by decide)
                     have HU8 := Lib.hid hU8
                     clear hU8
                     clear hr8 hg8)
                  | ((with_reducible show wpList _ _ _ (⟨_, .load 38 (.tmp 9), _, _, _, _⟩ :: _) _ _); refine wpList_load_tx rfl 38 (.tmp 9) rfl g9 0 (rfl) CG _ (row_range (HU8.out.row (g9, CG) (by simp))) Try.underlying38 rfl (by rw [wait_info, HG76.out]) ?_)
                  | (
                     with_reducible show wpList _ _ _ (⟨_, .store 38 (.tmp 4) _, _, _, _, _⟩ :: _) _ _
                     refine wpList_store_at rfl 38 (.tmp 4) (.tmp 197) rfl (w.heap.size + 1) 0 CG ZT _ rfl rfl (HU8.out.row (w.heap.size + 1, ZT) (by simp)) (by have := HZ76.out; have := HG76.out; omega) (by rw [wait_info, HG76.out]) HG1.out ?_
                     intro wx hr hg
                     rw [splice_all (HG76.out.trans HZ76.out.symm)] at hr
                     have HR4f := Lib.hid hr
                     have HU9 := Lib.hid (HU8.out.write (rows' := [(w.heap.size + 1, CG)]) hg hr ⟨ZT, by simp⟩ (by intro x hx; simp only [List.mem_cons, List.not_mem_nil, or_false] at hx; exact .inl hx))
                     clear hr hg))
                (try simp only [Exit.inBlock, Exit.then])
                refine bodyPost_ret (results_row3 rfl _ _ (w.heap.size + 1) 38 CG _ rfl HR4f.out Try.underlying38 rfl (by rw [wait_info]; simp [HG76.out]) _ _ rfl rfl) rfl ⟨by rw [HCGe.out]; rfl, HU9.out.to⟩
              | false =>
                have hpk : ¬ p < k := fun q => by cases (hb.2 q)
                have HE : Hid (IK k ++ [x] = Pl.ins L x) := Lib.hid (by rw [hkn2] at hpk ⊢; exact hE2 hpk)
                clear hE1 hE2 hpk hb hkn hkn2
                go_wp2_with (first
                  | ((with_reducible show wpList _ _ _ (⟨_, .load 38 (.tmp 3), _, _, _, _⟩ :: _) _ _); refine wpList_load_tx rfl 38 (.tmp 3) rfl w.heap.size 0 (rfl) C _ (row_range HXz.out) Try.underlying38 rfl (by rw [wait_info, HC76.out]) ?_)
                  | ((with_reducible show wpList _ _ _ (⟨some 191, .buildSlice 30 _ _, _, _, _, _⟩ :: _) _ _)
                     refine wpList_push rfl rfl (.tmp 190) 191 (.tmp 189) rfl rfl rfl (x) (HXo.out) C (HCx.out) rfl (wt2.heap.size) _ _ (HOz.out) (HBz.out.size) (HLr.out) rfl rfl ?_
                     intro v9 w9 ho9 hc9 hk9
                     rw [HE.out] at ho9
                     have hbf := below_chg HBz.out hc9 HBz.out.size (fun k hk => (HOz.out.lt k hk).1)
                     obtain ⟨A3, c3, rfl, _, _⟩ := ho9.form
                     obtain ⟨n3, hn3⟩ : ∃ n3, (Pl.ins L x).length = n3 := ⟨_, rfl⟩
                     rw [hn3] at ho9 ⊢
                     have HOf := Lib.hid ho9
                     have HBf := Lib.hid hbf
                     have HRw := Lib.hid (HU.out.below hbf).pat.row
                     clear hn3 hbf
                     clear ho9 hc9 hk9)
                  | ((with_reducible show wpList _ _ _ (⟨_, .store 30 _ _, _, _, _, _⟩ :: _) _ _)
                     refine wpList_store_sl rfl 30 (.tmp 196) (.tmp 194) rfl B 1 32 [.int .i64 size, .slice A2 n2 c2] A3 n3 c3 rfl rfl (HRw.out) (by simp) rfl ?_
                     intro w8 hr8 hg8
                     obtain ⟨v9, hU8⟩ := HU.out.inserted (HOf.out.mono (Nat.le_trans HU.out.pat.lo (Nat.le_of_lt HU.out.pat.row.lt))) (Chg.of_below HBf.out) (fun k hk => .inr (HOf.out.lt k hk).1) HRw.out hr8 hg8 HOkI.out (by decide)
                     have HU8 := Lib.hid hU8
                     clear hU8
                     clear hr8 hg8)
                  | ((with_reducible show wpList _ _ _ (⟨_, .load 38 (.tmp 9), _, _, _, _⟩ :: _) _ _); refine wpList_load_tx rfl 38 (.tmp 9) rfl g9 0 (rfl) CG _ (row_range (HU8.out.row (g9, CG) (by simp))) Try.underlying38 rfl (by rw [wait_info, HG76.out]) ?_)
                  | (
                     with_reducible show wpList _ _ _ (⟨_, .store 38 (.tmp 4) _, _, _, _, _⟩ :: _) _ _
                     refine wpList_store_at rfl 38 (.tmp 4) (.tmp 197) rfl (w.heap.size + 1) 0 CG ZT _ rfl rfl (HU8.out.row (w.heap.size + 1, ZT) (by simp)) (by have := HZ76.out; have := HG76.out; omega) (by rw [wait_info, HG76.out]) HG1.out ?_
                     intro wx hr hg
                     rw [splice_all (HG76.out.trans HZ76.out.symm)] at hr
                     have HR4f := Lib.hid hr
                     have HU9 := Lib.hid (HU8.out.write (rows' := [(w.heap.size + 1, CG)]) hg hr ⟨ZT, by simp⟩ (by intro x hx; simp only [List.mem_cons, List.not_mem_nil, or_false] at hx; exact .inl hx))
                     clear hr hg))
                (try simp only [Exit.inBlock, Exit.then])
                refine bodyPost_ret (results_row3 rfl _ _ (w.heap.size + 1) 38 CG _ rfl HR4f.out Try.underlying38 rfl (by rw [wait_info]; simp [HG76.out]) _ _ rfl rfl) rfl ⟨by rw [HCGe.out]; rfl, HU9.out.to⟩
end Go.Proofs.Ytoicpidiejhjeaa
