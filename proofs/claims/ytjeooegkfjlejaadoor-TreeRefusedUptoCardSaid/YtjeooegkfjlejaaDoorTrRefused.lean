/- TreeRefused: the law's walk. -/
import Derived.Test.YtjeooegkfjlejaaDoorTrFinal
namespace Go.Proofs.YtjeooegkfjlejaaDoor
open Go.RowKit
set_option linter.unusedVariables false
set_option linter.unusedSimpArgs false

/-- the law's box of its act -/
def RfIn2 (b0 : Nat) (C : List Value) (W : World) : Prop := Row W b0 34 C
theorem RfIn2.below {b0 : Nat} {C : List Value} {W W' : World} (h : RfIn2 b0 C W) (hb : Below W.heap.size W W') : RfIn2 b0 C W' := Row.below h hb
set_option maxRecDepth 20000 in
set_option maxHeartbeats 6400000 in
theorem treeRefused_any (acts : List Ac) (A : Option Addr) (c : Nat) (a : Ac) (w : World) (hin : AcsIn w w.heap.size A c acts) (ha : a.In w w.heap.size) (hT : Tab w) :
    Calls Tryd.prog 7 #[.slice A acts.length c, .agg a.cells.toArray] w fun e w' => e = .returned (.bool true) ∧ Below w.heap.size w w' := by
  have hb0 := (Below.refl w.heap.size w).alloc (Nat.le_refl _) (.cells a.cells.toArray 34)
  have HR0 : Hid (RfIn2 w.heap.size a.cells _) := Lib.hid (Row.new w 34 a.cells)
  have HCb : Hid (∀ W, RfIn2 w.heap.size a.cells W → W.cell? ⟨w.heap.size, 1, none⟩ = some (.int .i64 a.under) ∧ W.cell? ⟨w.heap.size, 2, none⟩ = some (.int .i64 a.salt) ∧ W.cell? ⟨w.heap.size, 3, none⟩ = some (.slice a.A a.L.length a.cap)) := Lib.hid (fun W h => ⟨Row.cell h 1 (by simp [Ac.cells]), Row.cell h 2 (by simp [Ac.cells]), Row.cell h 3 (by simp [Ac.cells])⟩)
  have N1 := Lib.hid (newS 2 w _ (by decide) (by decide) hT hb0)
  have AW' := Lib.hid (fun W (hW : Below w.heap.size w W) => awake11_any W (hT.below hW hT.pos))
  have HFw : Hid (∀ W, Below w.heap.size w W → Calls Tryd.prog 34 #[.slice a.A a.L.length a.cap] W fun e w' => e = .returned (.slice a.A (few11 a.L).length a.cap) ∧ W = w') := Lib.hid (fun W hW => few11_any a.A a.cap a.L w.heap.size W (ha.1.below hW))
  have HTw0 : Hid (∀ P D de L W, StAt w W P D de L → Calls Tryd.prog 33 #[.pointer (some ⟨P, 0, none⟩), .int .i64 a.under, .slice a.A (few11 a.L).length a.cap, .int .i64 a.salt] W fun e w' => e = .returned (.int .i64 (Tr.turnC L a.under ((few11 a.L).map Sv.its) a.salt)) ∧ StAt w w' P D (Tr.turnD de L a.under ((few11 a.L).map Sv.its) a.salt) (Tr.turnL L a.under ((few11 a.L).map Sv.its) a.salt) ∧ Keep W w') := Lib.hid (fun P D de L W hW => turnS hW a.under a.salt ha.2.2.2 a.A a.cap (few11 a.L) (ha.1.few) (by unfold few11; rw [List.length_take]; omega) hT)
  have HBm0 : Hid (((few11 a.L).map Sv.its).length = (few11 a.L).length) := Lib.hid (List.length_map ..)
  obtain ⟨akd, und, sl, Ax, cx, Lx⟩ := a
  simp only at HCb HFw HTw0 HBm0
  generalize Ac.cells ⟨akd, und, sl, Ax, cx, Lx⟩ = C at *
  obtain ⟨bl, hbl⟩ : ∃ bl, bl = (few11 Lx).map Sv.its := ⟨_, rfl⟩
  rw [← hbl] at HTw0 HBm0
  obtain ⟨m, hm⟩ : ∃ m, m = (few11 Lx).length := ⟨_, rfl⟩
  rw [← hm] at HFw HTw0 HBm0
  have HBm := HBm0
  obtain ⟨mx, hmx⟩ : ∃ mx, mx = Lx.length := ⟨_, rfl⟩
  rw [← hmx] at HCb HFw
  have HIn := Lib.hid hin
  have HT := Lib.hid hT
  obtain ⟨n, hn⟩ : ∃ n, n = acts.length := ⟨_, rfl⟩
  rw [← hn]
  have HN := Lib.hid hn
  have hn1 : n ≤ 1000000000000 := by rw [hn]; exact hin.2.1
  clear hin hT hn ha hb0 HBm0 hbl hm hmx
  go_enter Tryd.func7, Tryd.ntmps7
  go_wp2_with fail
  refine N1.out.mono ?_
  rintro _ w1 ⟨⟨P, rfl, hs1⟩, hb1⟩
  have HRb1 := Lib.hid (RfIn2.below HR0.out hb1)
  clear hb1
  go_wp2_with fail
  refine (AW'.out _ hs1.1).mono ?_
  rintro _ w2 ⟨rfl, hb2⟩
  have HS0 := Lib.hid (hs1.below hb2)
  have HRb0 := Lib.hid (RfIn2.below HRb1.out hb2)
  clear hs1 hb2 N1 AW' HR0 HRb1
  obtain ⟨D, hD⟩ : ∃ D : Int, D = 2 := ⟨_, rfl⟩
  obtain ⟨de, hde⟩ : ∃ de : Int, de = 0 := ⟨_, rfl⟩
  rw [← hD, ← hde] at HS0
  have HDe := Lib.hid hde
  clear hD hde
  go_wp2_with fail
  go_loopw [7] (fun i wr => ∃ (k : Nat) (L : List Tr.Lk), k ≤ n ∧ i = .int .i64 k ∧ StAt w wr P D de L ∧ RfIn2 w.heap.size C wr) (fun i _ => n - (intOf i).toNat)
  case atStart => exact ⟨0, _, Nat.zero_le _, rfl, HS0.out, HRb0.out⟩
  case round =>
    obtain ⟨k, L, hk, rfl, hst, hrb⟩ := hrel
    have HSt := Lib.hid hst
    have HRb := Lib.hid hrb
    clear hst HS0 hrb HRb0
    by_cases hkn : k < n ∧ k < 20
    · have hki : (k : Int) < (n : Int) := by omega
      have hk5 : (k : Int) < 20 := by omega
      clear HCb HFw HTw0 HBm
      clear und sl Ax cx Lx bl m mx
      obtain ⟨g, off, rfl, hcl⟩ := HIn.out.at_ (k := k) (by rw [← HN.out]; exact hkn.1)
      have hxi := HIn.out.2.2 _ (List.getElem_mem (show k < acts.length by rw [← HN.out]; exact hkn.1))
      generalize acts[k]'(by rw [← HN.out]; exact hkn.1) = x at hcl hxi
      have HF1 : Hid (∀ W, Below w.heap.size w W → Calls Tryd.prog 32 #[.slice x.A x.L.length x.cap] W fun e w' => e = .returned (.slice (first11 x.L).A (first11 x.L).its.length (first11 x.L).cap) ∧ W = w') := Lib.hid (fun W hW => first11_any x.A x.cap x.L w.heap.size W (hxi.1.below hW))
      have HM : Hid (∀ W, StAt w W P D de L → Calls Tryd.prog 31 #[.pointer (some ⟨P, 0, none⟩), .slice (first11 x.L).A (first11 x.L).its.length (first11 x.L).cap, .int .i64 x.salt] W fun e w' => (∃ v, e = .returned v) ∧ StAt w w' P D de (Tr.mineL L (first11 x.L).its x.salt) ∧ Keep W w') := Lib.hid (fun W hW => (mineS hW _ _ _ x.salt hxi.2.2.2 (first11_in hxi) HT.out).mono (fun e w' h => ⟨⟨_, h.1⟩, h.2⟩))
      have HF2 : Hid (∀ W, Below w.heap.size w W → Calls Tryd.prog 34 #[.slice x.A x.L.length x.cap] W fun e w' => e = .returned (.slice x.A (few11 x.L).length x.cap) ∧ W = w') := Lib.hid (fun W hW => few11_any x.A x.cap x.L w.heap.size W (hxi.1.below hW))
      have HTu : Hid (∀ W, StAt w W P D de L → Calls Tryd.prog 33 #[.pointer (some ⟨P, 0, none⟩), .int .i64 x.under, .slice x.A (few11 x.L).length x.cap, .int .i64 x.salt] W fun e w' => (∃ v, e = .returned v) ∧ StAt w w' P D (Tr.turnD de L x.under ((few11 x.L).map Sv.its) x.salt) (Tr.turnL L x.under ((few11 x.L).map Sv.its) x.salt) ∧ Keep W w') := Lib.hid (fun W hW => (turnS hW x.under x.salt hxi.2.2.2 x.A x.cap (few11 x.L) (hxi.1.few) (by unfold few11; rw [List.length_take]; omega) HT.out).mono (fun e w' h => ⟨⟨_, h.1⟩, h.2⟩))
      have HCl := Lib.hid hcl
      have HXu : Hid (Tx.fits x.under) := Lib.hid hxi.2.2.1
      have ckd := (hcl wr HSt.out.1).1
      have cun := (hcl wr HSt.out.1).2.1
      clear hcl hxi
      obtain ⟨kd, und, sl, Ax, cx, Lx⟩ := x
      simp only at HF1 HM HF2 HTu HCl ckd cun HXu
      generalize first11 Lx = y1 at *
      generalize few11 Lx = y2 at *
      generalize Lx.length = mx at *
      obtain ⟨yA, yc, yi⟩ := y1
      simp only at HF1 HM
      go_wp2_with fail
      clear ckd cun hk5
      have HSq := Lib.hid (HSt.out.below ((Below.refl wr.heap.size wr).drew))
      refine wp_region_noPanic ?_
      refine wp_region_held_drew (S := fun w' => Below w.heap.size w w') (by kernel_rfl) (HSt.out.1.drew) (fun hHeld => ?_)
      obtain ⟨wq, hwq⟩ : ∃ x, x = wr.drew := ⟨_, rfl⟩
      have HQe := Lib.hid hwq
      rw [← hwq] at hHeld HSq ⊢
      clear hwq
      refine wpAnyH_take (i := 0) (v := .pointer (some ⟨P, 0, none⟩)) rfl (by kernel_rfl) (by kernel_rfl) (by kernel_rfl) (fun _ _ _ h => h) (Or.inl ⟨by rfl, fun w' hSw => by go_simp⟩) hHeld ?_
      try simp only [Act.put, List.getElem_toArray, List.getElem_cons_succ, List.getElem_cons_zero, List.setIfInBounds_toArray, List.set_cons_zero, List.set_cons_succ]
      refine wpAnyH_take (i := 1) (v := .slice (some ⟨g, off, none⟩) n c) rfl (by kernel_rfl) (by kernel_rfl) (by kernel_rfl) (fun _ _ _ h => h) (Or.inl ⟨by rfl, fun w' hSw => by go_simp⟩) hHeld ?_
      try simp only [Act.put, List.getElem_toArray, List.getElem_cons_succ, List.getElem_cons_zero, List.setIfInBounds_toArray, List.set_cons_zero, List.set_cons_succ]
      refine wpAnyH_take (i := 2) (v := .int .i64 k) rfl (by kernel_rfl) (by kernel_rfl) (by kernel_rfl) (fun _ _ _ h => h) (Or.inl ⟨by rfl, fun w' hSw => by go_simp⟩) hHeld ?_
      try simp only [Act.put, List.getElem_toArray, List.getElem_cons_succ, List.getElem_cons_zero, List.setIfInBounds_toArray, List.set_cons_zero, List.set_cons_succ]
      refine wpAnyH_take (i := 3) (v := .pointer (some ⟨g, (off + k * 4), none⟩)) rfl (by kernel_rfl) (by kernel_rfl) (by kernel_rfl) (fun _ _ _ h => h) (Or.inl ⟨by rfl, fun w' hSw => by go_simp⟩) hHeld ?_
      try simp only [Act.put, List.getElem_toArray, List.getElem_cons_succ, List.getElem_cons_zero, List.setIfInBounds_toArray, List.set_cons_zero, List.set_cons_succ]
      refine wpAnyH_take (i := 4) (v := .pointer (some ⟨g, (off + k * 4 + 3), none⟩)) rfl (by kernel_rfl) (by kernel_rfl) (by kernel_rfl) (fun _ _ _ h => h) (Or.inl ⟨by rfl, fun w' hSw => by go_simp⟩) hHeld ?_
      try simp only [Act.put, List.getElem_toArray, List.getElem_cons_succ, List.getElem_cons_zero, List.setIfInBounds_toArray, List.set_cons_zero, List.set_cons_succ]
      refine wpAnyH_take (i := 5) (v := .slice Ax mx cx) rfl (by kernel_rfl) (by kernel_rfl) (by kernel_rfl) (fun _ _ _ h => h) (Or.inl ⟨by rfl, fun w' hSw => by have hq := hSw; have hd := (HCl.out _ hq).2.2.2; go_simp⟩) hHeld ?_
      try simp only [Act.put, List.getElem_toArray, List.getElem_cons_succ, List.getElem_cons_zero, List.setIfInBounds_toArray, List.set_cons_zero, List.set_cons_succ]
      refine wpAnyH_take (i := 7) (v := .slice (some ⟨g, off, none⟩) n c) rfl (by kernel_rfl) (by kernel_rfl) (by kernel_rfl) (fun _ _ _ h => h) (Or.inl ⟨by rfl, fun w' hSw => by go_simp⟩) hHeld ?_
      try simp only [Act.put, List.getElem_toArray, List.getElem_cons_succ, List.getElem_cons_zero, List.setIfInBounds_toArray, List.set_cons_zero, List.set_cons_succ]
      refine wpAnyH_take (i := 8) (v := .int .i64 k) rfl (by kernel_rfl) (by kernel_rfl) (by kernel_rfl) (fun _ _ _ h => h) (Or.inl ⟨by rfl, fun w' hSw => by go_simp⟩) hHeld ?_
      try simp only [Act.put, List.getElem_toArray, List.getElem_cons_succ, List.getElem_cons_zero, List.setIfInBounds_toArray, List.set_cons_zero, List.set_cons_succ]
      refine wpAnyH_take (i := 9) (v := .pointer (some ⟨g, (off + k * 4), none⟩)) rfl (by kernel_rfl) (by kernel_rfl) (by kernel_rfl) (fun _ _ _ h => h) (Or.inl ⟨by rfl, fun w' hSw => by go_simp⟩) hHeld ?_
      try simp only [Act.put, List.getElem_toArray, List.getElem_cons_succ, List.getElem_cons_zero, List.setIfInBounds_toArray, List.set_cons_zero, List.set_cons_succ]
      refine wpAnyH_take (i := 10) (v := .pointer (some ⟨g, (off + k * 4 + 2), none⟩)) rfl (by kernel_rfl) (by kernel_rfl) (by kernel_rfl) (fun _ _ _ h => h) (Or.inl ⟨by rfl, fun w' hSw => by go_simp⟩) hHeld ?_
      try simp only [Act.put, List.getElem_toArray, List.getElem_cons_succ, List.getElem_cons_zero, List.setIfInBounds_toArray, List.set_cons_zero, List.set_cons_succ]
      refine wpAnyH_take (i := 11) (v := .int .i64 sl) rfl (by kernel_rfl) (by kernel_rfl) (by kernel_rfl) (fun _ _ _ h => h) (Or.inl ⟨by rfl, fun w' hSw => by have hq := hSw; have hd := (HCl.out _ hq).2.2.1; go_simp⟩) hHeld ?_
      try simp only [Act.put, List.getElem_toArray, List.getElem_cons_succ, List.getElem_cons_zero, List.setIfInBounds_toArray, List.set_cons_zero, List.set_cons_succ]
      refine wpAnyH_ready (rs := [6]) (by kernel_rfl) (by simp) (AllReadyH.cons rfl (fun K1 hK1 => ?_) AllReadyH.nil)
      try simp only [Act.put, List.getElem_toArray, List.getElem_cons_succ, List.getElem_cons_zero, List.setIfInBounds_toArray, List.set_cons_zero, List.set_cons_succ]
      go_simp
      refine Calls.mono (HF1.out _ hHeld) ?_
      rintro e w2 ⟨rfl, rfl⟩
      refine hK1.out _ _ (hHeld) (fun hHeld => ?_)
      clear hK1 K1
      try simp only [Act.put, List.getElem_toArray, List.getElem_cons_succ, List.getElem_cons_zero, List.setIfInBounds_toArray, List.set_cons_zero, List.set_cons_succ]
      refine wpAnyH_ready (rs := [12]) (by kernel_rfl) (by simp) (AllReadyH.cons rfl (fun K1 hK1 => ?_) AllReadyH.nil)
      try simp only [Act.put, List.getElem_toArray, List.getElem_cons_succ, List.getElem_cons_zero, List.setIfInBounds_toArray, List.set_cons_zero, List.set_cons_succ]
      go_simp
      refine Calls.mono (HM.out _ HSq.out) ?_
      rintro e w2 ⟨⟨v2, rfl⟩, hst2, hkp2⟩
      have HS2 := Lib.hid hst2
      have HK2 := Lib.hid ((Keep.of_below ((Below.refl wr.heap.size wr).drew)).trans (HQe.out ▸ hkp2))
      have hb2 := hst2.1
      clear hst2 hkp2
      refine hK1.out _ _ (hb2) (fun hHeld => ?_)
      clear hK1 K1
      try simp only [Act.put, List.getElem_toArray, List.getElem_cons_succ, List.getElem_cons_zero, List.setIfInBounds_toArray, List.set_cons_zero, List.set_cons_succ]
      refine wpAnyH_done (by kernel_rfl) ?_ _
      refine NoPanic.normal ?_
      clear hHeld
      go_wp2_with fail
      exact ⟨⟨k + 1, _, by omega, by go_num, HS2.out, HK2.out.row HRb.out (by decide) (by decide)⟩, by simp [intOf]; omega⟩
    · have key : ∀ (Q : Prop), ((¬ k < n → Q) ∧ (k < n → ¬ k < 20 → Q)) → Q := fun Q h => by
        by_cases q : k < n
        · exact h.2 q (fun q2 => hkn ⟨q, q2⟩)
        · exact h.1 q
      clear hkn
      have HTw : Hid (∀ W, StAt w W P D de L → Calls Tryd.prog 33 #[.pointer (some ⟨P, 0, none⟩), .int .i64 und, .slice Ax m cx, .int .i64 sl] W fun e w' => e = .returned (.int .i64 (Tr.turnC L und bl sl)) ∧ StAt w w' P D (Tr.turnD de L und bl sl) (Tr.turnL L und bl sl) ∧ Keep W w') := Lib.hid (fun W hW => HTw0.out P D de L W hW)
      obtain ⟨code, hcode⟩ : ∃ code, code = Tr.turnC L und bl sl := ⟨_, rfl⟩
      rw [← hcode] at HTw
      have HCode := Lib.hid hcode
      clear HTw0 hcode
      refine key _ ⟨fun q => ?_, fun q q2 => ?_⟩
      · have hki : (n : Int) ≤ (k : Int) := by omega
        clear q key hk hn1
        go_wp2_with fail
        clear hki
        refine (heightS HSt.out).mono ?_
        rintro _ w3 ⟨rfl, rfl⟩
        go_wp2_with fail
        refine (uptoS HSt.out _).mono ?_
        rintro _ w4 ⟨⟨A1, c1, bs, rfl, hu1, hbs⟩, hb4⟩
        have hG := HSt.out.2.1
        have hLp := hG.pos
        have hL1 := hG.2.2
        rw [show ((L.length : Int) - 1 + 1).toNat = L.length by omega, List.take_length] at hbs
        have hbl : bs.length = L.length := by have := congrArg List.length hbs; simpa [bks] using this
        have HS4 := Lib.hid (HSt.out.below hb4)
        have HI4 := Lib.hid (RfIn2.below HRb.out hb4)
        have HU4 := Lib.hid hu1
        have Hbs := Lib.hid hbs
        have HbL := Lib.hid hbl
        clear hu1 hbs hb4 hG hLp hL1
        rw [hbl]
        obtain ⟨nw, hnw⟩ : ∃ nw, nw = L.length := ⟨_, rfl⟩
        rw [← hnw]
        have HNw := Lib.hid hnw
        clear hbl hnw
        go_wp2_with fail
        refine wp_region_held_drew (S := fun w' => RfIn2 w.heap.size C w') (by kernel_rfl) (HI4.out.below ((Below.refl _ _).drew)) (fun hHeld => ?_)
        obtain ⟨wq, hwq⟩ : ∃ x, x = w4.drew := ⟨_, rfl⟩
        have HSq := Lib.hid (hwq ▸ HS4.out.below ((Below.refl w4.heap.size w4).drew) : StAt w wq P D de L)
        have HQe := Lib.hid hwq
        rw [← hwq] at hHeld ⊢
        clear hwq
        refine wpAnyH_take (i := 0) (v := .pointer (some ⟨P, 0, none⟩)) rfl (by kernel_rfl) (by kernel_rfl) (by kernel_rfl) (fun _ _ _ h => h) (Or.inl ⟨by rfl, fun w' hSw => by go_simp⟩) hHeld ?_
        try simp only [Act.put, List.getElem_toArray, List.getElem_cons_succ, List.getElem_cons_zero, List.setIfInBounds_toArray, List.set_cons_zero, List.set_cons_succ]
        refine wpAnyH_take (i := 1) (v := .pointer (some ⟨w.heap.size, 1, none⟩)) rfl (by kernel_rfl) (by kernel_rfl) (by kernel_rfl) (fun _ _ _ h => h) (Or.inl ⟨by rfl, fun w' hSw => by go_simp⟩) hHeld ?_
        try simp only [Act.put, List.getElem_toArray, List.getElem_cons_succ, List.getElem_cons_zero, List.setIfInBounds_toArray, List.set_cons_zero, List.set_cons_succ]
        refine wpAnyH_take (i := 2) (v := .int .i64 und) rfl (by kernel_rfl) (by kernel_rfl) (by kernel_rfl) (fun _ _ _ h => h) (Or.inl ⟨by rfl, fun w' hSw => by have hq := hSw; have hd := (HCb.out _ hq).1; go_simp⟩) hHeld ?_
        try simp only [Act.put, List.getElem_toArray, List.getElem_cons_succ, List.getElem_cons_zero, List.setIfInBounds_toArray, List.set_cons_zero, List.set_cons_succ]
        refine wpAnyH_take (i := 3) (v := .pointer (some ⟨w.heap.size, 3, none⟩)) rfl (by kernel_rfl) (by kernel_rfl) (by kernel_rfl) (fun _ _ _ h => h) (Or.inl ⟨by rfl, fun w' hSw => by go_simp⟩) hHeld ?_
        try simp only [Act.put, List.getElem_toArray, List.getElem_cons_succ, List.getElem_cons_zero, List.setIfInBounds_toArray, List.set_cons_zero, List.set_cons_succ]
        refine wpAnyH_take (i := 4) (v := .slice Ax mx cx) rfl (by kernel_rfl) (by kernel_rfl) (by kernel_rfl) (fun _ _ _ h => h) (Or.inl ⟨by rfl, fun w' hSw => by have hq := hSw; have hd := (HCb.out _ hq).2.2; go_simp⟩) hHeld ?_
        try simp only [Act.put, List.getElem_toArray, List.getElem_cons_succ, List.getElem_cons_zero, List.setIfInBounds_toArray, List.set_cons_zero, List.set_cons_succ]
        refine wpAnyH_take (i := 6) (v := .pointer (some ⟨w.heap.size, 2, none⟩)) rfl (by kernel_rfl) (by kernel_rfl) (by kernel_rfl) (fun _ _ _ h => h) (Or.inl ⟨by rfl, fun w' hSw => by go_simp⟩) hHeld ?_
        try simp only [Act.put, List.getElem_toArray, List.getElem_cons_succ, List.getElem_cons_zero, List.setIfInBounds_toArray, List.set_cons_zero, List.set_cons_succ]
        refine wpAnyH_take (i := 7) (v := .int .i64 sl) rfl (by kernel_rfl) (by kernel_rfl) (by kernel_rfl) (fun _ _ _ h => h) (Or.inl ⟨by rfl, fun w' hSw => by have hq := hSw; have hd := (HCb.out _ hq).2.1; go_simp⟩) hHeld ?_
        try simp only [Act.put, List.getElem_toArray, List.getElem_cons_succ, List.getElem_cons_zero, List.setIfInBounds_toArray, List.set_cons_zero, List.set_cons_succ]
        refine wpAnyH_ready (rs := [5]) (by kernel_rfl) (by simp) (AllReadyH.cons rfl (fun K1 hK1 => ?_) AllReadyH.nil)
        try simp only [Act.put, List.getElem_toArray, List.getElem_cons_succ, List.getElem_cons_zero, List.setIfInBounds_toArray, List.set_cons_zero, List.set_cons_succ]
        go_simp
        refine Calls.mono (HFw.out _ HSq.out.1) ?_
        rintro e w2 ⟨rfl, rfl⟩
        refine hK1.out _ _ (hHeld) (fun hHeld => ?_)
        clear hK1 K1
        try simp only [Act.put, List.getElem_toArray, List.getElem_cons_succ, List.getElem_cons_zero, List.setIfInBounds_toArray, List.set_cons_zero, List.set_cons_succ]
        refine wpAnyH_ready (rs := [8]) (by kernel_rfl) (by simp) (AllReadyH.cons rfl (fun K1 hK1 => ?_) AllReadyH.nil)
        try simp only [Act.put, List.getElem_toArray, List.getElem_cons_succ, List.getElem_cons_zero, List.setIfInBounds_toArray, List.set_cons_zero, List.set_cons_succ]
        go_simp
        refine Calls.mono (HTw.out _ HSq.out) ?_
        rintro e w5 ⟨rfl, hst5, hkp5⟩
        have HS5 := Lib.hid hst5
        have HK5 := Lib.hid ((Keep.of_below ((Below.refl w4.heap.size w4).drew)).trans (HQe.out ▸ hkp5))
        have hI5 : RfIn2 w.heap.size C w5 := hkp5.row hHeld (by decide) (by decide)
        have HI5 := Lib.hid hI5
        clear hst5 hkp5
        refine hK1.out _ _ (hI5) (fun hHeld => ?_)
        clear hK1 K1
        try simp only [Act.put, List.getElem_toArray, List.getElem_cons_succ, List.getElem_cons_zero, List.setIfInBounds_toArray, List.set_cons_zero, List.set_cons_succ]
        refine wpAnyH_take (i := 9) (v := .int .i64 code) rfl (by kernel_rfl) (by kernel_rfl) (by kernel_rfl) (fun _ _ _ h => h) (Or.inl ⟨by rfl, fun w' hSw => by go_simp⟩) hHeld ?_
        try simp only [Act.put, List.getElem_toArray, List.getElem_cons_succ, List.getElem_cons_zero, List.setIfInBounds_toArray, List.set_cons_zero, List.set_cons_succ]
        refine wpAnyH_done (by kernel_rfl) ?_ _
        clear hHeld
        have HU5 := Lib.hid (HU4.out.keep HK5.out)
        go_wp2_with fail
        refine (heightS HS5.out).mono ?_
        rintro _ w5' ⟨rfl, rfl⟩
        go_wp2_with fail
        refine (uptoS HS5.out _).mono ?_
        rintro _ w6 ⟨⟨A2, c2, bsN, rfl, huN, hbsN⟩, hb6⟩
        have hG2 := HS5.out.2.1
        have hLp2 := hG2.pos
        have hL2 := hG2.2.2
        rw [show (((Tr.turnL L und bl sl).length : Int) - 1 + 1).toNat = (Tr.turnL L und bl sl).length by omega, List.take_length] at hbsN
        have hnl : bsN.length = (Tr.turnL L und bl sl).length := by have := congrArg List.length hbsN; simpa [bks] using this
        have HS6 := Lib.hid (HS5.out.below hb6)
        have HI6 := Lib.hid (RfIn2.below HI5.out hb6)
        have HU6 := Lib.hid (HU5.out.below hb6)
        obtain ⟨A3, c3, e1, hbvN⟩ := huN.form
        injection e1 with e1 e2 e3
        subst e1
        subst e3
        obtain ⟨A3, c3, e1, hbvW⟩ := HU6.out.form
        injection e1 with e1 e4 e3
        subst e1
        subst e3
        have hfine : ∀ b ∈ bks bs, b.Fine := fun b hb => by
          rw [Hbs.out] at hb
          obtain ⟨x, hx, rfl⟩ := List.mem_map.1 hb
          exact HSt.out.2.1.fine x hx
        have hfW : ∀ x ∈ bs, x.Fits := fun x hx => (HU6.out.2 x hx).1
        have hfN : ∀ x ∈ bsN, x.Fits := fun x hx => (huN.2 x hx).1
        have hnw4 : nw ≤ 4097 := by rw [HNw.out]; exact HSt.out.2.1.2.2
        clear e2 e4
        by_cases hc0 : code = 0
        · have dq : (code != 0) = false := by simp [hc0]
          have htc : Tr.turnC L und bl sl = 0 := by rw [← HCode.out]; exact hc0
          obtain ⟨z1, z2⟩ := Tr.turnC_zero htc
          obtain ⟨s1, s2, s3, s4, s5⟩ := Tr.stay_pos z1
          have hz := Tr.tcode_zero z1
          have hlen := Tr.turnL_len htc
          have HDw : Hid (∀ W, Below w6.heap.size w6 W → Calls Tryd.prog 22 #[.pointer (some ⟨P, 0, none⟩)] W fun e w' => e = .returned (.int .i64 und) ∧ W = w') := Lib.hid (fun W hW => by
            have := deepestS (HS6.out.below hW)
            unfold Tr.turnD at this
            rw [if_pos htc, HDe.out, show max 0 und = und by omega] at this
            exact this)
          obtain ⟨st, hst⟩ : ∃ st, st = Tr.stay L.length und := ⟨_, rfl⟩
          obtain ⟨nn, hnn⟩ : ∃ nn, nn = bsN.length := ⟨_, rfl⟩
          have hblm : bl.length = m := HBm.out
          rw [← hst] at s1 s2 s3 s4 s5 hlen
          rw [← HNw.out] at s2 s3 s4
          have hnn2 : nn = st + m := by rw [hnn, hnl, hlen, hblm]
          rw [hblm] at s4 s5
          have hlw : bs.length = nw := by rw [HbL.out, HNw.out]
          have HAll : Hid (∀ W, Below w6.heap.size w6 W → Calls Tryd.prog 23 #[.slice A1 st c1, .slice A2 st c2] W fun e w' => e = .returned (.bool true) ∧ Below W.heap.size W w') := Lib.hid (fun W hW => by
            have h1 : (bs.take st).length = st := by rw [List.length_take]; omega
            have h2 : (bsN.take st).length = st := by rw [List.length_take]; omega
            have := allS (W := W) (A := A1) (A' := A2) (c := c1) (c' := c2) (bs.take st) (bsN.take st) (((hbvW.take hfW st).below hW).mono2 hW.size) (((hbvN.take hfN st).below hW).mono2 hW.size) (fun x hx => hfW x (List.mem_of_mem_take hx)) (fun x hx => hfN x (List.mem_of_mem_take hx))
              (by
                have hb1 := Hbs.out
                unfold bks at hb1 hbsN ⊢
                rw [List.map_take, List.map_take, hb1, hbsN, ← List.map_take, ← List.map_take, Tr.turnL_take (Nat.le_of_eq hst)])
              (fun b hb => hfine b (by unfold bks at hb ⊢; rw [List.map_take] at hb; exact List.mem_of_mem_take hb)) (by omega)
            rw [h1, h2] at this
            exact this)
          have hsl1 := fun W => sliceBlocks A1 nw st c1 (by have := hbvW.2.2; omega) W
          have hsl2 := fun W => sliceBlocks A2 nn st c2 (by have := hbvN.2.2; omega) W
          have hw1 : IntKind.i64.wrap ((nw : Int) - und) = (st : Int) := by rw [IntWalk.i64_in _ (by omega)]; omega
          have hw2 : IntKind.i64.wrap ((st : Int) + (m : Int)) = (nn : Int) := by rw [IntWalk.i64_in _ (by omega)]; omega
          have hlt : (nw : Int) < (nn : Int) := by omega
          rw [← hnn]
          have cb := HCb.out _ HI6.out
          have cbu := cb.1
          clear hG2 hLp2 hL2 hbsN hnl hb6 huN hbvN hbvW hfine hfW hfN htc z1 z2 s1 s2 s3 s4 s5 hz hlen hst hnn hblm hnn2 hlw cb hc0
          go_wp2_with fail
          refine wp_region_held_drew (S := fun w' => RfIn2 w.heap.size C w') (by kernel_rfl) (HI6.out.below ((Below.refl _ _).drew)) (fun hHeld => ?_)
          have HBq := Lib.hid ((Below.refl w6.heap.size w6).drew)
          generalize w6.drew = wq at *
          refine wpAnyH_take (i := 0) (v := .slice A2 nn c2) rfl (by kernel_rfl) (by kernel_rfl) (by kernel_rfl) (fun _ _ _ h => h) (Or.inl ⟨by rfl, fun w' hSw => by go_simp⟩) hHeld ?_
          try simp only [Act.put, List.getElem_toArray, List.getElem_cons_succ, List.getElem_cons_zero, List.setIfInBounds_toArray, List.set_cons_zero, List.set_cons_succ]
          refine wpAnyH_take (i := 1) (v := .int .i64 nn) rfl (by kernel_rfl) (by kernel_rfl) (by kernel_rfl) (fun _ _ _ h => h) (Or.inl ⟨by rfl, fun w' hSw => by go_simp⟩) hHeld ?_
          try simp only [Act.put, List.getElem_toArray, List.getElem_cons_succ, List.getElem_cons_zero, List.setIfInBounds_toArray, List.set_cons_zero, List.set_cons_succ]
          refine wpAnyH_take (i := 2) (v := .slice A1 nw c1) rfl (by kernel_rfl) (by kernel_rfl) (by kernel_rfl) (fun _ _ _ h => h) (Or.inl ⟨by rfl, fun w' hSw => by go_simp⟩) hHeld ?_
          try simp only [Act.put, List.getElem_toArray, List.getElem_cons_succ, List.getElem_cons_zero, List.setIfInBounds_toArray, List.set_cons_zero, List.set_cons_succ]
          refine wpAnyH_take (i := 3) (v := .int .i64 nw) rfl (by kernel_rfl) (by kernel_rfl) (by kernel_rfl) (fun _ _ _ h => h) (Or.inl ⟨by rfl, fun w' hSw => by go_simp⟩) hHeld ?_
          try simp only [Act.put, List.getElem_toArray, List.getElem_cons_succ, List.getElem_cons_zero, List.setIfInBounds_toArray, List.set_cons_zero, List.set_cons_succ]
          refine wpAnyH_take (i := 4) (v := .bool true) rfl (by kernel_rfl) (by kernel_rfl) (by kernel_rfl) (fun _ _ _ h => h) (Or.inl ⟨by rfl, fun w' hSw => by go_simp⟩) hHeld ?_
          try simp only [Act.put, List.getElem_toArray, List.getElem_cons_succ, List.getElem_cons_zero, List.setIfInBounds_toArray, List.set_cons_zero, List.set_cons_succ]
          refine wpAnyH_take (i := 5) (v := .bool true) rfl (by kernel_rfl) (by kernel_rfl) (by kernel_rfl) (fun _ _ _ h => h) (Or.inl ⟨by rfl, fun w' hSw => by go_simp⟩) hHeld ?_
          try simp only [Act.put, List.getElem_toArray, List.getElem_cons_succ, List.getElem_cons_zero, List.setIfInBounds_toArray, List.set_cons_zero, List.set_cons_succ]
          refine wpAnyH_take (i := 6) (v := .slice A1 nw c1) rfl (by kernel_rfl) (by kernel_rfl) (by kernel_rfl) (fun _ _ _ h => h) (Or.inl ⟨by rfl, fun w' hSw => by go_simp⟩) hHeld ?_
          try simp only [Act.put, List.getElem_toArray, List.getElem_cons_succ, List.getElem_cons_zero, List.setIfInBounds_toArray, List.set_cons_zero, List.set_cons_succ]
          refine wpAnyH_take (i := 7) (v := .int .i64 st) rfl (by kernel_rfl) (by kernel_rfl) (by kernel_rfl) (fun _ _ _ h => h) (Or.inl ⟨by rfl, fun w' hSw => by go_simp⟩) hHeld ?_
          try simp only [Act.put, List.getElem_toArray, List.getElem_cons_succ, List.getElem_cons_zero, List.setIfInBounds_toArray, List.set_cons_zero, List.set_cons_succ]
          refine wpAnyH_take (i := 8) (v := .slice A1 st c1) rfl (by kernel_rfl) (by kernel_rfl) (by kernel_rfl) (fun _ _ _ h => h) (Or.inl ⟨by rfl, fun w' hSw => by go_simp⟩) hHeld ?_
          try simp only [Act.put, List.getElem_toArray, List.getElem_cons_succ, List.getElem_cons_zero, List.setIfInBounds_toArray, List.set_cons_zero, List.set_cons_succ]
          refine wpAnyH_take (i := 9) (v := .slice A2 nn c2) rfl (by kernel_rfl) (by kernel_rfl) (by kernel_rfl) (fun _ _ _ h => h) (Or.inl ⟨by rfl, fun w' hSw => by go_simp⟩) hHeld ?_
          try simp only [Act.put, List.getElem_toArray, List.getElem_cons_succ, List.getElem_cons_zero, List.setIfInBounds_toArray, List.set_cons_zero, List.set_cons_succ]
          refine wpAnyH_take (i := 10) (v := .int .i64 st) rfl (by kernel_rfl) (by kernel_rfl) (by kernel_rfl) (fun _ _ _ h => h) (Or.inl ⟨by rfl, fun w' hSw => by go_simp⟩) hHeld ?_
          try simp only [Act.put, List.getElem_toArray, List.getElem_cons_succ, List.getElem_cons_zero, List.setIfInBounds_toArray, List.set_cons_zero, List.set_cons_succ]
          refine wpAnyH_take (i := 11) (v := .slice A2 st c2) rfl (by kernel_rfl) (by kernel_rfl) (by kernel_rfl) (fun _ _ _ h => h) (Or.inl ⟨by rfl, fun w' hSw => by go_simp⟩) hHeld ?_
          try simp only [Act.put, List.getElem_toArray, List.getElem_cons_succ, List.getElem_cons_zero, List.setIfInBounds_toArray, List.set_cons_zero, List.set_cons_succ]
          refine wpAnyH_ready (rs := [12]) (by kernel_rfl) (by simp) (AllReadyH.cons rfl (fun K1 hK1 => ?_) AllReadyH.nil)
          try simp only [Act.put, List.getElem_toArray, List.getElem_cons_succ, List.getElem_cons_zero, List.setIfInBounds_toArray, List.set_cons_zero, List.set_cons_succ]
          go_simp
          refine Calls.mono (HAll.out _ HBq.out) ?_
          rintro e w7 ⟨rfl, hb7⟩
          have HB7 := Lib.hid (two_below' HBq.out hb7)
          refine hK1.out _ _ (RfIn2.below hHeld hb7) (fun hHeld => ?_)
          clear hK1 K1
          try simp only [Act.put, List.getElem_toArray, List.getElem_cons_succ, List.getElem_cons_zero, List.setIfInBounds_toArray, List.set_cons_zero, List.set_cons_succ]
          clear hb7
          refine wpAnyH_take (i := 13) (v := .bool true) rfl (by kernel_rfl) (by kernel_rfl) (by kernel_rfl) (fun _ _ _ h => h) (Or.inl ⟨by rfl, fun w' hSw => by go_simp⟩) hHeld ?_
          try simp only [Act.put, List.getElem_toArray, List.getElem_cons_succ, List.getElem_cons_zero, List.setIfInBounds_toArray, List.set_cons_zero, List.set_cons_succ]
          refine wpAnyH_take (i := 14) (v := .bool true) rfl (by kernel_rfl) (by kernel_rfl) (by kernel_rfl) (fun _ _ _ h => h) (Or.inl ⟨by rfl, fun w' hSw => by go_simp⟩) hHeld ?_
          try simp only [Act.put, List.getElem_toArray, List.getElem_cons_succ, List.getElem_cons_zero, List.setIfInBounds_toArray, List.set_cons_zero, List.set_cons_succ]
          refine wpAnyH_take (i := 15) (v := .slice A2 nn c2) rfl (by kernel_rfl) (by kernel_rfl) (by kernel_rfl) (fun _ _ _ h => h) (Or.inl ⟨by rfl, fun w' hSw => by go_simp⟩) hHeld ?_
          try simp only [Act.put, List.getElem_toArray, List.getElem_cons_succ, List.getElem_cons_zero, List.setIfInBounds_toArray, List.set_cons_zero, List.set_cons_succ]
          refine wpAnyH_take (i := 16) (v := .int .i64 nn) rfl (by kernel_rfl) (by kernel_rfl) (by kernel_rfl) (fun _ _ _ h => h) (Or.inl ⟨by rfl, fun w' hSw => by go_simp⟩) hHeld ?_
          try simp only [Act.put, List.getElem_toArray, List.getElem_cons_succ, List.getElem_cons_zero, List.setIfInBounds_toArray, List.set_cons_zero, List.set_cons_succ]
          refine wpAnyH_take (i := 17) (v := .int .i64 st) rfl (by kernel_rfl) (by kernel_rfl) (by kernel_rfl) (fun _ _ _ h => h) (Or.inl ⟨by rfl, fun w' hSw => by go_simp⟩) hHeld ?_
          try simp only [Act.put, List.getElem_toArray, List.getElem_cons_succ, List.getElem_cons_zero, List.setIfInBounds_toArray, List.set_cons_zero, List.set_cons_succ]
          refine wpAnyH_take (i := 18) (v := .pointer (some ⟨w.heap.size, 3, none⟩)) rfl (by kernel_rfl) (by kernel_rfl) (by kernel_rfl) (fun _ _ _ h => h) (Or.inl ⟨by rfl, fun w' hSw => by go_simp⟩) hHeld ?_
          try simp only [Act.put, List.getElem_toArray, List.getElem_cons_succ, List.getElem_cons_zero, List.setIfInBounds_toArray, List.set_cons_zero, List.set_cons_succ]
          refine wpAnyH_take (i := 19) (v := .slice Ax mx cx) rfl (by kernel_rfl) (by kernel_rfl) (by kernel_rfl) (fun _ _ _ h => h) (Or.inl ⟨by rfl, fun w' hSw => by have hq := hSw; have hd := (HCb.out _ hq).2.2; go_simp⟩) hHeld ?_
          try simp only [Act.put, List.getElem_toArray, List.getElem_cons_succ, List.getElem_cons_zero, List.setIfInBounds_toArray, List.set_cons_zero, List.set_cons_succ]
          refine wpAnyH_ready (rs := [20]) (by kernel_rfl) (by simp) (AllReadyH.cons rfl (fun K1 hK1 => ?_) AllReadyH.nil)
          try simp only [Act.put, List.getElem_toArray, List.getElem_cons_succ, List.getElem_cons_zero, List.setIfInBounds_toArray, List.set_cons_zero, List.set_cons_succ]
          go_simp
          refine Calls.mono (HFw.out _ (HS6.out.below HB7.out).1) ?_
          rintro e w8 ⟨rfl, rfl⟩
          refine hK1.out _ _ (hHeld) (fun hHeld => ?_)
          clear hK1 K1
          try simp only [Act.put, List.getElem_toArray, List.getElem_cons_succ, List.getElem_cons_zero, List.setIfInBounds_toArray, List.set_cons_zero, List.set_cons_succ]
          refine wpAnyH_take (i := 21) (v := .int .i64 m) rfl (by kernel_rfl) (by kernel_rfl) (by kernel_rfl) (fun _ _ _ h => h) (Or.inl ⟨by rfl, fun w' hSw => by go_simp⟩) hHeld ?_
          try simp only [Act.put, List.getElem_toArray, List.getElem_cons_succ, List.getElem_cons_zero, List.setIfInBounds_toArray, List.set_cons_zero, List.set_cons_succ]
          refine wpAnyH_take (i := 22) (v := .int .i64 nn) rfl (by kernel_rfl) (by kernel_rfl) (by kernel_rfl) (fun _ _ _ h => h) (Or.inl ⟨by rfl, fun w' hSw => by go_simp⟩) hHeld ?_
          try simp only [Act.put, List.getElem_toArray, List.getElem_cons_succ, List.getElem_cons_zero, List.setIfInBounds_toArray, List.set_cons_zero, List.set_cons_succ]
          refine wpAnyH_take (i := 23) (v := .bool true) rfl (by kernel_rfl) (by kernel_rfl) (by kernel_rfl) (fun _ _ _ h => h) (Or.inl ⟨by rfl, fun w' hSw => by go_simp⟩) hHeld ?_
          try simp only [Act.put, List.getElem_toArray, List.getElem_cons_succ, List.getElem_cons_zero, List.setIfInBounds_toArray, List.set_cons_zero, List.set_cons_succ]
          refine wpAnyH_take (i := 24) (v := .bool true) rfl (by kernel_rfl) (by kernel_rfl) (by kernel_rfl) (fun _ _ _ h => h) (Or.inl ⟨by rfl, fun w' hSw => by go_simp⟩) hHeld ?_
          try simp only [Act.put, List.getElem_toArray, List.getElem_cons_succ, List.getElem_cons_zero, List.setIfInBounds_toArray, List.set_cons_zero, List.set_cons_succ]
          refine wpAnyH_take (i := 25) (v := .bool true) rfl (by kernel_rfl) (by kernel_rfl) (by kernel_rfl) (fun _ _ _ h => h) (Or.inl ⟨by rfl, fun w' hSw => by go_simp⟩) hHeld ?_
          try simp only [Act.put, List.getElem_toArray, List.getElem_cons_succ, List.getElem_cons_zero, List.setIfInBounds_toArray, List.set_cons_zero, List.set_cons_succ]
          refine wpAnyH_take (i := 26) (v := .pointer (some ⟨P, 0, none⟩)) rfl (by kernel_rfl) (by kernel_rfl) (by kernel_rfl) (fun _ _ _ h => h) (Or.inl ⟨by rfl, fun w' hSw => by go_simp⟩) hHeld ?_
          try simp only [Act.put, List.getElem_toArray, List.getElem_cons_succ, List.getElem_cons_zero, List.setIfInBounds_toArray, List.set_cons_zero, List.set_cons_succ]
          refine wpAnyH_take (i := 28) (v := .pointer (some ⟨w.heap.size, 1, none⟩)) rfl (by kernel_rfl) (by kernel_rfl) (by kernel_rfl) (fun _ _ _ h => h) (Or.inl ⟨by rfl, fun w' hSw => by go_simp⟩) hHeld ?_
          try simp only [Act.put, List.getElem_toArray, List.getElem_cons_succ, List.getElem_cons_zero, List.setIfInBounds_toArray, List.set_cons_zero, List.set_cons_succ]
          refine wpAnyH_take (i := 29) (v := .int .i64 und) rfl (by kernel_rfl) (by kernel_rfl) (by kernel_rfl) (fun _ _ _ h => h) (Or.inl ⟨by rfl, fun w' hSw => by have hq := hSw; have hd := (HCb.out _ hq).1; go_simp⟩) hHeld ?_
          try simp only [Act.put, List.getElem_toArray, List.getElem_cons_succ, List.getElem_cons_zero, List.setIfInBounds_toArray, List.set_cons_zero, List.set_cons_succ]
          refine wpAnyH_ready (rs := [27]) (by kernel_rfl) (by simp) (AllReadyH.cons rfl (fun K1 hK1 => ?_) AllReadyH.nil)
          try simp only [Act.put, List.getElem_toArray, List.getElem_cons_succ, List.getElem_cons_zero, List.setIfInBounds_toArray, List.set_cons_zero, List.set_cons_succ]
          go_simp
          refine Calls.mono (HDw.out _ HB7.out) ?_
          rintro e w8 ⟨rfl, rfl⟩
          refine hK1.out _ _ (hHeld) (fun hHeld => ?_)
          clear hK1 K1
          try simp only [Act.put, List.getElem_toArray, List.getElem_cons_succ, List.getElem_cons_zero, List.setIfInBounds_toArray, List.set_cons_zero, List.set_cons_succ]
          refine wpAnyH_take (i := 30) (v := .bool true) rfl (by kernel_rfl) (by kernel_rfl) (by kernel_rfl) (fun _ _ _ h => h) (Or.inl ⟨by rfl, fun w' hSw => by go_simp⟩) hHeld ?_
          try simp only [Act.put, List.getElem_toArray, List.getElem_cons_succ, List.getElem_cons_zero, List.setIfInBounds_toArray, List.set_cons_zero, List.set_cons_succ]
          refine wpAnyH_take (i := 31) (v := .bool true) rfl (by kernel_rfl) (by kernel_rfl) (by kernel_rfl) (fun _ _ _ h => h) (Or.inl ⟨by rfl, fun w' hSw => by go_simp⟩) hHeld ?_
          try simp only [Act.put, List.getElem_toArray, List.getElem_cons_succ, List.getElem_cons_zero, List.setIfInBounds_toArray, List.set_cons_zero, List.set_cons_succ]
          refine wpAnyH_take (i := 32) (v := .bool true) rfl (by kernel_rfl) (by kernel_rfl) (by kernel_rfl) (fun _ _ _ h => h) (Or.inl ⟨by rfl, fun w' hSw => by go_simp⟩) hHeld ?_
          try simp only [Act.put, List.getElem_toArray, List.getElem_cons_succ, List.getElem_cons_zero, List.setIfInBounds_toArray, List.set_cons_zero, List.set_cons_succ]
          refine wpAnyH_done (by kernel_rfl) ?_ _
          have HRe := Lib.hid (HS6.out.below HB7.out).1
          clear hHeld
          go_wp2_with fail
          go_ret
          exact ⟨rfl, HRe.out⟩
        · have dq : (code != 0) = true := by simpa using hc0
          have htc : Tr.turnC L und bl sl ≠ 0 := by rw [← HCode.out]; exact hc0
          have htl : Tr.turnL L und bl sl = L := by unfold Tr.turnL; rw [if_neg htc]
          have htd : Tr.turnD de L und bl sl = 0 := by unfold Tr.turnD; rw [if_neg htc, HDe.out]
          have HDw : Hid (∀ W, Below w6.heap.size w6 W → Calls Tryd.prog 22 #[.pointer (some ⟨P, 0, none⟩)] W fun e w' => e = .returned (.int .i64 0) ∧ W = w') := Lib.hid (fun W hW => by
            have := deepestS (HS6.out.below hW)
            rw [htd] at this
            exact this)
          have hlw : bs.length = nw := by rw [HbL.out, HNw.out]
          have hnn : bsN.length = nw := by rw [hnl, htl, HNw.out]
          have HAll : Hid (Calls Tryd.prog 23 #[.slice A1 nw c1, .slice A2 nw c2] w6 fun e w' => e = .returned (.bool true) ∧ Below w6.heap.size w6 w') := Lib.hid (by
            have := allS (W := w6) (A := A1) (A' := A2) (c := c1) (c' := c2) bs bsN hbvW hbvN hfW hfN (by rw [Hbs.out, hbsN, htl]) hfine (by omega)
            rw [hlw, hnn] at this
            exact this)
          rw [hnn]
          clear hG2 hLp2 hL2 hbsN hnl hb6 huN hbvN hbvW hfine hfW hfN htc htl htd hlw hnn hc0
          go_wp2_with fail
          refine HAll.out.mono ?_
          rintro _ w7 ⟨rfl, hb7⟩
          go_wp2_with fail
          refine (HDw.out _ hb7).mono ?_
          rintro _ w8 ⟨rfl, rfl⟩
          go_wp2_with fail
          go_ret
          exact ⟨rfl, (HS6.out.below hb7).1⟩
      · have hki : (k : Int) < (n : Int) := by omega
        have hk5 : (20 : Int) ≤ (k : Int) := by omega
        clear q q2 key hk hn1
        go_wp2_with fail
        clear hki hk5
        refine (heightS HSt.out).mono ?_
        rintro _ w3 ⟨rfl, rfl⟩
        go_wp2_with fail
        refine (uptoS HSt.out _).mono ?_
        rintro _ w4 ⟨⟨A1, c1, bs, rfl, hu1, hbs⟩, hb4⟩
        have hG := HSt.out.2.1
        have hLp := hG.pos
        have hL1 := hG.2.2
        rw [show ((L.length : Int) - 1 + 1).toNat = L.length by omega, List.take_length] at hbs
        have hbl : bs.length = L.length := by have := congrArg List.length hbs; simpa [bks] using this
        have HS4 := Lib.hid (HSt.out.below hb4)
        have HI4 := Lib.hid (RfIn2.below HRb.out hb4)
        have HU4 := Lib.hid hu1
        have Hbs := Lib.hid hbs
        have HbL := Lib.hid hbl
        clear hu1 hbs hb4 hG hLp hL1
        rw [hbl]
        obtain ⟨nw, hnw⟩ : ∃ nw, nw = L.length := ⟨_, rfl⟩
        rw [← hnw]
        have HNw := Lib.hid hnw
        clear hbl hnw
        go_wp2_with fail
        refine wp_region_held_drew (S := fun w' => RfIn2 w.heap.size C w') (by kernel_rfl) (HI4.out.below ((Below.refl _ _).drew)) (fun hHeld => ?_)
        obtain ⟨wq, hwq⟩ : ∃ x, x = w4.drew := ⟨_, rfl⟩
        have HSq := Lib.hid (hwq ▸ HS4.out.below ((Below.refl w4.heap.size w4).drew) : StAt w wq P D de L)
        have HQe := Lib.hid hwq
        rw [← hwq] at hHeld ⊢
        clear hwq
        refine wpAnyH_take (i := 0) (v := .pointer (some ⟨P, 0, none⟩)) rfl (by kernel_rfl) (by kernel_rfl) (by kernel_rfl) (fun _ _ _ h => h) (Or.inl ⟨by rfl, fun w' hSw => by go_simp⟩) hHeld ?_
        try simp only [Act.put, List.getElem_toArray, List.getElem_cons_succ, List.getElem_cons_zero, List.setIfInBounds_toArray, List.set_cons_zero, List.set_cons_succ]
        refine wpAnyH_take (i := 1) (v := .pointer (some ⟨w.heap.size, 1, none⟩)) rfl (by kernel_rfl) (by kernel_rfl) (by kernel_rfl) (fun _ _ _ h => h) (Or.inl ⟨by rfl, fun w' hSw => by go_simp⟩) hHeld ?_
        try simp only [Act.put, List.getElem_toArray, List.getElem_cons_succ, List.getElem_cons_zero, List.setIfInBounds_toArray, List.set_cons_zero, List.set_cons_succ]
        refine wpAnyH_take (i := 2) (v := .int .i64 und) rfl (by kernel_rfl) (by kernel_rfl) (by kernel_rfl) (fun _ _ _ h => h) (Or.inl ⟨by rfl, fun w' hSw => by have hq := hSw; have hd := (HCb.out _ hq).1; go_simp⟩) hHeld ?_
        try simp only [Act.put, List.getElem_toArray, List.getElem_cons_succ, List.getElem_cons_zero, List.setIfInBounds_toArray, List.set_cons_zero, List.set_cons_succ]
        refine wpAnyH_take (i := 3) (v := .pointer (some ⟨w.heap.size, 3, none⟩)) rfl (by kernel_rfl) (by kernel_rfl) (by kernel_rfl) (fun _ _ _ h => h) (Or.inl ⟨by rfl, fun w' hSw => by go_simp⟩) hHeld ?_
        try simp only [Act.put, List.getElem_toArray, List.getElem_cons_succ, List.getElem_cons_zero, List.setIfInBounds_toArray, List.set_cons_zero, List.set_cons_succ]
        refine wpAnyH_take (i := 4) (v := .slice Ax mx cx) rfl (by kernel_rfl) (by kernel_rfl) (by kernel_rfl) (fun _ _ _ h => h) (Or.inl ⟨by rfl, fun w' hSw => by have hq := hSw; have hd := (HCb.out _ hq).2.2; go_simp⟩) hHeld ?_
        try simp only [Act.put, List.getElem_toArray, List.getElem_cons_succ, List.getElem_cons_zero, List.setIfInBounds_toArray, List.set_cons_zero, List.set_cons_succ]
        refine wpAnyH_take (i := 6) (v := .pointer (some ⟨w.heap.size, 2, none⟩)) rfl (by kernel_rfl) (by kernel_rfl) (by kernel_rfl) (fun _ _ _ h => h) (Or.inl ⟨by rfl, fun w' hSw => by go_simp⟩) hHeld ?_
        try simp only [Act.put, List.getElem_toArray, List.getElem_cons_succ, List.getElem_cons_zero, List.setIfInBounds_toArray, List.set_cons_zero, List.set_cons_succ]
        refine wpAnyH_take (i := 7) (v := .int .i64 sl) rfl (by kernel_rfl) (by kernel_rfl) (by kernel_rfl) (fun _ _ _ h => h) (Or.inl ⟨by rfl, fun w' hSw => by have hq := hSw; have hd := (HCb.out _ hq).2.1; go_simp⟩) hHeld ?_
        try simp only [Act.put, List.getElem_toArray, List.getElem_cons_succ, List.getElem_cons_zero, List.setIfInBounds_toArray, List.set_cons_zero, List.set_cons_succ]
        refine wpAnyH_ready (rs := [5]) (by kernel_rfl) (by simp) (AllReadyH.cons rfl (fun K1 hK1 => ?_) AllReadyH.nil)
        try simp only [Act.put, List.getElem_toArray, List.getElem_cons_succ, List.getElem_cons_zero, List.setIfInBounds_toArray, List.set_cons_zero, List.set_cons_succ]
        go_simp
        refine Calls.mono (HFw.out _ HSq.out.1) ?_
        rintro e w2 ⟨rfl, rfl⟩
        refine hK1.out _ _ (hHeld) (fun hHeld => ?_)
        clear hK1 K1
        try simp only [Act.put, List.getElem_toArray, List.getElem_cons_succ, List.getElem_cons_zero, List.setIfInBounds_toArray, List.set_cons_zero, List.set_cons_succ]
        refine wpAnyH_ready (rs := [8]) (by kernel_rfl) (by simp) (AllReadyH.cons rfl (fun K1 hK1 => ?_) AllReadyH.nil)
        try simp only [Act.put, List.getElem_toArray, List.getElem_cons_succ, List.getElem_cons_zero, List.setIfInBounds_toArray, List.set_cons_zero, List.set_cons_succ]
        go_simp
        refine Calls.mono (HTw.out _ HSq.out) ?_
        rintro e w5 ⟨rfl, hst5, hkp5⟩
        have HS5 := Lib.hid hst5
        have HK5 := Lib.hid ((Keep.of_below ((Below.refl w4.heap.size w4).drew)).trans (HQe.out ▸ hkp5))
        have hI5 : RfIn2 w.heap.size C w5 := hkp5.row hHeld (by decide) (by decide)
        have HI5 := Lib.hid hI5
        clear hst5 hkp5
        refine hK1.out _ _ (hI5) (fun hHeld => ?_)
        clear hK1 K1
        try simp only [Act.put, List.getElem_toArray, List.getElem_cons_succ, List.getElem_cons_zero, List.setIfInBounds_toArray, List.set_cons_zero, List.set_cons_succ]
        refine wpAnyH_take (i := 9) (v := .int .i64 code) rfl (by kernel_rfl) (by kernel_rfl) (by kernel_rfl) (fun _ _ _ h => h) (Or.inl ⟨by rfl, fun w' hSw => by go_simp⟩) hHeld ?_
        try simp only [Act.put, List.getElem_toArray, List.getElem_cons_succ, List.getElem_cons_zero, List.setIfInBounds_toArray, List.set_cons_zero, List.set_cons_succ]
        refine wpAnyH_done (by kernel_rfl) ?_ _
        clear hHeld
        have HU5 := Lib.hid (HU4.out.keep HK5.out)
        go_wp2_with fail
        refine (heightS HS5.out).mono ?_
        rintro _ w5' ⟨rfl, rfl⟩
        go_wp2_with fail
        refine (uptoS HS5.out _).mono ?_
        rintro _ w6 ⟨⟨A2, c2, bsN, rfl, huN, hbsN⟩, hb6⟩
        have hG2 := HS5.out.2.1
        have hLp2 := hG2.pos
        have hL2 := hG2.2.2
        rw [show (((Tr.turnL L und bl sl).length : Int) - 1 + 1).toNat = (Tr.turnL L und bl sl).length by omega, List.take_length] at hbsN
        have hnl : bsN.length = (Tr.turnL L und bl sl).length := by have := congrArg List.length hbsN; simpa [bks] using this
        have HS6 := Lib.hid (HS5.out.below hb6)
        have HI6 := Lib.hid (RfIn2.below HI5.out hb6)
        have HU6 := Lib.hid (HU5.out.below hb6)
        obtain ⟨A3, c3, e1, hbvN⟩ := huN.form
        injection e1 with e1 e2 e3
        subst e1
        subst e3
        obtain ⟨A3, c3, e1, hbvW⟩ := HU6.out.form
        injection e1 with e1 e4 e3
        subst e1
        subst e3
        have hfine : ∀ b ∈ bks bs, b.Fine := fun b hb => by
          rw [Hbs.out] at hb
          obtain ⟨x, hx, rfl⟩ := List.mem_map.1 hb
          exact HSt.out.2.1.fine x hx
        have hfW : ∀ x ∈ bs, x.Fits := fun x hx => (HU6.out.2 x hx).1
        have hfN : ∀ x ∈ bsN, x.Fits := fun x hx => (huN.2 x hx).1
        have hnw4 : nw ≤ 4097 := by rw [HNw.out]; exact HSt.out.2.1.2.2
        clear e2 e4
        by_cases hc0 : code = 0
        · have dq : (code != 0) = false := by simp [hc0]
          have htc : Tr.turnC L und bl sl = 0 := by rw [← HCode.out]; exact hc0
          obtain ⟨z1, z2⟩ := Tr.turnC_zero htc
          obtain ⟨s1, s2, s3, s4, s5⟩ := Tr.stay_pos z1
          have hz := Tr.tcode_zero z1
          have hlen := Tr.turnL_len htc
          have HDw : Hid (∀ W, Below w6.heap.size w6 W → Calls Tryd.prog 22 #[.pointer (some ⟨P, 0, none⟩)] W fun e w' => e = .returned (.int .i64 und) ∧ W = w') := Lib.hid (fun W hW => by
            have := deepestS (HS6.out.below hW)
            unfold Tr.turnD at this
            rw [if_pos htc, HDe.out, show max 0 und = und by omega] at this
            exact this)
          obtain ⟨st, hst⟩ : ∃ st, st = Tr.stay L.length und := ⟨_, rfl⟩
          obtain ⟨nn, hnn⟩ : ∃ nn, nn = bsN.length := ⟨_, rfl⟩
          have hblm : bl.length = m := HBm.out
          rw [← hst] at s1 s2 s3 s4 s5 hlen
          rw [← HNw.out] at s2 s3 s4
          have hnn2 : nn = st + m := by rw [hnn, hnl, hlen, hblm]
          rw [hblm] at s4 s5
          have hlw : bs.length = nw := by rw [HbL.out, HNw.out]
          have HAll : Hid (∀ W, Below w6.heap.size w6 W → Calls Tryd.prog 23 #[.slice A1 st c1, .slice A2 st c2] W fun e w' => e = .returned (.bool true) ∧ Below W.heap.size W w') := Lib.hid (fun W hW => by
            have h1 : (bs.take st).length = st := by rw [List.length_take]; omega
            have h2 : (bsN.take st).length = st := by rw [List.length_take]; omega
            have := allS (W := W) (A := A1) (A' := A2) (c := c1) (c' := c2) (bs.take st) (bsN.take st) (((hbvW.take hfW st).below hW).mono2 hW.size) (((hbvN.take hfN st).below hW).mono2 hW.size) (fun x hx => hfW x (List.mem_of_mem_take hx)) (fun x hx => hfN x (List.mem_of_mem_take hx))
              (by
                have hb1 := Hbs.out
                unfold bks at hb1 hbsN ⊢
                rw [List.map_take, List.map_take, hb1, hbsN, ← List.map_take, ← List.map_take, Tr.turnL_take (Nat.le_of_eq hst)])
              (fun b hb => hfine b (by unfold bks at hb ⊢; rw [List.map_take] at hb; exact List.mem_of_mem_take hb)) (by omega)
            rw [h1, h2] at this
            exact this)
          have hsl1 := fun W => sliceBlocks A1 nw st c1 (by have := hbvW.2.2; omega) W
          have hsl2 := fun W => sliceBlocks A2 nn st c2 (by have := hbvN.2.2; omega) W
          have hw1 : IntKind.i64.wrap ((nw : Int) - und) = (st : Int) := by rw [IntWalk.i64_in _ (by omega)]; omega
          have hw2 : IntKind.i64.wrap ((st : Int) + (m : Int)) = (nn : Int) := by rw [IntWalk.i64_in _ (by omega)]; omega
          have hlt : (nw : Int) < (nn : Int) := by omega
          rw [← hnn]
          have cb := HCb.out _ HI6.out
          have cbu := cb.1
          clear hG2 hLp2 hL2 hbsN hnl hb6 huN hbvN hbvW hfine hfW hfN htc z1 z2 s1 s2 s3 s4 s5 hz hlen hst hnn hblm hnn2 hlw cb hc0
          go_wp2_with fail
          refine wp_region_held_drew (S := fun w' => RfIn2 w.heap.size C w') (by kernel_rfl) (HI6.out.below ((Below.refl _ _).drew)) (fun hHeld => ?_)
          have HBq := Lib.hid ((Below.refl w6.heap.size w6).drew)
          generalize w6.drew = wq at *
          refine wpAnyH_take (i := 0) (v := .slice A2 nn c2) rfl (by kernel_rfl) (by kernel_rfl) (by kernel_rfl) (fun _ _ _ h => h) (Or.inl ⟨by rfl, fun w' hSw => by go_simp⟩) hHeld ?_
          try simp only [Act.put, List.getElem_toArray, List.getElem_cons_succ, List.getElem_cons_zero, List.setIfInBounds_toArray, List.set_cons_zero, List.set_cons_succ]
          refine wpAnyH_take (i := 1) (v := .int .i64 nn) rfl (by kernel_rfl) (by kernel_rfl) (by kernel_rfl) (fun _ _ _ h => h) (Or.inl ⟨by rfl, fun w' hSw => by go_simp⟩) hHeld ?_
          try simp only [Act.put, List.getElem_toArray, List.getElem_cons_succ, List.getElem_cons_zero, List.setIfInBounds_toArray, List.set_cons_zero, List.set_cons_succ]
          refine wpAnyH_take (i := 2) (v := .slice A1 nw c1) rfl (by kernel_rfl) (by kernel_rfl) (by kernel_rfl) (fun _ _ _ h => h) (Or.inl ⟨by rfl, fun w' hSw => by go_simp⟩) hHeld ?_
          try simp only [Act.put, List.getElem_toArray, List.getElem_cons_succ, List.getElem_cons_zero, List.setIfInBounds_toArray, List.set_cons_zero, List.set_cons_succ]
          refine wpAnyH_take (i := 3) (v := .int .i64 nw) rfl (by kernel_rfl) (by kernel_rfl) (by kernel_rfl) (fun _ _ _ h => h) (Or.inl ⟨by rfl, fun w' hSw => by go_simp⟩) hHeld ?_
          try simp only [Act.put, List.getElem_toArray, List.getElem_cons_succ, List.getElem_cons_zero, List.setIfInBounds_toArray, List.set_cons_zero, List.set_cons_succ]
          refine wpAnyH_take (i := 4) (v := .bool true) rfl (by kernel_rfl) (by kernel_rfl) (by kernel_rfl) (fun _ _ _ h => h) (Or.inl ⟨by rfl, fun w' hSw => by go_simp⟩) hHeld ?_
          try simp only [Act.put, List.getElem_toArray, List.getElem_cons_succ, List.getElem_cons_zero, List.setIfInBounds_toArray, List.set_cons_zero, List.set_cons_succ]
          refine wpAnyH_take (i := 5) (v := .bool true) rfl (by kernel_rfl) (by kernel_rfl) (by kernel_rfl) (fun _ _ _ h => h) (Or.inl ⟨by rfl, fun w' hSw => by go_simp⟩) hHeld ?_
          try simp only [Act.put, List.getElem_toArray, List.getElem_cons_succ, List.getElem_cons_zero, List.setIfInBounds_toArray, List.set_cons_zero, List.set_cons_succ]
          refine wpAnyH_take (i := 6) (v := .slice A1 nw c1) rfl (by kernel_rfl) (by kernel_rfl) (by kernel_rfl) (fun _ _ _ h => h) (Or.inl ⟨by rfl, fun w' hSw => by go_simp⟩) hHeld ?_
          try simp only [Act.put, List.getElem_toArray, List.getElem_cons_succ, List.getElem_cons_zero, List.setIfInBounds_toArray, List.set_cons_zero, List.set_cons_succ]
          refine wpAnyH_take (i := 7) (v := .int .i64 st) rfl (by kernel_rfl) (by kernel_rfl) (by kernel_rfl) (fun _ _ _ h => h) (Or.inl ⟨by rfl, fun w' hSw => by go_simp⟩) hHeld ?_
          try simp only [Act.put, List.getElem_toArray, List.getElem_cons_succ, List.getElem_cons_zero, List.setIfInBounds_toArray, List.set_cons_zero, List.set_cons_succ]
          refine wpAnyH_take (i := 8) (v := .slice A1 st c1) rfl (by kernel_rfl) (by kernel_rfl) (by kernel_rfl) (fun _ _ _ h => h) (Or.inl ⟨by rfl, fun w' hSw => by go_simp⟩) hHeld ?_
          try simp only [Act.put, List.getElem_toArray, List.getElem_cons_succ, List.getElem_cons_zero, List.setIfInBounds_toArray, List.set_cons_zero, List.set_cons_succ]
          refine wpAnyH_take (i := 9) (v := .slice A2 nn c2) rfl (by kernel_rfl) (by kernel_rfl) (by kernel_rfl) (fun _ _ _ h => h) (Or.inl ⟨by rfl, fun w' hSw => by go_simp⟩) hHeld ?_
          try simp only [Act.put, List.getElem_toArray, List.getElem_cons_succ, List.getElem_cons_zero, List.setIfInBounds_toArray, List.set_cons_zero, List.set_cons_succ]
          refine wpAnyH_take (i := 10) (v := .int .i64 st) rfl (by kernel_rfl) (by kernel_rfl) (by kernel_rfl) (fun _ _ _ h => h) (Or.inl ⟨by rfl, fun w' hSw => by go_simp⟩) hHeld ?_
          try simp only [Act.put, List.getElem_toArray, List.getElem_cons_succ, List.getElem_cons_zero, List.setIfInBounds_toArray, List.set_cons_zero, List.set_cons_succ]
          refine wpAnyH_take (i := 11) (v := .slice A2 st c2) rfl (by kernel_rfl) (by kernel_rfl) (by kernel_rfl) (fun _ _ _ h => h) (Or.inl ⟨by rfl, fun w' hSw => by go_simp⟩) hHeld ?_
          try simp only [Act.put, List.getElem_toArray, List.getElem_cons_succ, List.getElem_cons_zero, List.setIfInBounds_toArray, List.set_cons_zero, List.set_cons_succ]
          refine wpAnyH_ready (rs := [12]) (by kernel_rfl) (by simp) (AllReadyH.cons rfl (fun K1 hK1 => ?_) AllReadyH.nil)
          try simp only [Act.put, List.getElem_toArray, List.getElem_cons_succ, List.getElem_cons_zero, List.setIfInBounds_toArray, List.set_cons_zero, List.set_cons_succ]
          go_simp
          refine Calls.mono (HAll.out _ HBq.out) ?_
          rintro e w7 ⟨rfl, hb7⟩
          have HB7 := Lib.hid (two_below' HBq.out hb7)
          refine hK1.out _ _ (RfIn2.below hHeld hb7) (fun hHeld => ?_)
          clear hK1 K1
          try simp only [Act.put, List.getElem_toArray, List.getElem_cons_succ, List.getElem_cons_zero, List.setIfInBounds_toArray, List.set_cons_zero, List.set_cons_succ]
          clear hb7
          refine wpAnyH_take (i := 13) (v := .bool true) rfl (by kernel_rfl) (by kernel_rfl) (by kernel_rfl) (fun _ _ _ h => h) (Or.inl ⟨by rfl, fun w' hSw => by go_simp⟩) hHeld ?_
          try simp only [Act.put, List.getElem_toArray, List.getElem_cons_succ, List.getElem_cons_zero, List.setIfInBounds_toArray, List.set_cons_zero, List.set_cons_succ]
          refine wpAnyH_take (i := 14) (v := .bool true) rfl (by kernel_rfl) (by kernel_rfl) (by kernel_rfl) (fun _ _ _ h => h) (Or.inl ⟨by rfl, fun w' hSw => by go_simp⟩) hHeld ?_
          try simp only [Act.put, List.getElem_toArray, List.getElem_cons_succ, List.getElem_cons_zero, List.setIfInBounds_toArray, List.set_cons_zero, List.set_cons_succ]
          refine wpAnyH_take (i := 15) (v := .slice A2 nn c2) rfl (by kernel_rfl) (by kernel_rfl) (by kernel_rfl) (fun _ _ _ h => h) (Or.inl ⟨by rfl, fun w' hSw => by go_simp⟩) hHeld ?_
          try simp only [Act.put, List.getElem_toArray, List.getElem_cons_succ, List.getElem_cons_zero, List.setIfInBounds_toArray, List.set_cons_zero, List.set_cons_succ]
          refine wpAnyH_take (i := 16) (v := .int .i64 nn) rfl (by kernel_rfl) (by kernel_rfl) (by kernel_rfl) (fun _ _ _ h => h) (Or.inl ⟨by rfl, fun w' hSw => by go_simp⟩) hHeld ?_
          try simp only [Act.put, List.getElem_toArray, List.getElem_cons_succ, List.getElem_cons_zero, List.setIfInBounds_toArray, List.set_cons_zero, List.set_cons_succ]
          refine wpAnyH_take (i := 17) (v := .int .i64 st) rfl (by kernel_rfl) (by kernel_rfl) (by kernel_rfl) (fun _ _ _ h => h) (Or.inl ⟨by rfl, fun w' hSw => by go_simp⟩) hHeld ?_
          try simp only [Act.put, List.getElem_toArray, List.getElem_cons_succ, List.getElem_cons_zero, List.setIfInBounds_toArray, List.set_cons_zero, List.set_cons_succ]
          refine wpAnyH_take (i := 18) (v := .pointer (some ⟨w.heap.size, 3, none⟩)) rfl (by kernel_rfl) (by kernel_rfl) (by kernel_rfl) (fun _ _ _ h => h) (Or.inl ⟨by rfl, fun w' hSw => by go_simp⟩) hHeld ?_
          try simp only [Act.put, List.getElem_toArray, List.getElem_cons_succ, List.getElem_cons_zero, List.setIfInBounds_toArray, List.set_cons_zero, List.set_cons_succ]
          refine wpAnyH_take (i := 19) (v := .slice Ax mx cx) rfl (by kernel_rfl) (by kernel_rfl) (by kernel_rfl) (fun _ _ _ h => h) (Or.inl ⟨by rfl, fun w' hSw => by have hq := hSw; have hd := (HCb.out _ hq).2.2; go_simp⟩) hHeld ?_
          try simp only [Act.put, List.getElem_toArray, List.getElem_cons_succ, List.getElem_cons_zero, List.setIfInBounds_toArray, List.set_cons_zero, List.set_cons_succ]
          refine wpAnyH_ready (rs := [20]) (by kernel_rfl) (by simp) (AllReadyH.cons rfl (fun K1 hK1 => ?_) AllReadyH.nil)
          try simp only [Act.put, List.getElem_toArray, List.getElem_cons_succ, List.getElem_cons_zero, List.setIfInBounds_toArray, List.set_cons_zero, List.set_cons_succ]
          go_simp
          refine Calls.mono (HFw.out _ (HS6.out.below HB7.out).1) ?_
          rintro e w8 ⟨rfl, rfl⟩
          refine hK1.out _ _ (hHeld) (fun hHeld => ?_)
          clear hK1 K1
          try simp only [Act.put, List.getElem_toArray, List.getElem_cons_succ, List.getElem_cons_zero, List.setIfInBounds_toArray, List.set_cons_zero, List.set_cons_succ]
          refine wpAnyH_take (i := 21) (v := .int .i64 m) rfl (by kernel_rfl) (by kernel_rfl) (by kernel_rfl) (fun _ _ _ h => h) (Or.inl ⟨by rfl, fun w' hSw => by go_simp⟩) hHeld ?_
          try simp only [Act.put, List.getElem_toArray, List.getElem_cons_succ, List.getElem_cons_zero, List.setIfInBounds_toArray, List.set_cons_zero, List.set_cons_succ]
          refine wpAnyH_take (i := 22) (v := .int .i64 nn) rfl (by kernel_rfl) (by kernel_rfl) (by kernel_rfl) (fun _ _ _ h => h) (Or.inl ⟨by rfl, fun w' hSw => by go_simp⟩) hHeld ?_
          try simp only [Act.put, List.getElem_toArray, List.getElem_cons_succ, List.getElem_cons_zero, List.setIfInBounds_toArray, List.set_cons_zero, List.set_cons_succ]
          refine wpAnyH_take (i := 23) (v := .bool true) rfl (by kernel_rfl) (by kernel_rfl) (by kernel_rfl) (fun _ _ _ h => h) (Or.inl ⟨by rfl, fun w' hSw => by go_simp⟩) hHeld ?_
          try simp only [Act.put, List.getElem_toArray, List.getElem_cons_succ, List.getElem_cons_zero, List.setIfInBounds_toArray, List.set_cons_zero, List.set_cons_succ]
          refine wpAnyH_take (i := 24) (v := .bool true) rfl (by kernel_rfl) (by kernel_rfl) (by kernel_rfl) (fun _ _ _ h => h) (Or.inl ⟨by rfl, fun w' hSw => by go_simp⟩) hHeld ?_
          try simp only [Act.put, List.getElem_toArray, List.getElem_cons_succ, List.getElem_cons_zero, List.setIfInBounds_toArray, List.set_cons_zero, List.set_cons_succ]
          refine wpAnyH_take (i := 25) (v := .bool true) rfl (by kernel_rfl) (by kernel_rfl) (by kernel_rfl) (fun _ _ _ h => h) (Or.inl ⟨by rfl, fun w' hSw => by go_simp⟩) hHeld ?_
          try simp only [Act.put, List.getElem_toArray, List.getElem_cons_succ, List.getElem_cons_zero, List.setIfInBounds_toArray, List.set_cons_zero, List.set_cons_succ]
          refine wpAnyH_take (i := 26) (v := .pointer (some ⟨P, 0, none⟩)) rfl (by kernel_rfl) (by kernel_rfl) (by kernel_rfl) (fun _ _ _ h => h) (Or.inl ⟨by rfl, fun w' hSw => by go_simp⟩) hHeld ?_
          try simp only [Act.put, List.getElem_toArray, List.getElem_cons_succ, List.getElem_cons_zero, List.setIfInBounds_toArray, List.set_cons_zero, List.set_cons_succ]
          refine wpAnyH_take (i := 28) (v := .pointer (some ⟨w.heap.size, 1, none⟩)) rfl (by kernel_rfl) (by kernel_rfl) (by kernel_rfl) (fun _ _ _ h => h) (Or.inl ⟨by rfl, fun w' hSw => by go_simp⟩) hHeld ?_
          try simp only [Act.put, List.getElem_toArray, List.getElem_cons_succ, List.getElem_cons_zero, List.setIfInBounds_toArray, List.set_cons_zero, List.set_cons_succ]
          refine wpAnyH_take (i := 29) (v := .int .i64 und) rfl (by kernel_rfl) (by kernel_rfl) (by kernel_rfl) (fun _ _ _ h => h) (Or.inl ⟨by rfl, fun w' hSw => by have hq := hSw; have hd := (HCb.out _ hq).1; go_simp⟩) hHeld ?_
          try simp only [Act.put, List.getElem_toArray, List.getElem_cons_succ, List.getElem_cons_zero, List.setIfInBounds_toArray, List.set_cons_zero, List.set_cons_succ]
          refine wpAnyH_ready (rs := [27]) (by kernel_rfl) (by simp) (AllReadyH.cons rfl (fun K1 hK1 => ?_) AllReadyH.nil)
          try simp only [Act.put, List.getElem_toArray, List.getElem_cons_succ, List.getElem_cons_zero, List.setIfInBounds_toArray, List.set_cons_zero, List.set_cons_succ]
          go_simp
          refine Calls.mono (HDw.out _ HB7.out) ?_
          rintro e w8 ⟨rfl, rfl⟩
          refine hK1.out _ _ (hHeld) (fun hHeld => ?_)
          clear hK1 K1
          try simp only [Act.put, List.getElem_toArray, List.getElem_cons_succ, List.getElem_cons_zero, List.setIfInBounds_toArray, List.set_cons_zero, List.set_cons_succ]
          refine wpAnyH_take (i := 30) (v := .bool true) rfl (by kernel_rfl) (by kernel_rfl) (by kernel_rfl) (fun _ _ _ h => h) (Or.inl ⟨by rfl, fun w' hSw => by go_simp⟩) hHeld ?_
          try simp only [Act.put, List.getElem_toArray, List.getElem_cons_succ, List.getElem_cons_zero, List.setIfInBounds_toArray, List.set_cons_zero, List.set_cons_succ]
          refine wpAnyH_take (i := 31) (v := .bool true) rfl (by kernel_rfl) (by kernel_rfl) (by kernel_rfl) (fun _ _ _ h => h) (Or.inl ⟨by rfl, fun w' hSw => by go_simp⟩) hHeld ?_
          try simp only [Act.put, List.getElem_toArray, List.getElem_cons_succ, List.getElem_cons_zero, List.setIfInBounds_toArray, List.set_cons_zero, List.set_cons_succ]
          refine wpAnyH_take (i := 32) (v := .bool true) rfl (by kernel_rfl) (by kernel_rfl) (by kernel_rfl) (fun _ _ _ h => h) (Or.inl ⟨by rfl, fun w' hSw => by go_simp⟩) hHeld ?_
          try simp only [Act.put, List.getElem_toArray, List.getElem_cons_succ, List.getElem_cons_zero, List.setIfInBounds_toArray, List.set_cons_zero, List.set_cons_succ]
          refine wpAnyH_done (by kernel_rfl) ?_ _
          have HRe := Lib.hid (HS6.out.below HB7.out).1
          clear hHeld
          go_wp2_with fail
          go_ret
          exact ⟨rfl, HRe.out⟩
        · have dq : (code != 0) = true := by simpa using hc0
          have htc : Tr.turnC L und bl sl ≠ 0 := by rw [← HCode.out]; exact hc0
          have htl : Tr.turnL L und bl sl = L := by unfold Tr.turnL; rw [if_neg htc]
          have htd : Tr.turnD de L und bl sl = 0 := by unfold Tr.turnD; rw [if_neg htc, HDe.out]
          have HDw : Hid (∀ W, Below w6.heap.size w6 W → Calls Tryd.prog 22 #[.pointer (some ⟨P, 0, none⟩)] W fun e w' => e = .returned (.int .i64 0) ∧ W = w') := Lib.hid (fun W hW => by
            have := deepestS (HS6.out.below hW)
            rw [htd] at this
            exact this)
          have hlw : bs.length = nw := by rw [HbL.out, HNw.out]
          have hnn : bsN.length = nw := by rw [hnl, htl, HNw.out]
          have HAll : Hid (Calls Tryd.prog 23 #[.slice A1 nw c1, .slice A2 nw c2] w6 fun e w' => e = .returned (.bool true) ∧ Below w6.heap.size w6 w') := Lib.hid (by
            have := allS (W := w6) (A := A1) (A' := A2) (c := c1) (c' := c2) bs bsN hbvW hbvN hfW hfN (by rw [Hbs.out, hbsN, htl]) hfine (by omega)
            rw [hlw, hnn] at this
            exact this)
          rw [hnn]
          clear hG2 hLp2 hL2 hbsN hnl hb6 huN hbvN hbvW hfine hfW hfN htc htl htd hlw hnn hc0
          go_wp2_with fail
          refine HAll.out.mono ?_
          rintro _ w7 ⟨rfl, hb7⟩
          go_wp2_with fail
          refine (HDw.out _ hb7).mono ?_
          rintro _ w8 ⟨rfl, rfl⟩
          go_wp2_with fail
          go_ret
          exact ⟨rfl, (HS6.out.below hb7).1⟩
end Go.Proofs.YtjeooegkfjlejaaDoor
