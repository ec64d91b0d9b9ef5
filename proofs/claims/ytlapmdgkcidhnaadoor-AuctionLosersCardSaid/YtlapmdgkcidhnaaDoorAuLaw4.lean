/- AuctionLosers. -/
import Derived.Test.YtlapmdgkcidhnaaDoorAuLaw3
namespace Go.Proofs.YtlapmdgkcidhnaaDoor
open Go.RowKit
set_option linter.unusedVariables false
set_option linter.unusedSimpArgs false
set_option maxRecDepth 100000

theorem Au.winB_more {F : List Int} {rd fl : Int} {L : List Bd} {b x : Bd} {p : Int} (hL : ∀ y ∈ L, y.Fits) (hx : x.Fits) (h : Au.winB F rd fl L = some (b, p)) (hb : x.amount < b.amount) : ∃ q, Au.winB F rd fl (L ++ [x]) = some (b, q) ∧ p ≤ q := by
  unfold Au.winB Au.cnt at h ⊢
  rw [Au.counts_push]
  unfold Au.cstep
  split
  · next hc =>
    have k := Au.win_won (fun y hy => (Au.okB_low (Au.counts_mem hy).2).2) (Au.nodup_of (Au.counts_apart (Au.okB F rd fl) Bd.who L)) h
    have hok : Au.okB F rd fl x = true := by
      simp only [Bool.and_eq_true] at hc
      exact hc.1
    have hmem : ∀ y ∈ Au.counts (Au.okB F rd fl) Bd.who L ++ [x], Au.okB F rd fl y = true ∧ y.Fits := fun y hy => by
      rcases List.mem_append.1 hy with hy | hy
      · exact ⟨(Au.counts_mem hy).2, hL y (Au.counts_mem hy).1⟩
      · simp only [List.mem_singleton] at hy
        subst hy
        exact ⟨hok, hx⟩
    have hnd : (Au.counts (Au.okB F rd fl) Bd.who L ++ [x]).Nodup := by
      have := Au.counts_apart (Au.okB F rd fl) Bd.who (L ++ [x])
      rw [Au.counts_push, Au.cstep, if_pos hc] at this
      exact Au.nodup_of this
    cases h2 : Au.win Bd.amount Au.sum Au.txt Bd.zero fl (Au.counts (Au.okB F rd fl) Bd.who L ++ [x]) with
    | none => rw [Au.win_none] at h2; simp at h2
    | some w2 =>
      obtain ⟨y, q⟩ := w2
      have k2 := Au.win_won (fun z hz => (Au.okB_low (hmem z hz).1).2) hnd h2
      have hxy := k2.ge b (by simp [k.mem])
      have hyx : Au.ge Bd.amount Au.sum Au.txt b y := by
        rcases List.mem_append.1 k2.mem with hy | hy
        · exact k.ge y hy
        · simp only [List.mem_singleton] at hy
          subst hy
          rw [Au.ge_iff]
          exact .inl hb
      have e : b = y := Au.txt_inj (hL b (Au.counts_mem k.mem).1) (hmem y k2.mem).2 (Au.okB_low (Au.counts_mem k.mem).2).1 (Au.okB_low (hmem y k2.mem).1).1 (Au.ge_anti hyx hxy)
      subst e
      refine ⟨q, rfl, ?_⟩
      rcases k.is with e | ⟨v, hv, hne, e⟩
      · have := k2.low; omega
      · have := k2.max v (by simp [hv]) hne; omega
  · exact ⟨p, h, Int.le_refl _⟩
theorem bds_flat {w : World} {g : Nat} : ∀ (l : List Bd) (off : Nat), (∀ i (h : i < l.length), w.rangeAt g (off + i * 36) l[i].cells) → (∀ y ∈ l, y.cells.length = 36) → w.rangeAt g off (Rw.flat Bd.cells l)
  | [], off, _, _ => fun j v hv => by simp [Rw.flat] at hv
  | x :: r, off, h, hl => fun j v hv => by
    have hc := hl x (by simp)
    have hv : (x.cells ++ Rw.flat Bd.cells r)[j]? = some v := hv
    by_cases hj : j < 36
    · rw [List.getElem?_append_left (by omega)] at hv
      have := h 0 (by simp) j v hv
      rwa [Nat.zero_mul, Nat.add_zero] at this
    · rw [List.getElem?_append_right (by omega), hc] at hv
      have := bds_flat r (off + 36) (fun i hi => by
        have := h (i + 1) (by simpa using hi)
        rw [show off + 36 + i * 36 = off + (i + 1) * 36 by omega]
        simpa using this) (fun y hy => hl y (by simp [hy])) (j - 36) v hv
      rwa [show off + 36 + (j - 36) = off + j by omega] at this
set_option maxHeartbeats 3200000 in
theorem auctionLosers_any (hRS : RefSum) (A : Option Addr) (c : Nat) (l : List Bd) (A2 : Option Addr) (c2 : Nat) (F : List Int) (rd fl : Int) (x : Bd) (hx : x.Fits) (w : World) (hC : CaseIn w A c l A2 F rd fl) (hT : Tab w) :
    Calls Tryd.prog 6 #[.agg #[.slice A l.length c, .slice A2 F.length c2, .int .i64 rd, .int .i64 fl], x.v] w fun e w' => e = .returned (.bool true) ∧ Below w.heap.size w w' := by
  obtain ⟨i0, hi, h2⟩ := Option.map_eq_some_iff.1 bd_info15
  simp only [Prod.mk.injEq] at h2
  have Hi := Lib.hid hi
  have Hz := Lib.hid h2.1
  have Hsz := Lib.hid h2.2.1
  have Hby := Lib.hid h2.2.2
  clear hi h2
  have hlt : (l.take 80).length ≤ 1000000 := by rw [List.length_take]; omega
  have HFit := Lib.hid (show ∀ b ∈ l.take 80, b.Fits from fun b hb => hC.fits b (List.mem_of_mem_take hb))
  have HP := Lib.hid hT.pos
  have HT := Lib.hid hT
  have FE : Hid (∀ W, Calls Tryd.prog 13 #[.slice A l.length c] W fun e w' => e = .returned (.slice A (l.take 80).length c) ∧ W = w') := Lib.hid (fun W => few15_any A c l W hC.len hC.cap)
  have WN : Hid (∀ W, Below w.heap.size w W → Calls Tryd.prog 14 #[.slice A (l.take 80).length c, .slice A2 F.length c2, .int .i64 rd, .int .i64 fl] W fun e w' => e = .returned (Au.winV (Au.winB F rd fl (l.take 80))) ∧ Below W.heap.size W w') :=
    Lib.hid (fun W hW => win_any (l.take 80) (fun b hb => (HFit.out b hb).tag) A c F A2 c2 rd fl W (((hC.bids.take 80).below hW).mono hW.size) hlt ((hC.funds.below hW).mono hW.size) hC.flen (HT.out.below hW HP.out))
  have RW : Hid (∀ W, Below w.heap.size w W → Calls Tryd.prog 15 #[.slice A (l.take 80).length c, .slice A2 F.length c2, .int .i64 rd, .int .i64 fl] W fun e w' => e = .returned (Au.winV (Au.winB F rd fl (l.take 80))) ∧ Below W.heap.size W w') :=
    Lib.hid (fun W hW => rwin_any hRS (l.take 80) HFit.out A c F A2 c2 rd fl W (((hC.bids.take 80).below hW).mono hW.size) hlt ((hC.funds.below hW).mono hW.size) hC.flen)
  have RC : Hid (∀ W, Below w.heap.size w W → Calls Tryd.prog 17 #[.slice A (l.take 80).length c, .slice A2 F.length c2, .int .i64 rd, .int .i64 fl] W fun e w' => ∃ v, e = .returned v ∧ OwnL w' W.heap.size 30 36 Bd.cells v (Au.cnt F rd fl (l.take 80)) ∧ Below W.heap.size W w') :=
    Lib.hid (fun W hW => rcounts_any hRS (l.take 80) HFit.out A c F A2 c2 rd fl W (((hC.bids.take 80).below hW).mono hW.size) hlt ((hC.funds.below hW).mono hW.size) hC.flen)
  have AWK : Hid (∀ W, Below w.heap.size w W → Calls Tryd.prog 16 #[] W fun e w' => e = .returned (.bool true) ∧ Below W.heap.size W w') := Lib.hid (fun W hW => awake15_any hRS W (HT.out.below hW HP.out))
  have HFR := Lib.hid (Au.winB_fits (F := F) (r := rd) (fl := fl) HFit.out hC.floor)
  obtain ⟨R, hR⟩ : ∃ R, R = Au.winB F rd fl (l.take 80) := ⟨_, rfl⟩
  rw [← hR] at WN HFR
  obtain ⟨L, hL⟩ : ∃ L, L = l.take 80 := ⟨_, rfl⟩
  have hbd := hC.bids.take 80
  have hfn := hC.funds
  have hflen := hC.flen
  rw [← hL] at hbd hR HFit hlt FE WN
  have hL80 : L.length ≤ 80 := by rw [hL, List.length_take]; omega
  have WT : Hid (∀ (B : Nat) (W : World) (v : Value), Below w.heap.size w W → OwnL W B 30 36 Bd.cells v (L ++ [x]) → Calls Tryd.prog 14 #[v, .slice A2 F.length c2, .int .i64 rd, .int .i64 fl] W fun e w' => e = .returned (Au.winV (Au.winB F rd fl (L ++ [x]))) ∧ Below W.heap.size W w') := Lib.hid (fun B W v hW ho => by
    obtain ⟨A3, c3, rfl, _, _⟩ := ho.form
    have hT32 : ∀ b ∈ L ++ [x], b.tag.length = 32 := fun b hb => by
      rcases List.mem_append.1 hb with hb | hb
      · exact (HFit.out b hb).tag
      · simp only [List.mem_singleton] at hb; subst hb; exact hx.tag
    exact win_any (L ++ [x]) hT32 A3 c3 F A2 c2 rd fl W ((ho.lsAt (fun x hx => Bd.cells_len (hT32 x hx))).bds) (by rw [List.length_append]; simp; omega) ((hfn.below hW).mono hW.size) hflen (HT.out.below hW HP.out))
  unfold Au.winV at WN WT
  clear hlt RC RW
  have HR37 := Lib.hid (Au.winC_len HFR.out)
  have HR1 := Lib.hid (Au.winC_one HFR.out)
  have HWS := Lib.hid (fun W => win_same W R HFR.out)
  have HZ37 := Lib.hid (Au.wc_len (b := Bd.zero) (p := 0) rfl)
  have hzw := win_zv
  have HZ36 := Lib.hid (Bd.cells_len (b := Bd.zero) rfl)
  generalize Au.wc Bd.zero 0 = ZW at *
  obtain ⟨m, hm⟩ : ∃ m, m = L.length := ⟨_, rfl⟩
  have HM := Lib.hid hm
  have HAt : Hid (∀ i, i < m → ∃ g off, A = some ⟨g, off, none⟩ ∧ g < w.heap.size ∧ ∀ k, k < m → w.rangeAt g (off + k * 36) (L.getD k Bd.zero).cells) := Lib.hid (fun i hi => by
    obtain ⟨g, off, e, hg, ha⟩ := hbd (by intro e; rw [e] at hm; simp at hm; omega)
    refine ⟨g, off, e, hg, fun k hk => ?_⟩
    rw [List.getD_eq_getElem?_getD, List.getElem?_eq_getElem (by omega)]
    exact ha k (by omega))
  have HK36 := Lib.hid (Bd.cells_len hx.tag)
  have HK1 := Lib.hid (Bd.cells_one hx.tag)
  have HX := Lib.hid hx
  rw [← hm] at FE WN hL80
  have hxv : x.v = .agg x.cells.toArray := rfl
  rw [hxv]
  obtain ⟨CK, hCK⟩ : ∃ CK, CK = x.cells := ⟨_, rfl⟩
  have HCK := Lib.hid hCK.symm
  rw [← hCK] at HK36 HK1 ⊢
  have HXc : Hid (∀ W g, Row W g 30 CK → W.cell? ⟨g, 1, none⟩ = some (.int .i64 x.who) ∧ W.cell? ⟨g, 2, none⟩ = some (.int .i64 x.amount)) := Lib.hid (fun W g h => by
    rw [← HCK.out] at h
    exact ⟨(bid_box h).2.1, (bid_box h).2.2.1⟩)
  generalize l.length = n0 at *
  generalize F.length = q at *
  generalize Bd.zero.cells = ZB at *
  clear hC hT hRS hbd hfn hflen hxv hCK hL
  obtain ⟨r2, hb0, r1⟩ := row_two w #[.slice A n0 c, .slice A2 q c2, .int .i64 rd, .int .i64 fl] CK.toArray 25 30
  simp only [List.toList_toArray] at r1 r2
  have HB0 : Hid (Blocks w ((w.alloc (.cells #[.slice A n0 c, .slice A2 q c2, .int .i64 rd, .int .i64 fl] 25)).alloc (.cells CK.toArray 30)) [(w.heap.size + 1, 30, CK), (w.heap.size, 25, [.slice A n0 c, .slice A2 q c2, .int .i64 rd, .int .i64 fl])]) := Lib.hid (((Blocks.nil hb0).cons r1).cons r2)
  clear r1 r2 hb0 hm
  cases R with
  | none =>
    have hCRn : Au.winC none = ZW ∨ True := .inr trivial
    clear hCRn HWS
    generalize Au.winC none = CR at *
    simp only [Option.isSome_none] at WN
    clear hR
    go_enter Tryd.func6, Tryd.ntmps6
    go_wp2_with fail
    refine calls_named ?_
    intro w1 hw1
    have HB1 : Hid (Blocks w w1 [(w.heap.size + 1, 30, CK), (w.heap.size, 25, [.slice A n0 c, .slice A2 q c2, .int .i64 rd, .int .i64 fl])]) := Lib.hid (by rw [hw1]; exact HB0.out)
    clear hw1 HB0
    refine (FE.out _).mono ?_
    rintro _ w1' ⟨rfl, rfl⟩
    have c0 := HB1.out.tl.hd.cell 0 (by simp)
    simp only [List.getElem_cons_zero] at c0
    have f0 := HB1.out.tl.hd.free 0
    have hr1 := HB1.out.tl.hd.set 0 (.slice A m c) (by simp)
    simp only [List.set_cons_zero] at hr1
    have hne : w.heap.size + 1 ≠ w.heap.size := by omega
    have Hb1 : Hid (Below w.heap.size w (w1.setCell ⟨w.heap.size, 0, none⟩ (.slice A m c))) := Lib.hid (below_own HB1.out.1 (grownBy_set _ _ _ _) (fun k hk => by cases hk; exact Nat.le_refl _))
    have HBs : Hid (Blocks w (w1.setCell ⟨w.heap.size, 0, none⟩ (.slice A m c)) [(w.heap.size + 1, 30, CK), (w.heap.size, 25, [.slice A m c, .slice A2 q c2, .int .i64 rd, .int .i64 fl])]) := Lib.hid (((Blocks.nil Hb1.out).cons hr1).cons (HB1.out.hd.kept (grownBy_set _ _ _ _) (fun e => by injection e with e; omega)))
    have d0 := hr1.cell 0 (by simp)
    have d1 := hr1.cell 1 (by simp)
    have d2 := hr1.cell 2 (by simp)
    have d3 := hr1.cell 3 (by simp)
    simp only [List.getElem_cons_zero, List.getElem_cons_succ] at d0 d1 d2 d3
    clear FE hr1 hne
    go_wp2_with fail
    refine (WN.out _ Hb1.out).mono ?_
    rintro _ w2 ⟨rfl, hb2⟩
    have HB2 := Lib.hid (HBs.out.step hb2)
    clear hb2 c0 f0 d0 d1 d2 d3 HBs
    have Hn2 := Lib.hid (Row.new w2 32 ZW)
    go_wp2_with (first
      | (
         with_reducible show wpList _ _ _ (⟨_, .store 32 (.tmp 5) _, _, _, _, _⟩ :: _) _ _
         refine wpList_store_at rfl 32 (.tmp 5) (.tmp 24) rfl w2.heap.size 0 CR ZW _ rfl rfl (Hn2.out) (by have := HZ37.out; have := HR37.out; omega) (by rw [win_size, HR37.out]) HR1.out ?_
         intro w3 hr hg
         rw [splice_all (HR37.out.trans HZ37.out.symm)] at hr
         have HB3 := Lib.hid (((HB2.out.alloc (.cells ZW.toArray 32)).put hg HB2.out.size HB2.out.fresh).cons hr)
         clear hr hg))
    refine (AWK.out _ HB3.out.1).mono ?_
    rintro _ w4 ⟨rfl, hb4⟩
    have HB4 := Lib.hid (HB3.out.step hb4)
    clear hb4
    go_wp2_with fail
    refine (AWK.out _ HB4.out.1).mono ?_
    rintro _ w5 ⟨rfl, hb5⟩
    have HB5 := Lib.hid (HB4.out.step hb5)
    clear hb5
    go_wp2_with fail
    go_ret
    exact ⟨rfl, HB5.out.1⟩
  | some bp =>
    obtain ⟨b, p⟩ := bp
    have hCR : Au.winC (some (b, p)) = Au.wc b p := rfl
    rw [hCR] at WN HR37 HR1
    simp only [Option.isSome_some] at WN
    have hbF : b.Fits := HFR.out.1
    have HB36 := Lib.hid (Bd.cells_len hbF.tag)
    have HXb : Hid (∀ q W g, Row W g 32 (Au.wc b q) → W.rangeAt g 0 b.cells ∧ W.cell? ⟨g, 36, none⟩ = some (.int .i64 q)) := Lib.hid (fun q W g h => by
      refine ⟨range_head (row_range h), ?_⟩
      have h1 := row_range h 36 (.int .i64 q) (by unfold Au.wc; rw [List.getElem?_append_right (by rw [HB36.out]; omega), HB36.out]; rfl)
      rwa [Nat.zero_add] at h1)
    have HXa : Hid (∀ W g, Row W g 32 (Au.wc b p) → W.cell? ⟨g, 2, none⟩ = some (.int .i64 b.amount)) := Lib.hid (fun W g h => by
      have := (HXb.out p W g h).1 2 (.int .i64 b.amount) rfl
      rwa [Nat.zero_add] at this)
    have HX37 := Lib.hid (fun q => Au.wc_len (b := b) (p := q) hbF.tag)
    have HX1 := Lib.hid (fun q => Au.wc_one (b := b) (p := q) hbF.tag)
    have HBE := Lib.hid (fun W => bid_eqD W b b hbF hbF (v := true) (by simp))
    clear hCR HWS
    by_cases hge : b.amount ≤ x.amount
    · have dge : decide (b.amount ≤ x.amount) = true := by simpa using hge
      clear hR WT HX hge
      generalize Au.wc b p = CR at *
      generalize x.amount = xa at *
      generalize b.amount = ba at *
      go_enter Tryd.func6, Tryd.ntmps6
      go_wp2_with fail
      refine calls_named ?_
      intro w1 hw1
      have HB1 : Hid (Blocks w w1 [(w.heap.size + 1, 30, CK), (w.heap.size, 25, [.slice A n0 c, .slice A2 q c2, .int .i64 rd, .int .i64 fl])]) := Lib.hid (by rw [hw1]; exact HB0.out)
      clear hw1 HB0
      refine (FE.out _).mono ?_
      rintro _ w1' ⟨rfl, rfl⟩
      have c0 := HB1.out.tl.hd.cell 0 (by simp)
      simp only [List.getElem_cons_zero] at c0
      have f0 := HB1.out.tl.hd.free 0
      have hr1 := HB1.out.tl.hd.set 0 (.slice A m c) (by simp)
      simp only [List.set_cons_zero] at hr1
      have hne : w.heap.size + 1 ≠ w.heap.size := by omega
      have Hb1 : Hid (Below w.heap.size w (w1.setCell ⟨w.heap.size, 0, none⟩ (.slice A m c))) := Lib.hid (below_own HB1.out.1 (grownBy_set _ _ _ _) (fun k hk => by cases hk; exact Nat.le_refl _))
      have HBs : Hid (Blocks w (w1.setCell ⟨w.heap.size, 0, none⟩ (.slice A m c)) [(w.heap.size + 1, 30, CK), (w.heap.size, 25, [.slice A m c, .slice A2 q c2, .int .i64 rd, .int .i64 fl])]) := Lib.hid (((Blocks.nil Hb1.out).cons hr1).cons (HB1.out.hd.kept (grownBy_set _ _ _ _) (fun e => by injection e with e; omega)))
      have d0 := hr1.cell 0 (by simp)
      have d1 := hr1.cell 1 (by simp)
      have d2 := hr1.cell 2 (by simp)
      have d3 := hr1.cell 3 (by simp)
      simp only [List.getElem_cons_zero, List.getElem_cons_succ] at d0 d1 d2 d3
      clear FE hr1 hne
      go_wp2_with fail
      refine (WN.out _ Hb1.out).mono ?_
      rintro _ w2 ⟨rfl, hb2⟩
      have HB2 := Lib.hid (HBs.out.step hb2)
      clear hb2 c0 f0 d0 d1 d2 d3 HBs
      have Hn2 := Lib.hid (Row.new w2 32 ZW)
      go_wp2_with (first
        | (
           with_reducible show wpList _ _ _ (⟨_, .store 32 (.tmp 5) _, _, _, _, _⟩ :: _) _ _
           refine wpList_store_at rfl 32 (.tmp 5) (.tmp 24) rfl w2.heap.size 0 CR ZW _ rfl rfl (Hn2.out) (by have := HZ37.out; have := HR37.out; omega) (by rw [win_size, HR37.out]) HR1.out ?_
           intro w3 hr hg
           rw [splice_all (HR37.out.trans HZ37.out.symm)] at hr
           have HB3 := Lib.hid (((HB2.out.alloc (.cells ZW.toArray 32)).put hg HB2.out.size HB2.out.fresh).cons hr)
           clear hr hg))
      refine (AWK.out _ HB3.out.1).mono ?_
      rintro _ w4 ⟨rfl, hb4⟩
      have HB4 := Lib.hid (HB3.out.step hb4)
      clear hb4
      have ca := HXa.out _ _ HB4.out.hd
      have cb := (HXc.out _ _ HB4.out.tl.hd).2
      go_wp2_with fail
      refine (AWK.out _ HB4.out.1).mono ?_
      rintro _ w5 ⟨rfl, hb5⟩
      have HB5 := Lib.hid (HB4.out.step hb5)
      clear hb5
      go_wp2_with fail
      go_ret
      exact ⟨rfl, HB5.out.1⟩
    · have dge : decide (b.amount ≤ x.amount) = false := by simpa using hge
      obtain ⟨p2, hp2, hpp⟩ := Au.winB_more (F := F) (rd := rd) (fl := fl) HFit.out HX.out hR.symm (by omega)
      rw [hp2] at WT
      have hC2 : Au.winC (some (b, p2)) = Au.wc b p2 := rfl
      rw [hC2] at WT
      simp only [Option.isSome_some] at WT
      have dpp : decide (p ≤ p2) = true := by simpa using hpp
      have hLne : L ≠ [] := by
        intro e
        have h0 : Au.winB F rd fl L = none := by rw [e]; exact Au.win_none.2 rfl
        rw [h0] at hR
        cases hR
      have hmpos : 0 < m := by rw [HM.out]; exact List.length_pos_iff.2 hLne
      obtain ⟨g, off, hAe, hg, hat⟩ := HAt.out 0 hmpos
      subst hAe
      have HAT : Hid (∀ k, k < m → ∀ W, Below w.heap.size w W → W.cell? ⟨g, off + k * 36 + 1, none⟩ = some (.int .i64 (L.getD k Bd.zero).who)) := Lib.hid (fun k hk W hW => (hW.cell (p := ⟨g, off + k * 36 + 1, none⟩) hg).trans (hat k hk 1 _ rfl))
      have HFL : Hid ((Rw.flat Bd.cells L).length = m * 36 ∧ (∀ u ∈ Rw.flat Bd.cells L, u.oneCell' = true) ∧ ∀ W, Below w.heap.size w W → ∀ j u, (Rw.flat Bd.cells L)[j]? = some u → W.cell? ((⟨g, off, none⟩ : Addr).add j) = some u) := Lib.hid (by
        have hl36 : ∀ y ∈ L, y.cells.length = 36 := fun y hy => Bd.cells_len (HFit.out y hy).tag
        refine ⟨by rw [Rw.flat_len hl36, HM.out], fun u hu => ?_, fun W hW j u hu => ?_⟩
        · obtain ⟨y, hy, hyu⟩ := List.mem_flatMap.1 hu
          exact Bd.cells_one (HFit.out y hy).tag u hyu
        · have e : (⟨g, off, none⟩ : Addr).add j = ⟨g, off + j, none⟩ := by unfold Addr.add; split <;> simp_all
          rw [e]
          refine (hW.cell (p := ⟨g, off + j, none⟩) hg).trans ?_
          exact bds_flat L off (fun i hi => by
            have := hat i (by rw [HM.out]; exact hi)
            rw [List.getD_eq_getElem?_getD, List.getElem?_eq_getElem hi] at this
            exact this) hl36 j u hu)
      have hk63 : Hid (0 + m ≤ maxLen ∧ L.length + 1 ≤ maxLen) := Lib.hid (by rw [← HM.out]; unfold maxLen; omega)
      have hk48 : Hid (((0 + m) + (0 + m) / 4 + 192) * 64 ≤ 281474976710656 ∧ ((L.length + 1) + (L.length + 1) / 4 + 192) * 64 ≤ 281474976710656) := Lib.hid (by rw [← HM.out]; omega)
      obtain ⟨CB, hCB⟩ : ∃ CB, b.cells = CB := ⟨_, rfl⟩
      rw [hCB] at HXb HBE HB36
      clear hR hge hp2 hC2 hpp hLne hat hCB HAt hbF HFR
      generalize x.amount = xa at *
      generalize b.amount = ba at *
      go_enter Tryd.func6, Tryd.ntmps6
      go_wp2_with fail
      refine calls_named ?_
      intro w1 hw1
      have HB1 : Hid (Blocks w w1 [(w.heap.size + 1, 30, CK), (w.heap.size, 25, [.slice (some ⟨g, off, none⟩) n0 c, .slice A2 q c2, .int .i64 rd, .int .i64 fl])]) := Lib.hid (by rw [hw1]; exact HB0.out)
      clear hw1 HB0
      refine (FE.out _).mono ?_
      rintro _ w1' ⟨rfl, rfl⟩
      have c0 := HB1.out.tl.hd.cell 0 (by simp)
      simp only [List.getElem_cons_zero] at c0
      have f0 := HB1.out.tl.hd.free 0
      have hr1 := HB1.out.tl.hd.set 0 (.slice (some ⟨g, off, none⟩) m c) (by simp)
      simp only [List.set_cons_zero] at hr1
      have hne : w.heap.size + 1 ≠ w.heap.size := by omega
      have Hb1 : Hid (Below w.heap.size w (w1.setCell ⟨w.heap.size, 0, none⟩ (.slice (some ⟨g, off, none⟩) m c))) := Lib.hid (below_own HB1.out.1 (grownBy_set _ _ _ _) (fun k hk => by cases hk; exact Nat.le_refl _))
      have HBs : Hid (Blocks w (w1.setCell ⟨w.heap.size, 0, none⟩ (.slice (some ⟨g, off, none⟩) m c)) [(w.heap.size + 1, 30, CK), (w.heap.size, 25, [.slice (some ⟨g, off, none⟩) m c, .slice A2 q c2, .int .i64 rd, .int .i64 fl])]) := Lib.hid (((Blocks.nil Hb1.out).cons hr1).cons (HB1.out.hd.kept (grownBy_set _ _ _ _) (fun e => by injection e with e; omega)))
      have d0 := hr1.cell 0 (by simp)
      have d1 := hr1.cell 1 (by simp)
      have d2 := hr1.cell 2 (by simp)
      have d3 := hr1.cell 3 (by simp)
      simp only [List.getElem_cons_zero, List.getElem_cons_succ] at d0 d1 d2 d3
      clear FE hr1 hne
      go_wp2_with fail
      refine (WN.out _ Hb1.out).mono ?_
      rintro _ w2 ⟨rfl, hb2⟩
      have HB2 := Lib.hid (HBs.out.step hb2)
      clear hb2 c0 f0 d0 d1 d2 d3 HBs
      have Hn2 := Lib.hid (Row.new w2 32 ZW)
      go_wp2_with (first
        | (
           with_reducible show wpList _ _ _ (⟨_, .store 32 (.tmp 5) _, _, _, _, _⟩ :: _) _ _
           refine wpList_store_at rfl 32 (.tmp 5) (.tmp 24) rfl w2.heap.size 0 (Au.wc b p) ZW _ rfl rfl (Hn2.out) (by have := HZ37.out; have := HR37.out; omega) (by rw [win_size, HR37.out]) HR1.out ?_
           intro w3 hr hg
           rw [splice_all (HR37.out.trans HZ37.out.symm)] at hr
           have HB3 := Lib.hid (((HB2.out.alloc (.cells ZW.toArray 32)).put hg HB2.out.size HB2.out.fresh).cons hr)
           clear hr hg))
      refine (AWK.out _ HB3.out.1).mono ?_
      rintro _ w4 ⟨rfl, hb4⟩
      have HB4 := Lib.hid (HB3.out.step hb4)
      clear hb4
      have ca := HXa.out _ _ HB4.out.hd
      have cb := (HXc.out _ _ HB4.out.tl.hd).2
      go_wp2_with fail
      clear ca cb
      generalize hg5 : w2.heap.size = g5 at *
      go_loopw [7] (fun s7 wr => ∃ i : Nat, i ≤ m ∧ s7 = .int .i64 i ∧ Hid (Below w4.heap.size w4 wr)) (fun i _ => m - (intOf i).toNat)
      case atStart => exact ⟨0, Nat.zero_le _, rfl, Lib.hid (Below.refl _ _)⟩
      case round =>
        obtain ⟨i, him, rfl, Hbr⟩ := hrel
        have HBf := Lib.hid (HB4.out.step Hbr.out)
        have cc := HBf.out.tl.tl.hd.cell 0 (by simp)
        simp only [List.getElem_cons_zero] at cc
        by_cases hin : i < m
        · have hini : (i : Int) < (m : Int) := by omega
          have hi0 : (0 : Int) ≤ (i : Int) := by omega
          have y1 := HAT.out i hin _ HBf.out.1
          have y2 := (HXc.out _ _ HBf.out.tl.hd).1
          generalize (L.getD i Bd.zero).who = wi at *
          generalize x.who = xw at *
          cases hee : (wi == xw) with
          | true =>
            go_wp2_with fail
            go_quiet (fail)
            go_wp2_with fail
            go_ret
            exact ⟨rfl, below_drewN' HBf.out.1 _⟩
          | false =>
            go_wp2_with fail
            go_quiet (fail)
            go_wp2_with fail
            exact ⟨⟨i + 1, by omega, by go_num, Lib.hid (below_drewN' Hbr.out _)⟩, by simp [intOf]; omega⟩
        · have hini : ¬ (i : Int) < (m : Int) := by omega
          have e : m = i := by omega
          subst e
          go_wp2_with fail
          clear cc
          have HG : Hid (w.heap.size < wr.heap.size ∧ w.heap.size + 1 < wr.heap.size ∧ g5 < wr.heap.size) := Lib.hid ⟨HBf.out.tl.tl.hd.lt, HBf.out.tl.hd.lt, HBf.out.hd.lt⟩
          have HBB : Hid (wr.heap.size ≤ wr.drew.heap.size) := Lib.hid (Nat.le_refl _)
          have WT' := Lib.hid (WT.out wr.heap.size)
          clear WT
          have WT := WT'
          clear WT'
          generalize hB0 : wr.heap.size = B0 at *
          clear hB0 hg5
          refine wp_region_held_drew (S := fun w' => Row w' w.heap.size 25 [.slice (some ⟨g, off, none⟩) m c, .slice A2 q c2, .int .i64 rd, .int .i64 fl] ∧ Row w' (w.heap.size + 1) 30 CK ∧ Row w' g5 32 (Au.wc b p) ∧ Below w.heap.size w w') (by kernel_rfl) (⟨HBf.out.tl.tl.hd.kept (grownBy_drew _ none) (by simp), HBf.out.tl.hd.kept (grownBy_drew _ none) (by simp), HBf.out.hd.kept (grownBy_drew _ none) (by simp), HBf.out.1.drew⟩) (fun hHeld => ?_)
          generalize wr.drew = wq at *
          refine wpAnyH_take (i := 1) (v := .pointer (some ⟨w.heap.size, 0, none⟩)) rfl (by kernel_rfl) (by kernel_rfl) (by kernel_rfl) (fun _ _ _ h => h) (Or.inl ⟨by rfl, fun w' hSw => by go_simp⟩) hHeld ?_
          try simp only [Act.put, List.getElem_toArray, List.getElem_cons_succ, List.getElem_cons_zero, List.setIfInBounds_toArray, List.set_cons_zero, List.set_cons_succ]
          refine wpAnyH_take (i := 2) (v := .slice (some ⟨g, off, none⟩) m c) rfl (by kernel_rfl) (by kernel_rfl) (by kernel_rfl) (fun _ _ _ h => h) (Or.inl ⟨by rfl, fun w' hSw => by have hq := hSw; have q := hq.1.cell 0 (by simp); simp only [List.getElem_cons_zero, List.getElem_cons_succ] at q; go_simp⟩) hHeld ?_
          try simp only [Act.put, List.getElem_toArray, List.getElem_cons_succ, List.getElem_cons_zero, List.setIfInBounds_toArray, List.set_cons_zero, List.set_cons_succ]
          refine' wpAnyH_take (i := 4) (v := _) rfl (by kernel_rfl) (by kernel_rfl) (by kernel_rfl) (fun _ _ _ h => h) (yieldsIf_load_mid (by rfl) _ _ rfl (w.heap.size + 1) 0 rfl CK _ (fun w' hSw => row_range hSw.2.1) Tryd.underlying30 rfl (by rw [bid_info, HK36.out])) hHeld ?_
          try simp only [Act.put, List.getElem_toArray, List.getElem_cons_succ, List.getElem_cons_zero, List.setIfInBounds_toArray, List.set_cons_zero, List.set_cons_succ]
          refine wpAnyH_take (i := 7) (v := .pointer (some ⟨w.heap.size, 1, none⟩)) rfl (by kernel_rfl) (by kernel_rfl) (by kernel_rfl) (fun _ _ _ h => h) (Or.inl ⟨by rfl, fun w' hSw => by go_simp⟩) hHeld ?_
          try simp only [Act.put, List.getElem_toArray, List.getElem_cons_succ, List.getElem_cons_zero, List.setIfInBounds_toArray, List.set_cons_zero, List.set_cons_succ]
          refine wpAnyH_take (i := 8) (v := .slice A2 q c2) rfl (by kernel_rfl) (by kernel_rfl) (by kernel_rfl) (fun _ _ _ h => h) (Or.inl ⟨by rfl, fun w' hSw => by have hq := hSw; have q := hq.1.cell 1 (by simp); simp only [List.getElem_cons_zero, List.getElem_cons_succ] at q; go_simp⟩) hHeld ?_
          try simp only [Act.put, List.getElem_toArray, List.getElem_cons_succ, List.getElem_cons_zero, List.setIfInBounds_toArray, List.set_cons_zero, List.set_cons_succ]
          refine wpAnyH_take (i := 9) (v := .pointer (some ⟨w.heap.size, 2, none⟩)) rfl (by kernel_rfl) (by kernel_rfl) (by kernel_rfl) (fun _ _ _ h => h) (Or.inl ⟨by rfl, fun w' hSw => by go_simp⟩) hHeld ?_
          try simp only [Act.put, List.getElem_toArray, List.getElem_cons_succ, List.getElem_cons_zero, List.setIfInBounds_toArray, List.set_cons_zero, List.set_cons_succ]
          refine wpAnyH_take (i := 10) (v := .int .i64 rd) rfl (by kernel_rfl) (by kernel_rfl) (by kernel_rfl) (fun _ _ _ h => h) (Or.inl ⟨by rfl, fun w' hSw => by have hq := hSw; have q := hq.1.cell 2 (by simp); simp only [List.getElem_cons_zero, List.getElem_cons_succ] at q; go_simp⟩) hHeld ?_
          try simp only [Act.put, List.getElem_toArray, List.getElem_cons_succ, List.getElem_cons_zero, List.setIfInBounds_toArray, List.set_cons_zero, List.set_cons_succ]
          refine wpAnyH_take (i := 11) (v := .pointer (some ⟨w.heap.size, 3, none⟩)) rfl (by kernel_rfl) (by kernel_rfl) (by kernel_rfl) (fun _ _ _ h => h) (Or.inl ⟨by rfl, fun w' hSw => by go_simp⟩) hHeld ?_
          try simp only [Act.put, List.getElem_toArray, List.getElem_cons_succ, List.getElem_cons_zero, List.setIfInBounds_toArray, List.set_cons_zero, List.set_cons_succ]
          refine wpAnyH_take (i := 12) (v := .int .i64 fl) rfl (by kernel_rfl) (by kernel_rfl) (by kernel_rfl) (fun _ _ _ h => h) (Or.inl ⟨by rfl, fun w' hSw => by have hq := hSw; have q := hq.1.cell 3 (by simp); simp only [List.getElem_cons_zero, List.getElem_cons_succ] at q; go_simp⟩) hHeld ?_
          try simp only [Act.put, List.getElem_toArray, List.getElem_cons_succ, List.getElem_cons_zero, List.setIfInBounds_toArray, List.set_cons_zero, List.set_cons_succ]
          refine wpAnyH_ready (rs := [0, 5, 17]) (by kernel_rfl) (by simp) (AllReadyH.cons rfl (fun K1 hK1 => ?_) (AllReadyH.cons rfl (fun K1 hK1 => ?_) (AllReadyH.cons rfl (fun K1 hK1 => ?_) AllReadyH.nil)))
          · skip
            try simp only [Act.put, List.getElem_toArray, List.getElem_cons_succ, List.getElem_cons_zero, List.setIfInBounds_toArray, List.set_cons_zero, List.set_cons_succ]
            go_simp
            have hd2 := (Below.refl wq.heap.size wq).alloc (Nat.le_refl _) (.cells #[] 30)
            have HBs := Lib.hid hHeld
            have hHeld2 : Row (wq.alloc (.cells #[] 30)) w.heap.size 25 [.slice (some ⟨g, off, none⟩) m c, .slice A2 q c2, .int .i64 rd, .int .i64 fl] ∧ Row (wq.alloc (.cells #[] 30)) (w.heap.size + 1) 30 CK ∧ Row (wq.alloc (.cells #[] 30)) g5 32 (Au.wc b p) ∧ Below w.heap.size w (wq.alloc (.cells #[] 30)) := ⟨hHeld.1.kept (grownBy_of_below hd2 none) (by simp), hHeld.2.1.kept (grownBy_of_below hd2 none) (by simp), hHeld.2.2.1.kept (grownBy_of_below hd2 none) (by simp), two_below' hHeld.2.2.2 hd2⟩
            have HO58 : Hid (OwnL (wq.alloc (.cells #[] 30)) B0 30 36 Bd.cells (.slice (some ⟨wq.heap.size, 0, none⟩) 0 0) []) := Lib.hid (row_own (Row.new wq 30 []) HBB.out rfl (Nat.le_refl _) (by unfold maxLen; omega) rfl rfl rfl)
            have LEwb1 : Hid (B0 ≤ (wq.alloc (.cells #[] 30)).heap.size) := Lib.hid (Nat.le_trans HBB.out hd2.size)
            generalize wq.alloc (.cells #[] 30) = wb1 at *
            generalize hgb : wq.heap.size = gb at *
            have HGB := Lib.hid hgb
            clear hgb
            refine hK1.out _ _ (hHeld2) (fun hHeld => ?_)
            clear hK1 K1
            try simp only [Act.put, List.getElem_toArray, List.getElem_cons_succ, List.getElem_cons_zero, List.setIfInBounds_toArray, List.set_cons_zero, List.set_cons_succ]
            clear hHeld2
            refine wpAnyH_ready (rs := [3, 5, 17]) (by kernel_rfl) (by simp) (AllReadyH.cons rfl (fun K1 hK1 => ?_) (AllReadyH.cons rfl (fun K1 hK1 => ?_) (AllReadyH.cons rfl (fun K1 hK1 => ?_) AllReadyH.nil)))
            · skip
              try simp only [Act.put, List.getElem_toArray, List.getElem_cons_succ, List.getElem_cons_zero, List.setIfInBounds_toArray, List.set_cons_zero, List.set_cons_succ]
              rw [if_pos (by rfl)]
              refine wp_append_own_wide _ _ _ 22 rfl B0 30 i0 (.agg ZB.toArray) 36 64 Tryd.underlying22 Hi.out Hz.out Hsz.out Hby.out (by rw [← HZ36.out]; rfl) (by decide) (.slice (some ⟨gb, 0, none⟩) 0 0) _ _ rfl HO58.out.own ⟨g, off, none⟩ m c (Rw.flat Bd.cells L) rfl HFL.out.1 (HFL.out.2.2 _ hHeld.2.2.2) HFL.out.2.1 hk63.out.1 hk48.out.1 LEwb1.out ?_
              intro v61 wp3 hown hgrow _
              have hHeld2 : Row wp3 w.heap.size 25 [.slice (some ⟨g, off, none⟩) m c, .slice A2 q c2, .int .i64 rd, .int .i64 fl] ∧ Row wp3 (w.heap.size + 1) 30 CK ∧ Row wp3 g5 32 (Au.wc b p) ∧ Below w.heap.size w wp3 := ⟨hHeld.1.kept hgrow (fun e => by have := (HO58.out.lt _ e.symm).1; have := HG.out; omega), hHeld.2.1.kept hgrow (fun e => by have := (HO58.out.lt _ e.symm).1; have := HG.out; omega), hHeld.2.2.1.kept hgrow (fun e => by have := (HO58.out.lt _ e.symm).1; have := HG.out; omega), below_own hHeld.2.2.2 hgrow (fun k hk => by have := (HO58.out.lt _ hk).1; have := HG.out; omega)⟩
              have HO61 : Hid (OwnL wp3 B0 30 36 Bd.cells v61 L) := Lib.hid ⟨by rw [← HM.out]; simpa [Rw.flat_nil] using hown⟩
              have LEwp3 : Hid (B0 ≤ wp3.heap.size) := Lib.hid (Nat.le_trans LEwb1.out hgrow.size)
              clear hown hgrow
              refine hK1.out _ _ (hHeld2) (fun hHeld => ?_)
              clear hK1 K1
              try simp only [Act.put, List.getElem_toArray, List.getElem_cons_succ, List.getElem_cons_zero, List.setIfInBounds_toArray, List.set_cons_zero, List.set_cons_succ]
              clear hHeld2
              refine wpAnyH_ready (rs := [5, 17]) (by kernel_rfl) (by simp) (AllReadyH.cons rfl (fun K1 hK1 => ?_) (AllReadyH.cons rfl (fun K1 hK1 => ?_) AllReadyH.nil))
              · skip
                try simp only [Act.put, List.getElem_toArray, List.getElem_cons_succ, List.getElem_cons_zero, List.setIfInBounds_toArray, List.set_cons_zero, List.set_cons_succ]
                rw [if_pos (by rfl)]
                refine wp_buildSlice 22 30 1 _ rfl CK.toArray i0 (.agg ZB.toArray) Tryd.underlying22 Hi.out Hz.out (by rw [Hsz.out]; decide) (by rw [Hsz.out]; decide) (by rw [Hsz.out, Array.toList_map]; exact fill_one15 36 (.agg ZB.toArray) CK HK36.out) ?_
                have hd5 := (Below.refl wp3.heap.size wp3).alloc (Nat.le_refl _) (.cells CK.toArray 30)
                replace HO61 := Lib.hid (HO61.out.below hd5)
                have hHeld2 : Row (wp3.alloc (.cells CK.toArray 30)) w.heap.size 25 [.slice (some ⟨g, off, none⟩) m c, .slice A2 q c2, .int .i64 rd, .int .i64 fl] ∧ Row (wp3.alloc (.cells CK.toArray 30)) (w.heap.size + 1) 30 CK ∧ Row (wp3.alloc (.cells CK.toArray 30)) g5 32 (Au.wc b p) ∧ Below w.heap.size w (wp3.alloc (.cells CK.toArray 30)) := ⟨hHeld.1.kept (grownBy_of_below hd5 none) (by simp), hHeld.2.1.kept (grownBy_of_below hd5 none) (by simp), hHeld.2.2.1.kept (grownBy_of_below hd5 none) (by simp), two_below' hHeld.2.2.2 hd5⟩
                have HN : Hid (Row (wp3.alloc (.cells CK.toArray 30)) wp3.heap.size 30 CK) := Lib.hid (Row.new wp3 30 CK)
                have HNlt : Hid (wp3.heap.size < (wp3.alloc (.cells CK.toArray 30)).heap.size) := Lib.hid HN.out.lt
                have LEwn4 : Hid (B0 ≤ (wp3.alloc (.cells CK.toArray 30)).heap.size) := Lib.hid (Nat.le_trans LEwp3.out hd5.size)
                generalize wp3.alloc (.cells CK.toArray 30) = wn4 at *
                generalize hgn : wp3.heap.size = gN at *
                clear hgn
                refine hK1.out _ _ (hHeld2) (fun hHeld => ?_)
                clear hK1 K1
                try simp only [Act.put, List.getElem_toArray, List.getElem_cons_succ, List.getElem_cons_zero, List.setIfInBounds_toArray, List.set_cons_zero, List.set_cons_succ]
                clear hHeld2
                refine wpAnyH_ready (rs := [6, 17]) (by kernel_rfl) (by simp) (AllReadyH.cons rfl (fun K1 hK1 => ?_) (AllReadyH.cons rfl (fun K1 hK1 => ?_) AllReadyH.nil))
                · skip
                  try simp only [Act.put, List.getElem_toArray, List.getElem_cons_succ, List.getElem_cons_zero, List.setIfInBounds_toArray, List.set_cons_zero, List.set_cons_succ]
                  rw [if_pos (by rfl)]
                  refine wp_append_own_wide _ _ _ 22 rfl B0 30 i0 (.agg ZB.toArray) 36 64 Tryd.underlying22 Hi.out Hz.out Hsz.out Hby.out (by rw [← HZ36.out]; rfl) (by decide) v61 _ _ rfl HO61.out.own ⟨gN, 0, none⟩ 1 1 CK rfl (by rw [HK36.out]) (row_news HN.out) HK1.out hk63.out.2 hk48.out.2 LEwn4.out ?_
                  intro v64 wp6 hown hgrow _
                  have hHeld2 : Row wp6 w.heap.size 25 [.slice (some ⟨g, off, none⟩) m c, .slice A2 q c2, .int .i64 rd, .int .i64 fl] ∧ Row wp6 (w.heap.size + 1) 30 CK ∧ Row wp6 g5 32 (Au.wc b p) ∧ Below w.heap.size w wp6 := ⟨hHeld.1.kept hgrow (fun e => by have := (HO61.out.lt _ e.symm).1; have := HG.out; omega), hHeld.2.1.kept hgrow (fun e => by have := (HO61.out.lt _ e.symm).1; have := HG.out; omega), hHeld.2.2.1.kept hgrow (fun e => by have := (HO61.out.lt _ e.symm).1; have := HG.out; omega), below_own hHeld.2.2.2 hgrow (fun k hk => by have := (HO61.out.lt _ hk).1; have := HG.out; omega)⟩
                  have HO64 : Hid (OwnL wp6 B0 30 36 Bd.cells v64 (L ++ [x])) := Lib.hid (OwnL.pushed (by rw [HCK.out]; exact hown))
                  have LEwp6 : Hid (B0 ≤ wp6.heap.size) := Lib.hid (Nat.le_trans LEwn4.out hgrow.size)
                  clear hown hgrow
                  refine hK1.out _ _ (hHeld2) (fun hHeld => ?_)
                  clear hK1 K1
                  try simp only [Act.put, List.getElem_toArray, List.getElem_cons_succ, List.getElem_cons_zero, List.setIfInBounds_toArray, List.set_cons_zero, List.set_cons_succ]
                  clear hHeld2
                  refine wpAnyH_ready (rs := [13, 17]) (by kernel_rfl) (by simp) (AllReadyH.cons rfl (fun K1 hK1 => ?_) (AllReadyH.cons rfl (fun K1 hK1 => ?_) AllReadyH.nil))
                  · skip
                    try simp only [Act.put, List.getElem_toArray, List.getElem_cons_succ, List.getElem_cons_zero, List.setIfInBounds_toArray, List.set_cons_zero, List.set_cons_succ]
                    go_simp
                    refine Calls.mono (WT.out _ _ hHeld.2.2.2 HO64.out) ?_
                    rintro e wv7 ⟨rfl, hc8⟩
                    have LEwv7 : Hid (B0 ≤ wv7.heap.size) := Lib.hid (Nat.le_trans LEwp6.out hc8.size)
                    refine hK1.out _ _ (⟨hHeld.1.kept (grownBy_of_below hc8 none) (by simp), hHeld.2.1.kept (grownBy_of_below hc8 none) (by simp), hHeld.2.2.1.kept (grownBy_of_below hc8 none) (by simp), two_below' hHeld.2.2.2 hc8⟩) (fun hHeld => ?_)
                    clear hK1 K1
                    try simp only [Act.put, List.getElem_toArray, List.getElem_cons_succ, List.getElem_cons_zero, List.setIfInBounds_toArray, List.set_cons_zero, List.set_cons_succ]
                    refine wpAnyH_take (i := 14) (v := .tuple #[.agg (Au.wc b p2).toArray, .bool true]) rfl (by kernel_rfl) (by kernel_rfl) (by kernel_rfl) (fun _ _ _ h => h) (Or.inl ⟨by rfl, fun w' hSw => by go_simp⟩) hHeld ?_
                    try simp only [Act.put, List.getElem_toArray, List.getElem_cons_succ, List.getElem_cons_zero, List.setIfInBounds_toArray, List.set_cons_zero, List.set_cons_succ]
                    refine wpAnyH_take (i := 15) (v := .agg (Au.wc b p2).toArray) rfl (by kernel_rfl) (by kernel_rfl) (by kernel_rfl) (fun _ _ _ h => h) (Or.inl ⟨by rfl, fun w' hSw => by go_simp⟩) hHeld ?_
                    try simp only [Act.put, List.getElem_toArray, List.getElem_cons_succ, List.getElem_cons_zero, List.setIfInBounds_toArray, List.set_cons_zero, List.set_cons_succ]
                    refine wpAnyH_take (i := 16) (v := .bool true) rfl (by kernel_rfl) (by kernel_rfl) (by kernel_rfl) (fun _ _ _ h => h) (Or.inl ⟨by rfl, fun w' hSw => by go_simp⟩) hHeld ?_
                    try simp only [Act.put, List.getElem_toArray, List.getElem_cons_succ, List.getElem_cons_zero, List.setIfInBounds_toArray, List.set_cons_zero, List.set_cons_succ]
                    refine wpAnyH_ready (rs := [17]) (by kernel_rfl) (by simp) (AllReadyH.cons rfl (fun K1 hK1 => ?_) AllReadyH.nil)
                    try simp only [Act.put, List.getElem_toArray, List.getElem_cons_succ, List.getElem_cons_zero, List.setIfInBounds_toArray, List.set_cons_zero, List.set_cons_succ]
                    go_simp
                    have hd10 := (Below.refl wv7.heap.size wv7).alloc (Nat.le_refl _) (.cells ZW.toArray 32)
                    have hHeld2 : Row (wv7.alloc (.cells ZW.toArray 32)) w.heap.size 25 [.slice (some ⟨g, off, none⟩) m c, .slice A2 q c2, .int .i64 rd, .int .i64 fl] ∧ Row (wv7.alloc (.cells ZW.toArray 32)) (w.heap.size + 1) 30 CK ∧ Row (wv7.alloc (.cells ZW.toArray 32)) g5 32 (Au.wc b p) ∧ Below w.heap.size w (wv7.alloc (.cells ZW.toArray 32)) := ⟨hHeld.1.kept (grownBy_of_below hd10 none) (by simp), hHeld.2.1.kept (grownBy_of_below hd10 none) (by simp), hHeld.2.2.1.kept (grownBy_of_below hd10 none) (by simp), two_below' hHeld.2.2.2 hd10⟩
                    have H8 : Hid (Row (wv7.alloc (.cells ZW.toArray 32)) wv7.heap.size 32 ZW) := Lib.hid (Row.new wv7 32 ZW)
                    have N85 : Hid (wv7.heap.size ≠ g5 ∧ w.heap.size ≤ wv7.heap.size) := Lib.hid ⟨by have := hHeld.2.2.1.lt; omega, hHeld.2.2.2.size⟩
                    have LEwz9 : Hid (B0 ≤ (wv7.alloc (.cells ZW.toArray 32)).heap.size) := Lib.hid (Nat.le_trans LEwv7.out hd10.size)
                    generalize wv7.alloc (.cells ZW.toArray 32) = wz9 at *
                    generalize hg8 : wv7.heap.size = g8 at *
                    clear hg8
                    refine hK1.out _ _ (hHeld2) (fun hHeld => ?_)
                    clear hK1 K1
                    try simp only [Act.put, List.getElem_toArray, List.getElem_cons_succ, List.getElem_cons_zero, List.setIfInBounds_toArray, List.set_cons_zero, List.set_cons_succ]
                    clear hHeld2
                    refine wpAnyH_ready (rs := [18]) (by kernel_rfl) (by simp) (AllReadyH.cons rfl (fun K1 hK1 => ?_) AllReadyH.nil)
                    try simp only [Act.put, List.getElem_toArray, List.getElem_cons_succ, List.getElem_cons_zero, List.setIfInBounds_toArray, List.set_cons_zero, List.set_cons_succ]
                    rw [if_pos (by rfl)]
                    refine wp_store_at 32 (.tmp 8) (.tmp 72) rfl g8 0 (Au.wc b p2) ZW 32 rfl rfl H8.out (by rw [HX37.out, HZ37.out]; omega) (by rw [win_size, HX37.out]) (HX1.out p2) ?_
                    have H8o := H8
                    intro ws11 hrS hgS
                    rw [splice_all ((HX37.out p2).trans HZ37.out.symm)] at hrS
                    have H8 := Lib.hid hrS
                    have hHeld2 : Row ws11 w.heap.size 25 [.slice (some ⟨g, off, none⟩) m c, .slice A2 q c2, .int .i64 rd, .int .i64 fl] ∧ Row ws11 (w.heap.size + 1) 30 CK ∧ Row ws11 g5 32 (Au.wc b p) ∧ Below w.heap.size w ws11 := ⟨hHeld.1.kept hgS (fun e => by injection e with e; exact row_ne_row hHeld.1 H8o.out (by decide) e), hHeld.2.1.kept hgS (fun e => by injection e with e; exact row_ne_row hHeld.2.1 H8o.out (by decide) e), hHeld.2.2.1.kept hgS (fun e => by injection e with e; exact N85.out.1 e.symm), below_own hHeld.2.2.2 hgS (fun k hk => by cases hk; exact N85.out.2)⟩
                    clear hrS hgS
                    refine hK1.out _ _ (hHeld2) (fun hHeld => ?_)
                    clear hK1 K1
                    try simp only [Act.put, List.getElem_toArray, List.getElem_cons_succ, List.getElem_cons_zero, List.setIfInBounds_toArray, List.set_cons_zero, List.set_cons_succ]
                    clear hHeld2
                    refine wpAnyH_take (i := 19) (v := .bool true) rfl (by kernel_rfl) (by kernel_rfl) (by kernel_rfl) (fun _ _ _ h => h) (Or.inl ⟨by rfl, fun w' hSw => by go_simp⟩) hHeld ?_
                    try simp only [Act.put, List.getElem_toArray, List.getElem_cons_succ, List.getElem_cons_zero, List.setIfInBounds_toArray, List.set_cons_zero, List.set_cons_succ]
                    refine wpAnyH_done (by kernel_rfl) ?_ _
                    have R8 := HXb.out p2 _ _ H8.out
                    have R5 := HXb.out p _ _ hHeld.2.2.1
                    have c8 := R8.2
                    have c5 := R5.2
                    have HR8 := Lib.hid R8.1
                    have HR5 := Lib.hid R5.1
                    have HBz := Lib.hid hHeld.2.2.2
                    clear hHeld R8 R5
                    have hbe := HBE.out
                    go_wp2_with (first
                      | ((with_reducible show wpList _ _ _ (⟨_, .load 30 (.tmp 76), _, _, _, _⟩ :: _) _ _); refine wpList_load_tx rfl 30 (.tmp 76) rfl g8 0 (rfl) CB _ (HR8.out) Tryd.underlying30 rfl (by rw [bid_info, HB36.out]) ?_)
                      | ((with_reducible show wpList _ _ _ (⟨_, .load 30 (.tmp 78), _, _, _, _⟩ :: _) _ _); refine wpList_load_tx rfl 30 (.tmp 78) rfl g5 0 (rfl) CB _ (HR5.out) Tryd.underlying30 rfl (by rw [bid_info, HB36.out]) ?_))
                    go_ret
                    exact ⟨by first | rfl | simp, HBz.out⟩
                  · skip
                    try simp only [Act.put, List.getElem_toArray, List.getElem_cons_succ, List.getElem_cons_zero, List.setIfInBounds_toArray, List.set_cons_zero, List.set_cons_succ]
                    go_simp
                    have hd13 := (Below.refl wp6.heap.size wp6).alloc (Nat.le_refl _) (.cells ZW.toArray 32)
                    replace HO64 := Lib.hid (HO64.out.below hd13)
                    have hHeld2 : Row (wp6.alloc (.cells ZW.toArray 32)) w.heap.size 25 [.slice (some ⟨g, off, none⟩) m c, .slice A2 q c2, .int .i64 rd, .int .i64 fl] ∧ Row (wp6.alloc (.cells ZW.toArray 32)) (w.heap.size + 1) 30 CK ∧ Row (wp6.alloc (.cells ZW.toArray 32)) g5 32 (Au.wc b p) ∧ Below w.heap.size w (wp6.alloc (.cells ZW.toArray 32)) := ⟨hHeld.1.kept (grownBy_of_below hd13 none) (by simp), hHeld.2.1.kept (grownBy_of_below hd13 none) (by simp), hHeld.2.2.1.kept (grownBy_of_below hd13 none) (by simp), two_below' hHeld.2.2.2 hd13⟩
                    have H8 : Hid (Row (wp6.alloc (.cells ZW.toArray 32)) wp6.heap.size 32 ZW) := Lib.hid (Row.new wp6 32 ZW)
                    have N85 : Hid (wp6.heap.size ≠ g5 ∧ w.heap.size ≤ wp6.heap.size) := Lib.hid ⟨by have := hHeld.2.2.1.lt; omega, hHeld.2.2.2.size⟩
                    have LEwz12 : Hid (B0 ≤ (wp6.alloc (.cells ZW.toArray 32)).heap.size) := Lib.hid (Nat.le_trans LEwp6.out hd13.size)
                    generalize wp6.alloc (.cells ZW.toArray 32) = wz12 at *
                    generalize hg8 : wp6.heap.size = g8 at *
                    clear hg8
                    refine hK1.out _ _ (hHeld2) (fun hHeld => ?_)
                    clear hK1 K1
                    try simp only [Act.put, List.getElem_toArray, List.getElem_cons_succ, List.getElem_cons_zero, List.setIfInBounds_toArray, List.set_cons_zero, List.set_cons_succ]
                    clear hHeld2
                    refine wpAnyH_ready (rs := [13]) (by kernel_rfl) (by simp) (AllReadyH.cons rfl (fun K1 hK1 => ?_) AllReadyH.nil)
                    try simp only [Act.put, List.getElem_toArray, List.getElem_cons_succ, List.getElem_cons_zero, List.setIfInBounds_toArray, List.set_cons_zero, List.set_cons_succ]
                    go_simp
                    refine Calls.mono (WT.out _ _ hHeld.2.2.2 HO64.out) ?_
                    rintro e wv14 ⟨rfl, hc15⟩
                    replace H8 := Lib.hid (H8.out.kept (grownBy_of_below hc15 none) (by simp))
                    have LEwv14 : Hid (B0 ≤ wv14.heap.size) := Lib.hid (Nat.le_trans LEwz12.out hc15.size)
                    refine hK1.out _ _ (⟨hHeld.1.kept (grownBy_of_below hc15 none) (by simp), hHeld.2.1.kept (grownBy_of_below hc15 none) (by simp), hHeld.2.2.1.kept (grownBy_of_below hc15 none) (by simp), two_below' hHeld.2.2.2 hc15⟩) (fun hHeld => ?_)
                    clear hK1 K1
                    try simp only [Act.put, List.getElem_toArray, List.getElem_cons_succ, List.getElem_cons_zero, List.setIfInBounds_toArray, List.set_cons_zero, List.set_cons_succ]
                    refine wpAnyH_take (i := 14) (v := .tuple #[.agg (Au.wc b p2).toArray, .bool true]) rfl (by kernel_rfl) (by kernel_rfl) (by kernel_rfl) (fun _ _ _ h => h) (Or.inl ⟨by rfl, fun w' hSw => by go_simp⟩) hHeld ?_
                    try simp only [Act.put, List.getElem_toArray, List.getElem_cons_succ, List.getElem_cons_zero, List.setIfInBounds_toArray, List.set_cons_zero, List.set_cons_succ]
                    refine wpAnyH_take (i := 15) (v := .agg (Au.wc b p2).toArray) rfl (by kernel_rfl) (by kernel_rfl) (by kernel_rfl) (fun _ _ _ h => h) (Or.inl ⟨by rfl, fun w' hSw => by go_simp⟩) hHeld ?_
                    try simp only [Act.put, List.getElem_toArray, List.getElem_cons_succ, List.getElem_cons_zero, List.setIfInBounds_toArray, List.set_cons_zero, List.set_cons_succ]
                    refine wpAnyH_take (i := 16) (v := .bool true) rfl (by kernel_rfl) (by kernel_rfl) (by kernel_rfl) (fun _ _ _ h => h) (Or.inl ⟨by rfl, fun w' hSw => by go_simp⟩) hHeld ?_
                    try simp only [Act.put, List.getElem_toArray, List.getElem_cons_succ, List.getElem_cons_zero, List.setIfInBounds_toArray, List.set_cons_zero, List.set_cons_succ]
                    refine wpAnyH_ready (rs := [18]) (by kernel_rfl) (by simp) (AllReadyH.cons rfl (fun K1 hK1 => ?_) AllReadyH.nil)
                    try simp only [Act.put, List.getElem_toArray, List.getElem_cons_succ, List.getElem_cons_zero, List.setIfInBounds_toArray, List.set_cons_zero, List.set_cons_succ]
                    rw [if_pos (by rfl)]
                    refine wp_store_at 32 (.tmp 8) (.tmp 72) rfl g8 0 (Au.wc b p2) ZW 32 rfl rfl H8.out (by rw [HX37.out, HZ37.out]; omega) (by rw [win_size, HX37.out]) (HX1.out p2) ?_
                    have H8o := H8
                    intro ws16 hrS hgS
                    rw [splice_all ((HX37.out p2).trans HZ37.out.symm)] at hrS
                    have H8 := Lib.hid hrS
                    have hHeld2 : Row ws16 w.heap.size 25 [.slice (some ⟨g, off, none⟩) m c, .slice A2 q c2, .int .i64 rd, .int .i64 fl] ∧ Row ws16 (w.heap.size + 1) 30 CK ∧ Row ws16 g5 32 (Au.wc b p) ∧ Below w.heap.size w ws16 := ⟨hHeld.1.kept hgS (fun e => by injection e with e; exact row_ne_row hHeld.1 H8o.out (by decide) e), hHeld.2.1.kept hgS (fun e => by injection e with e; exact row_ne_row hHeld.2.1 H8o.out (by decide) e), hHeld.2.2.1.kept hgS (fun e => by injection e with e; exact N85.out.1 e.symm), below_own hHeld.2.2.2 hgS (fun k hk => by cases hk; exact N85.out.2)⟩
                    clear hrS hgS
                    refine hK1.out _ _ (hHeld2) (fun hHeld => ?_)
                    clear hK1 K1
                    try simp only [Act.put, List.getElem_toArray, List.getElem_cons_succ, List.getElem_cons_zero, List.setIfInBounds_toArray, List.set_cons_zero, List.set_cons_succ]
                    clear hHeld2
                    refine wpAnyH_take (i := 19) (v := .bool true) rfl (by kernel_rfl) (by kernel_rfl) (by kernel_rfl) (fun _ _ _ h => h) (Or.inl ⟨by rfl, fun w' hSw => by go_simp⟩) hHeld ?_
                    try simp only [Act.put, List.getElem_toArray, List.getElem_cons_succ, List.getElem_cons_zero, List.setIfInBounds_toArray, List.set_cons_zero, List.set_cons_succ]
                    refine wpAnyH_done (by kernel_rfl) ?_ _
                    have R8 := HXb.out p2 _ _ H8.out
                    have R5 := HXb.out p _ _ hHeld.2.2.1
                    have c8 := R8.2
                    have c5 := R5.2
                    have HR8 := Lib.hid R8.1
                    have HR5 := Lib.hid R5.1
                    have HBz := Lib.hid hHeld.2.2.2
                    clear hHeld R8 R5
                    have hbe := HBE.out
                    go_wp2_with (first
                      | ((with_reducible show wpList _ _ _ (⟨_, .load 30 (.tmp 76), _, _, _, _⟩ :: _) _ _); refine wpList_load_tx rfl 30 (.tmp 76) rfl g8 0 (rfl) CB _ (HR8.out) Tryd.underlying30 rfl (by rw [bid_info, HB36.out]) ?_)
                      | ((with_reducible show wpList _ _ _ (⟨_, .load 30 (.tmp 78), _, _, _, _⟩ :: _) _ _); refine wpList_load_tx rfl 30 (.tmp 78) rfl g5 0 (rfl) CB _ (HR5.out) Tryd.underlying30 rfl (by rw [bid_info, HB36.out]) ?_))
                    go_ret
                    exact ⟨by first | rfl | simp, HBz.out⟩
                · skip
                  try simp only [Act.put, List.getElem_toArray, List.getElem_cons_succ, List.getElem_cons_zero, List.setIfInBounds_toArray, List.set_cons_zero, List.set_cons_succ]
                  go_simp
                  have hd18 := (Below.refl wn4.heap.size wn4).alloc (Nat.le_refl _) (.cells ZW.toArray 32)
                  replace HO61 := Lib.hid (HO61.out.below hd18)
                  replace HN := Lib.hid (HN.out.kept (grownBy_of_below hd18 none) (by simp))
                  have hHeld2 : Row (wn4.alloc (.cells ZW.toArray 32)) w.heap.size 25 [.slice (some ⟨g, off, none⟩) m c, .slice A2 q c2, .int .i64 rd, .int .i64 fl] ∧ Row (wn4.alloc (.cells ZW.toArray 32)) (w.heap.size + 1) 30 CK ∧ Row (wn4.alloc (.cells ZW.toArray 32)) g5 32 (Au.wc b p) ∧ Below w.heap.size w (wn4.alloc (.cells ZW.toArray 32)) := ⟨hHeld.1.kept (grownBy_of_below hd18 none) (by simp), hHeld.2.1.kept (grownBy_of_below hd18 none) (by simp), hHeld.2.2.1.kept (grownBy_of_below hd18 none) (by simp), two_below' hHeld.2.2.2 hd18⟩
                  have H8 : Hid (Row (wn4.alloc (.cells ZW.toArray 32)) wn4.heap.size 32 ZW) := Lib.hid (Row.new wn4 32 ZW)
                  have N85 : Hid (wn4.heap.size ≠ g5 ∧ w.heap.size ≤ wn4.heap.size) := Lib.hid ⟨by have := hHeld.2.2.1.lt; omega, hHeld.2.2.2.size⟩
                  have HNlt : Hid (gN < (wn4.alloc (.cells ZW.toArray 32)).heap.size) := Lib.hid HN.out.lt
                  have LEwz17 : Hid (B0 ≤ (wn4.alloc (.cells ZW.toArray 32)).heap.size) := Lib.hid (Nat.le_trans LEwn4.out hd18.size)
                  generalize wn4.alloc (.cells ZW.toArray 32) = wz17 at *
                  generalize hg8 : wn4.heap.size = g8 at *
                  clear hg8
                  refine hK1.out _ _ (hHeld2) (fun hHeld => ?_)
                  clear hK1 K1
                  try simp only [Act.put, List.getElem_toArray, List.getElem_cons_succ, List.getElem_cons_zero, List.setIfInBounds_toArray, List.set_cons_zero, List.set_cons_succ]
                  clear hHeld2
                  refine wpAnyH_ready (rs := [6]) (by kernel_rfl) (by simp) (AllReadyH.cons rfl (fun K1 hK1 => ?_) AllReadyH.nil)
                  try simp only [Act.put, List.getElem_toArray, List.getElem_cons_succ, List.getElem_cons_zero, List.setIfInBounds_toArray, List.set_cons_zero, List.set_cons_succ]
                  rw [if_pos (by rfl)]
                  refine wp_append_own_wide _ _ _ 22 rfl B0 30 i0 (.agg ZB.toArray) 36 64 Tryd.underlying22 Hi.out Hz.out Hsz.out Hby.out (by rw [← HZ36.out]; rfl) (by decide) v61 _ _ rfl HO61.out.own ⟨gN, 0, none⟩ 1 1 CK rfl (by rw [HK36.out]) (row_news HN.out) HK1.out hk63.out.2 hk48.out.2 LEwz17.out ?_
                  intro v64 wp19 hown hgrow _
                  replace H8 := Lib.hid (H8.out.kept hgrow (fun e => HO61.out.ne_block H8.out (by decide) e.symm))
                  have hHeld2 : Row wp19 w.heap.size 25 [.slice (some ⟨g, off, none⟩) m c, .slice A2 q c2, .int .i64 rd, .int .i64 fl] ∧ Row wp19 (w.heap.size + 1) 30 CK ∧ Row wp19 g5 32 (Au.wc b p) ∧ Below w.heap.size w wp19 := ⟨hHeld.1.kept hgrow (fun e => by have := (HO61.out.lt _ e.symm).1; have := HG.out; omega), hHeld.2.1.kept hgrow (fun e => by have := (HO61.out.lt _ e.symm).1; have := HG.out; omega), hHeld.2.2.1.kept hgrow (fun e => by have := (HO61.out.lt _ e.symm).1; have := HG.out; omega), below_own hHeld.2.2.2 hgrow (fun k hk => by have := (HO61.out.lt _ hk).1; have := HG.out; omega)⟩
                  have HO64 : Hid (OwnL wp19 B0 30 36 Bd.cells v64 (L ++ [x])) := Lib.hid (OwnL.pushed (by rw [HCK.out]; exact hown))
                  have LEwp19 : Hid (B0 ≤ wp19.heap.size) := Lib.hid (Nat.le_trans LEwz17.out hgrow.size)
                  clear hown hgrow
                  refine hK1.out _ _ (hHeld2) (fun hHeld => ?_)
                  clear hK1 K1
                  try simp only [Act.put, List.getElem_toArray, List.getElem_cons_succ, List.getElem_cons_zero, List.setIfInBounds_toArray, List.set_cons_zero, List.set_cons_succ]
                  clear hHeld2
                  refine wpAnyH_ready (rs := [13]) (by kernel_rfl) (by simp) (AllReadyH.cons rfl (fun K1 hK1 => ?_) AllReadyH.nil)
                  try simp only [Act.put, List.getElem_toArray, List.getElem_cons_succ, List.getElem_cons_zero, List.setIfInBounds_toArray, List.set_cons_zero, List.set_cons_succ]
                  go_simp
                  refine Calls.mono (WT.out _ _ hHeld.2.2.2 HO64.out) ?_
                  rintro e wv20 ⟨rfl, hc21⟩
                  replace H8 := Lib.hid (H8.out.kept (grownBy_of_below hc21 none) (by simp))
                  have LEwv20 : Hid (B0 ≤ wv20.heap.size) := Lib.hid (Nat.le_trans LEwp19.out hc21.size)
                  refine hK1.out _ _ (⟨hHeld.1.kept (grownBy_of_below hc21 none) (by simp), hHeld.2.1.kept (grownBy_of_below hc21 none) (by simp), hHeld.2.2.1.kept (grownBy_of_below hc21 none) (by simp), two_below' hHeld.2.2.2 hc21⟩) (fun hHeld => ?_)
                  clear hK1 K1
                  try simp only [Act.put, List.getElem_toArray, List.getElem_cons_succ, List.getElem_cons_zero, List.setIfInBounds_toArray, List.set_cons_zero, List.set_cons_succ]
                  refine wpAnyH_take (i := 14) (v := .tuple #[.agg (Au.wc b p2).toArray, .bool true]) rfl (by kernel_rfl) (by kernel_rfl) (by kernel_rfl) (fun _ _ _ h => h) (Or.inl ⟨by rfl, fun w' hSw => by go_simp⟩) hHeld ?_
                  try simp only [Act.put, List.getElem_toArray, List.getElem_cons_succ, List.getElem_cons_zero, List.setIfInBounds_toArray, List.set_cons_zero, List.set_cons_succ]
                  refine wpAnyH_take (i := 15) (v := .agg (Au.wc b p2).toArray) rfl (by kernel_rfl) (by kernel_rfl) (by kernel_rfl) (fun _ _ _ h => h) (Or.inl ⟨by rfl, fun w' hSw => by go_simp⟩) hHeld ?_
                  try simp only [Act.put, List.getElem_toArray, List.getElem_cons_succ, List.getElem_cons_zero, List.setIfInBounds_toArray, List.set_cons_zero, List.set_cons_succ]
                  refine wpAnyH_take (i := 16) (v := .bool true) rfl (by kernel_rfl) (by kernel_rfl) (by kernel_rfl) (fun _ _ _ h => h) (Or.inl ⟨by rfl, fun w' hSw => by go_simp⟩) hHeld ?_
                  try simp only [Act.put, List.getElem_toArray, List.getElem_cons_succ, List.getElem_cons_zero, List.setIfInBounds_toArray, List.set_cons_zero, List.set_cons_succ]
                  refine wpAnyH_ready (rs := [18]) (by kernel_rfl) (by simp) (AllReadyH.cons rfl (fun K1 hK1 => ?_) AllReadyH.nil)
                  try simp only [Act.put, List.getElem_toArray, List.getElem_cons_succ, List.getElem_cons_zero, List.setIfInBounds_toArray, List.set_cons_zero, List.set_cons_succ]
                  rw [if_pos (by rfl)]
                  refine wp_store_at 32 (.tmp 8) (.tmp 72) rfl g8 0 (Au.wc b p2) ZW 32 rfl rfl H8.out (by rw [HX37.out, HZ37.out]; omega) (by rw [win_size, HX37.out]) (HX1.out p2) ?_
                  have H8o := H8
                  intro ws22 hrS hgS
                  rw [splice_all ((HX37.out p2).trans HZ37.out.symm)] at hrS
                  have H8 := Lib.hid hrS
                  have hHeld2 : Row ws22 w.heap.size 25 [.slice (some ⟨g, off, none⟩) m c, .slice A2 q c2, .int .i64 rd, .int .i64 fl] ∧ Row ws22 (w.heap.size + 1) 30 CK ∧ Row ws22 g5 32 (Au.wc b p) ∧ Below w.heap.size w ws22 := ⟨hHeld.1.kept hgS (fun e => by injection e with e; exact row_ne_row hHeld.1 H8o.out (by decide) e), hHeld.2.1.kept hgS (fun e => by injection e with e; exact row_ne_row hHeld.2.1 H8o.out (by decide) e), hHeld.2.2.1.kept hgS (fun e => by injection e with e; exact N85.out.1 e.symm), below_own hHeld.2.2.2 hgS (fun k hk => by cases hk; exact N85.out.2)⟩
                  clear hrS hgS
                  refine hK1.out _ _ (hHeld2) (fun hHeld => ?_)
                  clear hK1 K1
                  try simp only [Act.put, List.getElem_toArray, List.getElem_cons_succ, List.getElem_cons_zero, List.setIfInBounds_toArray, List.set_cons_zero, List.set_cons_succ]
                  clear hHeld2
                  refine wpAnyH_take (i := 19) (v := .bool true) rfl (by kernel_rfl) (by kernel_rfl) (by kernel_rfl) (fun _ _ _ h => h) (Or.inl ⟨by rfl, fun w' hSw => by go_simp⟩) hHeld ?_
                  try simp only [Act.put, List.getElem_toArray, List.getElem_cons_succ, List.getElem_cons_zero, List.setIfInBounds_toArray, List.set_cons_zero, List.set_cons_succ]
                  refine wpAnyH_done (by kernel_rfl) ?_ _
                  have R8 := HXb.out p2 _ _ H8.out
                  have R5 := HXb.out p _ _ hHeld.2.2.1
                  have c8 := R8.2
                  have c5 := R5.2
                  have HR8 := Lib.hid R8.1
                  have HR5 := Lib.hid R5.1
                  have HBz := Lib.hid hHeld.2.2.2
                  clear hHeld R8 R5
                  have hbe := HBE.out
                  go_wp2_with (first
                    | ((with_reducible show wpList _ _ _ (⟨_, .load 30 (.tmp 76), _, _, _, _⟩ :: _) _ _); refine wpList_load_tx rfl 30 (.tmp 76) rfl g8 0 (rfl) CB _ (HR8.out) Tryd.underlying30 rfl (by rw [bid_info, HB36.out]) ?_)
                    | ((with_reducible show wpList _ _ _ (⟨_, .load 30 (.tmp 78), _, _, _, _⟩ :: _) _ _); refine wpList_load_tx rfl 30 (.tmp 78) rfl g5 0 (rfl) CB _ (HR5.out) Tryd.underlying30 rfl (by rw [bid_info, HB36.out]) ?_))
                  go_ret
                  exact ⟨by first | rfl | simp, HBz.out⟩
              · skip
                try simp only [Act.put, List.getElem_toArray, List.getElem_cons_succ, List.getElem_cons_zero, List.setIfInBounds_toArray, List.set_cons_zero, List.set_cons_succ]
                go_simp
                have hd24 := (Below.refl wp3.heap.size wp3).alloc (Nat.le_refl _) (.cells ZW.toArray 32)
                replace HO61 := Lib.hid (HO61.out.below hd24)
                have hHeld2 : Row (wp3.alloc (.cells ZW.toArray 32)) w.heap.size 25 [.slice (some ⟨g, off, none⟩) m c, .slice A2 q c2, .int .i64 rd, .int .i64 fl] ∧ Row (wp3.alloc (.cells ZW.toArray 32)) (w.heap.size + 1) 30 CK ∧ Row (wp3.alloc (.cells ZW.toArray 32)) g5 32 (Au.wc b p) ∧ Below w.heap.size w (wp3.alloc (.cells ZW.toArray 32)) := ⟨hHeld.1.kept (grownBy_of_below hd24 none) (by simp), hHeld.2.1.kept (grownBy_of_below hd24 none) (by simp), hHeld.2.2.1.kept (grownBy_of_below hd24 none) (by simp), two_below' hHeld.2.2.2 hd24⟩
                have H8 : Hid (Row (wp3.alloc (.cells ZW.toArray 32)) wp3.heap.size 32 ZW) := Lib.hid (Row.new wp3 32 ZW)
                have N85 : Hid (wp3.heap.size ≠ g5 ∧ w.heap.size ≤ wp3.heap.size) := Lib.hid ⟨by have := hHeld.2.2.1.lt; omega, hHeld.2.2.2.size⟩
                have LEwz23 : Hid (B0 ≤ (wp3.alloc (.cells ZW.toArray 32)).heap.size) := Lib.hid (Nat.le_trans LEwp3.out hd24.size)
                generalize wp3.alloc (.cells ZW.toArray 32) = wz23 at *
                generalize hg8 : wp3.heap.size = g8 at *
                clear hg8
                refine hK1.out _ _ (hHeld2) (fun hHeld => ?_)
                clear hK1 K1
                try simp only [Act.put, List.getElem_toArray, List.getElem_cons_succ, List.getElem_cons_zero, List.setIfInBounds_toArray, List.set_cons_zero, List.set_cons_succ]
                clear hHeld2
                refine wpAnyH_ready (rs := [5]) (by kernel_rfl) (by simp) (AllReadyH.cons rfl (fun K1 hK1 => ?_) AllReadyH.nil)
                try simp only [Act.put, List.getElem_toArray, List.getElem_cons_succ, List.getElem_cons_zero, List.setIfInBounds_toArray, List.set_cons_zero, List.set_cons_succ]
                rw [if_pos (by rfl)]
                refine wp_buildSlice 22 30 1 _ rfl CK.toArray i0 (.agg ZB.toArray) Tryd.underlying22 Hi.out Hz.out (by rw [Hsz.out]; decide) (by rw [Hsz.out]; decide) (by rw [Hsz.out, Array.toList_map]; exact fill_one15 36 (.agg ZB.toArray) CK HK36.out) ?_
                have hd26 := (Below.refl wz23.heap.size wz23).alloc (Nat.le_refl _) (.cells CK.toArray 30)
                replace HO61 := Lib.hid (HO61.out.below hd26)
                replace H8 := Lib.hid (H8.out.kept (grownBy_of_below hd26 none) (by simp))
                have hHeld2 : Row (wz23.alloc (.cells CK.toArray 30)) w.heap.size 25 [.slice (some ⟨g, off, none⟩) m c, .slice A2 q c2, .int .i64 rd, .int .i64 fl] ∧ Row (wz23.alloc (.cells CK.toArray 30)) (w.heap.size + 1) 30 CK ∧ Row (wz23.alloc (.cells CK.toArray 30)) g5 32 (Au.wc b p) ∧ Below w.heap.size w (wz23.alloc (.cells CK.toArray 30)) := ⟨hHeld.1.kept (grownBy_of_below hd26 none) (by simp), hHeld.2.1.kept (grownBy_of_below hd26 none) (by simp), hHeld.2.2.1.kept (grownBy_of_below hd26 none) (by simp), two_below' hHeld.2.2.2 hd26⟩
                have HN : Hid (Row (wz23.alloc (.cells CK.toArray 30)) wz23.heap.size 30 CK) := Lib.hid (Row.new wz23 30 CK)
                have HNlt : Hid (wz23.heap.size < (wz23.alloc (.cells CK.toArray 30)).heap.size) := Lib.hid HN.out.lt
                have LEwn25 : Hid (B0 ≤ (wz23.alloc (.cells CK.toArray 30)).heap.size) := Lib.hid (Nat.le_trans LEwz23.out hd26.size)
                generalize wz23.alloc (.cells CK.toArray 30) = wn25 at *
                generalize hgn : wz23.heap.size = gN at *
                clear hgn
                refine hK1.out _ _ (hHeld2) (fun hHeld => ?_)
                clear hK1 K1
                try simp only [Act.put, List.getElem_toArray, List.getElem_cons_succ, List.getElem_cons_zero, List.setIfInBounds_toArray, List.set_cons_zero, List.set_cons_succ]
                clear hHeld2
                refine wpAnyH_ready (rs := [6]) (by kernel_rfl) (by simp) (AllReadyH.cons rfl (fun K1 hK1 => ?_) AllReadyH.nil)
                try simp only [Act.put, List.getElem_toArray, List.getElem_cons_succ, List.getElem_cons_zero, List.setIfInBounds_toArray, List.set_cons_zero, List.set_cons_succ]
                rw [if_pos (by rfl)]
                refine wp_append_own_wide _ _ _ 22 rfl B0 30 i0 (.agg ZB.toArray) 36 64 Tryd.underlying22 Hi.out Hz.out Hsz.out Hby.out (by rw [← HZ36.out]; rfl) (by decide) v61 _ _ rfl HO61.out.own ⟨gN, 0, none⟩ 1 1 CK rfl (by rw [HK36.out]) (row_news HN.out) HK1.out hk63.out.2 hk48.out.2 LEwn25.out ?_
                intro v64 wp27 hown hgrow _
                replace H8 := Lib.hid (H8.out.kept hgrow (fun e => HO61.out.ne_block H8.out (by decide) e.symm))
                have hHeld2 : Row wp27 w.heap.size 25 [.slice (some ⟨g, off, none⟩) m c, .slice A2 q c2, .int .i64 rd, .int .i64 fl] ∧ Row wp27 (w.heap.size + 1) 30 CK ∧ Row wp27 g5 32 (Au.wc b p) ∧ Below w.heap.size w wp27 := ⟨hHeld.1.kept hgrow (fun e => by have := (HO61.out.lt _ e.symm).1; have := HG.out; omega), hHeld.2.1.kept hgrow (fun e => by have := (HO61.out.lt _ e.symm).1; have := HG.out; omega), hHeld.2.2.1.kept hgrow (fun e => by have := (HO61.out.lt _ e.symm).1; have := HG.out; omega), below_own hHeld.2.2.2 hgrow (fun k hk => by have := (HO61.out.lt _ hk).1; have := HG.out; omega)⟩
                have HO64 : Hid (OwnL wp27 B0 30 36 Bd.cells v64 (L ++ [x])) := Lib.hid (OwnL.pushed (by rw [HCK.out]; exact hown))
                have LEwp27 : Hid (B0 ≤ wp27.heap.size) := Lib.hid (Nat.le_trans LEwn25.out hgrow.size)
                clear hown hgrow
                refine hK1.out _ _ (hHeld2) (fun hHeld => ?_)
                clear hK1 K1
                try simp only [Act.put, List.getElem_toArray, List.getElem_cons_succ, List.getElem_cons_zero, List.setIfInBounds_toArray, List.set_cons_zero, List.set_cons_succ]
                clear hHeld2
                refine wpAnyH_ready (rs := [13]) (by kernel_rfl) (by simp) (AllReadyH.cons rfl (fun K1 hK1 => ?_) AllReadyH.nil)
                try simp only [Act.put, List.getElem_toArray, List.getElem_cons_succ, List.getElem_cons_zero, List.setIfInBounds_toArray, List.set_cons_zero, List.set_cons_succ]
                go_simp
                refine Calls.mono (WT.out _ _ hHeld.2.2.2 HO64.out) ?_
                rintro e wv28 ⟨rfl, hc29⟩
                replace H8 := Lib.hid (H8.out.kept (grownBy_of_below hc29 none) (by simp))
                have LEwv28 : Hid (B0 ≤ wv28.heap.size) := Lib.hid (Nat.le_trans LEwp27.out hc29.size)
                refine hK1.out _ _ (⟨hHeld.1.kept (grownBy_of_below hc29 none) (by simp), hHeld.2.1.kept (grownBy_of_below hc29 none) (by simp), hHeld.2.2.1.kept (grownBy_of_below hc29 none) (by simp), two_below' hHeld.2.2.2 hc29⟩) (fun hHeld => ?_)
                clear hK1 K1
                try simp only [Act.put, List.getElem_toArray, List.getElem_cons_succ, List.getElem_cons_zero, List.setIfInBounds_toArray, List.set_cons_zero, List.set_cons_succ]
                refine wpAnyH_take (i := 14) (v := .tuple #[.agg (Au.wc b p2).toArray, .bool true]) rfl (by kernel_rfl) (by kernel_rfl) (by kernel_rfl) (fun _ _ _ h => h) (Or.inl ⟨by rfl, fun w' hSw => by go_simp⟩) hHeld ?_
                try simp only [Act.put, List.getElem_toArray, List.getElem_cons_succ, List.getElem_cons_zero, List.setIfInBounds_toArray, List.set_cons_zero, List.set_cons_succ]
                refine wpAnyH_take (i := 15) (v := .agg (Au.wc b p2).toArray) rfl (by kernel_rfl) (by kernel_rfl) (by kernel_rfl) (fun _ _ _ h => h) (Or.inl ⟨by rfl, fun w' hSw => by go_simp⟩) hHeld ?_
                try simp only [Act.put, List.getElem_toArray, List.getElem_cons_succ, List.getElem_cons_zero, List.setIfInBounds_toArray, List.set_cons_zero, List.set_cons_succ]
                refine wpAnyH_take (i := 16) (v := .bool true) rfl (by kernel_rfl) (by kernel_rfl) (by kernel_rfl) (fun _ _ _ h => h) (Or.inl ⟨by rfl, fun w' hSw => by go_simp⟩) hHeld ?_
                try simp only [Act.put, List.getElem_toArray, List.getElem_cons_succ, List.getElem_cons_zero, List.setIfInBounds_toArray, List.set_cons_zero, List.set_cons_succ]
                refine wpAnyH_ready (rs := [18]) (by kernel_rfl) (by simp) (AllReadyH.cons rfl (fun K1 hK1 => ?_) AllReadyH.nil)
                try simp only [Act.put, List.getElem_toArray, List.getElem_cons_succ, List.getElem_cons_zero, List.setIfInBounds_toArray, List.set_cons_zero, List.set_cons_succ]
                rw [if_pos (by rfl)]
                refine wp_store_at 32 (.tmp 8) (.tmp 72) rfl g8 0 (Au.wc b p2) ZW 32 rfl rfl H8.out (by rw [HX37.out, HZ37.out]; omega) (by rw [win_size, HX37.out]) (HX1.out p2) ?_
                have H8o := H8
                intro ws30 hrS hgS
                rw [splice_all ((HX37.out p2).trans HZ37.out.symm)] at hrS
                have H8 := Lib.hid hrS
                have hHeld2 : Row ws30 w.heap.size 25 [.slice (some ⟨g, off, none⟩) m c, .slice A2 q c2, .int .i64 rd, .int .i64 fl] ∧ Row ws30 (w.heap.size + 1) 30 CK ∧ Row ws30 g5 32 (Au.wc b p) ∧ Below w.heap.size w ws30 := ⟨hHeld.1.kept hgS (fun e => by injection e with e; exact row_ne_row hHeld.1 H8o.out (by decide) e), hHeld.2.1.kept hgS (fun e => by injection e with e; exact row_ne_row hHeld.2.1 H8o.out (by decide) e), hHeld.2.2.1.kept hgS (fun e => by injection e with e; exact N85.out.1 e.symm), below_own hHeld.2.2.2 hgS (fun k hk => by cases hk; exact N85.out.2)⟩
                clear hrS hgS
                refine hK1.out _ _ (hHeld2) (fun hHeld => ?_)
                clear hK1 K1
                try simp only [Act.put, List.getElem_toArray, List.getElem_cons_succ, List.getElem_cons_zero, List.setIfInBounds_toArray, List.set_cons_zero, List.set_cons_succ]
                clear hHeld2
                refine wpAnyH_take (i := 19) (v := .bool true) rfl (by kernel_rfl) (by kernel_rfl) (by kernel_rfl) (fun _ _ _ h => h) (Or.inl ⟨by rfl, fun w' hSw => by go_simp⟩) hHeld ?_
                try simp only [Act.put, List.getElem_toArray, List.getElem_cons_succ, List.getElem_cons_zero, List.setIfInBounds_toArray, List.set_cons_zero, List.set_cons_succ]
                refine wpAnyH_done (by kernel_rfl) ?_ _
                have R8 := HXb.out p2 _ _ H8.out
                have R5 := HXb.out p _ _ hHeld.2.2.1
                have c8 := R8.2
                have c5 := R5.2
                have HR8 := Lib.hid R8.1
                have HR5 := Lib.hid R5.1
                have HBz := Lib.hid hHeld.2.2.2
                clear hHeld R8 R5
                have hbe := HBE.out
                go_wp2_with (first
                  | ((with_reducible show wpList _ _ _ (⟨_, .load 30 (.tmp 76), _, _, _, _⟩ :: _) _ _); refine wpList_load_tx rfl 30 (.tmp 76) rfl g8 0 (rfl) CB _ (HR8.out) Tryd.underlying30 rfl (by rw [bid_info, HB36.out]) ?_)
                  | ((with_reducible show wpList _ _ _ (⟨_, .load 30 (.tmp 78), _, _, _, _⟩ :: _) _ _); refine wpList_load_tx rfl 30 (.tmp 78) rfl g5 0 (rfl) CB _ (HR5.out) Tryd.underlying30 rfl (by rw [bid_info, HB36.out]) ?_))
                go_ret
                exact ⟨by first | rfl | simp, HBz.out⟩
            · skip
              try simp only [Act.put, List.getElem_toArray, List.getElem_cons_succ, List.getElem_cons_zero, List.setIfInBounds_toArray, List.set_cons_zero, List.set_cons_succ]
              rw [if_pos (by rfl)]
              refine wp_buildSlice 22 30 1 _ rfl CK.toArray i0 (.agg ZB.toArray) Tryd.underlying22 Hi.out Hz.out (by rw [Hsz.out]; decide) (by rw [Hsz.out]; decide) (by rw [Hsz.out, Array.toList_map]; exact fill_one15 36 (.agg ZB.toArray) CK HK36.out) ?_
              have hd32 := (Below.refl wb1.heap.size wb1).alloc (Nat.le_refl _) (.cells CK.toArray 30)
              have NEbN : Hid (wb1.heap.size ≠ gb) := Lib.hid (by have := (HO58.out.lt gb rfl).2; omega)
              replace HO58 := Lib.hid (HO58.out.below hd32)
              have hHeld2 : Row (wb1.alloc (.cells CK.toArray 30)) w.heap.size 25 [.slice (some ⟨g, off, none⟩) m c, .slice A2 q c2, .int .i64 rd, .int .i64 fl] ∧ Row (wb1.alloc (.cells CK.toArray 30)) (w.heap.size + 1) 30 CK ∧ Row (wb1.alloc (.cells CK.toArray 30)) g5 32 (Au.wc b p) ∧ Below w.heap.size w (wb1.alloc (.cells CK.toArray 30)) := ⟨hHeld.1.kept (grownBy_of_below hd32 none) (by simp), hHeld.2.1.kept (grownBy_of_below hd32 none) (by simp), hHeld.2.2.1.kept (grownBy_of_below hd32 none) (by simp), two_below' hHeld.2.2.2 hd32⟩
              have HN : Hid (Row (wb1.alloc (.cells CK.toArray 30)) wb1.heap.size 30 CK) := Lib.hid (Row.new wb1 30 CK)
              have HNlt : Hid (wb1.heap.size < (wb1.alloc (.cells CK.toArray 30)).heap.size) := Lib.hid HN.out.lt
              have LEwn31 : Hid (B0 ≤ (wb1.alloc (.cells CK.toArray 30)).heap.size) := Lib.hid (Nat.le_trans LEwb1.out hd32.size)
              generalize wb1.alloc (.cells CK.toArray 30) = wn31 at *
              generalize hgn : wb1.heap.size = gN at *
              clear hgn
              refine hK1.out _ _ (hHeld2) (fun hHeld => ?_)
              clear hK1 K1
              try simp only [Act.put, List.getElem_toArray, List.getElem_cons_succ, List.getElem_cons_zero, List.setIfInBounds_toArray, List.set_cons_zero, List.set_cons_succ]
              clear hHeld2
              refine wpAnyH_ready (rs := [3, 17]) (by kernel_rfl) (by simp) (AllReadyH.cons rfl (fun K1 hK1 => ?_) (AllReadyH.cons rfl (fun K1 hK1 => ?_) AllReadyH.nil))
              · skip
                try simp only [Act.put, List.getElem_toArray, List.getElem_cons_succ, List.getElem_cons_zero, List.setIfInBounds_toArray, List.set_cons_zero, List.set_cons_succ]
                rw [if_pos (by rfl)]
                refine wp_append_own_wide _ _ _ 22 rfl B0 30 i0 (.agg ZB.toArray) 36 64 Tryd.underlying22 Hi.out Hz.out Hsz.out Hby.out (by rw [← HZ36.out]; rfl) (by decide) (.slice (some ⟨gb, 0, none⟩) 0 0) _ _ rfl HO58.out.own ⟨g, off, none⟩ m c (Rw.flat Bd.cells L) rfl HFL.out.1 (HFL.out.2.2 _ hHeld.2.2.2) HFL.out.2.1 hk63.out.1 hk48.out.1 LEwn31.out ?_
                intro v61 wp33 hown hgrow _
                replace HN := Lib.hid (HN.out.kept hgrow (fun e => by simp only [Value.ownBlock, Option.some.injEq] at e; exact absurd e NEbN.out))
                have hHeld2 : Row wp33 w.heap.size 25 [.slice (some ⟨g, off, none⟩) m c, .slice A2 q c2, .int .i64 rd, .int .i64 fl] ∧ Row wp33 (w.heap.size + 1) 30 CK ∧ Row wp33 g5 32 (Au.wc b p) ∧ Below w.heap.size w wp33 := ⟨hHeld.1.kept hgrow (fun e => by have := (HO58.out.lt _ e.symm).1; have := HG.out; omega), hHeld.2.1.kept hgrow (fun e => by have := (HO58.out.lt _ e.symm).1; have := HG.out; omega), hHeld.2.2.1.kept hgrow (fun e => by have := (HO58.out.lt _ e.symm).1; have := HG.out; omega), below_own hHeld.2.2.2 hgrow (fun k hk => by have := (HO58.out.lt _ hk).1; have := HG.out; omega)⟩
                have HO61 : Hid (OwnL wp33 B0 30 36 Bd.cells v61 L) := Lib.hid ⟨by rw [← HM.out]; simpa [Rw.flat_nil] using hown⟩
                have LEwp33 : Hid (B0 ≤ wp33.heap.size) := Lib.hid (Nat.le_trans LEwn31.out hgrow.size)
                clear hown hgrow
                refine hK1.out _ _ (hHeld2) (fun hHeld => ?_)
                clear hK1 K1
                try simp only [Act.put, List.getElem_toArray, List.getElem_cons_succ, List.getElem_cons_zero, List.setIfInBounds_toArray, List.set_cons_zero, List.set_cons_succ]
                clear hHeld2
                refine wpAnyH_ready (rs := [6, 17]) (by kernel_rfl) (by simp) (AllReadyH.cons rfl (fun K1 hK1 => ?_) (AllReadyH.cons rfl (fun K1 hK1 => ?_) AllReadyH.nil))
                · skip
                  try simp only [Act.put, List.getElem_toArray, List.getElem_cons_succ, List.getElem_cons_zero, List.setIfInBounds_toArray, List.set_cons_zero, List.set_cons_succ]
                  rw [if_pos (by rfl)]
                  refine wp_append_own_wide _ _ _ 22 rfl B0 30 i0 (.agg ZB.toArray) 36 64 Tryd.underlying22 Hi.out Hz.out Hsz.out Hby.out (by rw [← HZ36.out]; rfl) (by decide) v61 _ _ rfl HO61.out.own ⟨gN, 0, none⟩ 1 1 CK rfl (by rw [HK36.out]) (row_news HN.out) HK1.out hk63.out.2 hk48.out.2 LEwp33.out ?_
                  intro v64 wp34 hown hgrow _
                  have hHeld2 : Row wp34 w.heap.size 25 [.slice (some ⟨g, off, none⟩) m c, .slice A2 q c2, .int .i64 rd, .int .i64 fl] ∧ Row wp34 (w.heap.size + 1) 30 CK ∧ Row wp34 g5 32 (Au.wc b p) ∧ Below w.heap.size w wp34 := ⟨hHeld.1.kept hgrow (fun e => by have := (HO61.out.lt _ e.symm).1; have := HG.out; omega), hHeld.2.1.kept hgrow (fun e => by have := (HO61.out.lt _ e.symm).1; have := HG.out; omega), hHeld.2.2.1.kept hgrow (fun e => by have := (HO61.out.lt _ e.symm).1; have := HG.out; omega), below_own hHeld.2.2.2 hgrow (fun k hk => by have := (HO61.out.lt _ hk).1; have := HG.out; omega)⟩
                  have HO64 : Hid (OwnL wp34 B0 30 36 Bd.cells v64 (L ++ [x])) := Lib.hid (OwnL.pushed (by rw [HCK.out]; exact hown))
                  have LEwp34 : Hid (B0 ≤ wp34.heap.size) := Lib.hid (Nat.le_trans LEwp33.out hgrow.size)
                  clear hown hgrow
                  refine hK1.out _ _ (hHeld2) (fun hHeld => ?_)
                  clear hK1 K1
                  try simp only [Act.put, List.getElem_toArray, List.getElem_cons_succ, List.getElem_cons_zero, List.setIfInBounds_toArray, List.set_cons_zero, List.set_cons_succ]
                  clear hHeld2
                  refine wpAnyH_ready (rs := [13, 17]) (by kernel_rfl) (by simp) (AllReadyH.cons rfl (fun K1 hK1 => ?_) (AllReadyH.cons rfl (fun K1 hK1 => ?_) AllReadyH.nil))
                  · skip
                    try simp only [Act.put, List.getElem_toArray, List.getElem_cons_succ, List.getElem_cons_zero, List.setIfInBounds_toArray, List.set_cons_zero, List.set_cons_succ]
                    go_simp
                    refine Calls.mono (WT.out _ _ hHeld.2.2.2 HO64.out) ?_
                    rintro e wv35 ⟨rfl, hc36⟩
                    have LEwv35 : Hid (B0 ≤ wv35.heap.size) := Lib.hid (Nat.le_trans LEwp34.out hc36.size)
                    refine hK1.out _ _ (⟨hHeld.1.kept (grownBy_of_below hc36 none) (by simp), hHeld.2.1.kept (grownBy_of_below hc36 none) (by simp), hHeld.2.2.1.kept (grownBy_of_below hc36 none) (by simp), two_below' hHeld.2.2.2 hc36⟩) (fun hHeld => ?_)
                    clear hK1 K1
                    try simp only [Act.put, List.getElem_toArray, List.getElem_cons_succ, List.getElem_cons_zero, List.setIfInBounds_toArray, List.set_cons_zero, List.set_cons_succ]
                    refine wpAnyH_take (i := 14) (v := .tuple #[.agg (Au.wc b p2).toArray, .bool true]) rfl (by kernel_rfl) (by kernel_rfl) (by kernel_rfl) (fun _ _ _ h => h) (Or.inl ⟨by rfl, fun w' hSw => by go_simp⟩) hHeld ?_
                    try simp only [Act.put, List.getElem_toArray, List.getElem_cons_succ, List.getElem_cons_zero, List.setIfInBounds_toArray, List.set_cons_zero, List.set_cons_succ]
                    refine wpAnyH_take (i := 15) (v := .agg (Au.wc b p2).toArray) rfl (by kernel_rfl) (by kernel_rfl) (by kernel_rfl) (fun _ _ _ h => h) (Or.inl ⟨by rfl, fun w' hSw => by go_simp⟩) hHeld ?_
                    try simp only [Act.put, List.getElem_toArray, List.getElem_cons_succ, List.getElem_cons_zero, List.setIfInBounds_toArray, List.set_cons_zero, List.set_cons_succ]
                    refine wpAnyH_take (i := 16) (v := .bool true) rfl (by kernel_rfl) (by kernel_rfl) (by kernel_rfl) (fun _ _ _ h => h) (Or.inl ⟨by rfl, fun w' hSw => by go_simp⟩) hHeld ?_
                    try simp only [Act.put, List.getElem_toArray, List.getElem_cons_succ, List.getElem_cons_zero, List.setIfInBounds_toArray, List.set_cons_zero, List.set_cons_succ]
                    refine wpAnyH_ready (rs := [17]) (by kernel_rfl) (by simp) (AllReadyH.cons rfl (fun K1 hK1 => ?_) AllReadyH.nil)
                    try simp only [Act.put, List.getElem_toArray, List.getElem_cons_succ, List.getElem_cons_zero, List.setIfInBounds_toArray, List.set_cons_zero, List.set_cons_succ]
                    go_simp
                    have hd38 := (Below.refl wv35.heap.size wv35).alloc (Nat.le_refl _) (.cells ZW.toArray 32)
                    have hHeld2 : Row (wv35.alloc (.cells ZW.toArray 32)) w.heap.size 25 [.slice (some ⟨g, off, none⟩) m c, .slice A2 q c2, .int .i64 rd, .int .i64 fl] ∧ Row (wv35.alloc (.cells ZW.toArray 32)) (w.heap.size + 1) 30 CK ∧ Row (wv35.alloc (.cells ZW.toArray 32)) g5 32 (Au.wc b p) ∧ Below w.heap.size w (wv35.alloc (.cells ZW.toArray 32)) := ⟨hHeld.1.kept (grownBy_of_below hd38 none) (by simp), hHeld.2.1.kept (grownBy_of_below hd38 none) (by simp), hHeld.2.2.1.kept (grownBy_of_below hd38 none) (by simp), two_below' hHeld.2.2.2 hd38⟩
                    have H8 : Hid (Row (wv35.alloc (.cells ZW.toArray 32)) wv35.heap.size 32 ZW) := Lib.hid (Row.new wv35 32 ZW)
                    have N85 : Hid (wv35.heap.size ≠ g5 ∧ w.heap.size ≤ wv35.heap.size) := Lib.hid ⟨by have := hHeld.2.2.1.lt; omega, hHeld.2.2.2.size⟩
                    have LEwz37 : Hid (B0 ≤ (wv35.alloc (.cells ZW.toArray 32)).heap.size) := Lib.hid (Nat.le_trans LEwv35.out hd38.size)
                    generalize wv35.alloc (.cells ZW.toArray 32) = wz37 at *
                    generalize hg8 : wv35.heap.size = g8 at *
                    clear hg8
                    refine hK1.out _ _ (hHeld2) (fun hHeld => ?_)
                    clear hK1 K1
                    try simp only [Act.put, List.getElem_toArray, List.getElem_cons_succ, List.getElem_cons_zero, List.setIfInBounds_toArray, List.set_cons_zero, List.set_cons_succ]
                    clear hHeld2
                    refine wpAnyH_ready (rs := [18]) (by kernel_rfl) (by simp) (AllReadyH.cons rfl (fun K1 hK1 => ?_) AllReadyH.nil)
                    try simp only [Act.put, List.getElem_toArray, List.getElem_cons_succ, List.getElem_cons_zero, List.setIfInBounds_toArray, List.set_cons_zero, List.set_cons_succ]
                    rw [if_pos (by rfl)]
                    refine wp_store_at 32 (.tmp 8) (.tmp 72) rfl g8 0 (Au.wc b p2) ZW 32 rfl rfl H8.out (by rw [HX37.out, HZ37.out]; omega) (by rw [win_size, HX37.out]) (HX1.out p2) ?_
                    have H8o := H8
                    intro ws39 hrS hgS
                    rw [splice_all ((HX37.out p2).trans HZ37.out.symm)] at hrS
                    have H8 := Lib.hid hrS
                    have hHeld2 : Row ws39 w.heap.size 25 [.slice (some ⟨g, off, none⟩) m c, .slice A2 q c2, .int .i64 rd, .int .i64 fl] ∧ Row ws39 (w.heap.size + 1) 30 CK ∧ Row ws39 g5 32 (Au.wc b p) ∧ Below w.heap.size w ws39 := ⟨hHeld.1.kept hgS (fun e => by injection e with e; exact row_ne_row hHeld.1 H8o.out (by decide) e), hHeld.2.1.kept hgS (fun e => by injection e with e; exact row_ne_row hHeld.2.1 H8o.out (by decide) e), hHeld.2.2.1.kept hgS (fun e => by injection e with e; exact N85.out.1 e.symm), below_own hHeld.2.2.2 hgS (fun k hk => by cases hk; exact N85.out.2)⟩
                    clear hrS hgS
                    refine hK1.out _ _ (hHeld2) (fun hHeld => ?_)
                    clear hK1 K1
                    try simp only [Act.put, List.getElem_toArray, List.getElem_cons_succ, List.getElem_cons_zero, List.setIfInBounds_toArray, List.set_cons_zero, List.set_cons_succ]
                    clear hHeld2
                    refine wpAnyH_take (i := 19) (v := .bool true) rfl (by kernel_rfl) (by kernel_rfl) (by kernel_rfl) (fun _ _ _ h => h) (Or.inl ⟨by rfl, fun w' hSw => by go_simp⟩) hHeld ?_
                    try simp only [Act.put, List.getElem_toArray, List.getElem_cons_succ, List.getElem_cons_zero, List.setIfInBounds_toArray, List.set_cons_zero, List.set_cons_succ]
                    refine wpAnyH_done (by kernel_rfl) ?_ _
                    have R8 := HXb.out p2 _ _ H8.out
                    have R5 := HXb.out p _ _ hHeld.2.2.1
                    have c8 := R8.2
                    have c5 := R5.2
                    have HR8 := Lib.hid R8.1
                    have HR5 := Lib.hid R5.1
                    have HBz := Lib.hid hHeld.2.2.2
                    clear hHeld R8 R5
                    have hbe := HBE.out
                    go_wp2_with (first
                      | ((with_reducible show wpList _ _ _ (⟨_, .load 30 (.tmp 76), _, _, _, _⟩ :: _) _ _); refine wpList_load_tx rfl 30 (.tmp 76) rfl g8 0 (rfl) CB _ (HR8.out) Tryd.underlying30 rfl (by rw [bid_info, HB36.out]) ?_)
                      | ((with_reducible show wpList _ _ _ (⟨_, .load 30 (.tmp 78), _, _, _, _⟩ :: _) _ _); refine wpList_load_tx rfl 30 (.tmp 78) rfl g5 0 (rfl) CB _ (HR5.out) Tryd.underlying30 rfl (by rw [bid_info, HB36.out]) ?_))
                    go_ret
                    exact ⟨by first | rfl | simp, HBz.out⟩
                  · skip
                    try simp only [Act.put, List.getElem_toArray, List.getElem_cons_succ, List.getElem_cons_zero, List.setIfInBounds_toArray, List.set_cons_zero, List.set_cons_succ]
                    go_simp
                    have hd41 := (Below.refl wp34.heap.size wp34).alloc (Nat.le_refl _) (.cells ZW.toArray 32)
                    replace HO64 := Lib.hid (HO64.out.below hd41)
                    have hHeld2 : Row (wp34.alloc (.cells ZW.toArray 32)) w.heap.size 25 [.slice (some ⟨g, off, none⟩) m c, .slice A2 q c2, .int .i64 rd, .int .i64 fl] ∧ Row (wp34.alloc (.cells ZW.toArray 32)) (w.heap.size + 1) 30 CK ∧ Row (wp34.alloc (.cells ZW.toArray 32)) g5 32 (Au.wc b p) ∧ Below w.heap.size w (wp34.alloc (.cells ZW.toArray 32)) := ⟨hHeld.1.kept (grownBy_of_below hd41 none) (by simp), hHeld.2.1.kept (grownBy_of_below hd41 none) (by simp), hHeld.2.2.1.kept (grownBy_of_below hd41 none) (by simp), two_below' hHeld.2.2.2 hd41⟩
                    have H8 : Hid (Row (wp34.alloc (.cells ZW.toArray 32)) wp34.heap.size 32 ZW) := Lib.hid (Row.new wp34 32 ZW)
                    have N85 : Hid (wp34.heap.size ≠ g5 ∧ w.heap.size ≤ wp34.heap.size) := Lib.hid ⟨by have := hHeld.2.2.1.lt; omega, hHeld.2.2.2.size⟩
                    have LEwz40 : Hid (B0 ≤ (wp34.alloc (.cells ZW.toArray 32)).heap.size) := Lib.hid (Nat.le_trans LEwp34.out hd41.size)
                    generalize wp34.alloc (.cells ZW.toArray 32) = wz40 at *
                    generalize hg8 : wp34.heap.size = g8 at *
                    clear hg8
                    refine hK1.out _ _ (hHeld2) (fun hHeld => ?_)
                    clear hK1 K1
                    try simp only [Act.put, List.getElem_toArray, List.getElem_cons_succ, List.getElem_cons_zero, List.setIfInBounds_toArray, List.set_cons_zero, List.set_cons_succ]
                    clear hHeld2
                    refine wpAnyH_ready (rs := [13]) (by kernel_rfl) (by simp) (AllReadyH.cons rfl (fun K1 hK1 => ?_) AllReadyH.nil)
                    try simp only [Act.put, List.getElem_toArray, List.getElem_cons_succ, List.getElem_cons_zero, List.setIfInBounds_toArray, List.set_cons_zero, List.set_cons_succ]
                    go_simp
                    refine Calls.mono (WT.out _ _ hHeld.2.2.2 HO64.out) ?_
                    rintro e wv42 ⟨rfl, hc43⟩
                    replace H8 := Lib.hid (H8.out.kept (grownBy_of_below hc43 none) (by simp))
                    have LEwv42 : Hid (B0 ≤ wv42.heap.size) := Lib.hid (Nat.le_trans LEwz40.out hc43.size)
                    refine hK1.out _ _ (⟨hHeld.1.kept (grownBy_of_below hc43 none) (by simp), hHeld.2.1.kept (grownBy_of_below hc43 none) (by simp), hHeld.2.2.1.kept (grownBy_of_below hc43 none) (by simp), two_below' hHeld.2.2.2 hc43⟩) (fun hHeld => ?_)
                    clear hK1 K1
                    try simp only [Act.put, List.getElem_toArray, List.getElem_cons_succ, List.getElem_cons_zero, List.setIfInBounds_toArray, List.set_cons_zero, List.set_cons_succ]
                    refine wpAnyH_take (i := 14) (v := .tuple #[.agg (Au.wc b p2).toArray, .bool true]) rfl (by kernel_rfl) (by kernel_rfl) (by kernel_rfl) (fun _ _ _ h => h) (Or.inl ⟨by rfl, fun w' hSw => by go_simp⟩) hHeld ?_
                    try simp only [Act.put, List.getElem_toArray, List.getElem_cons_succ, List.getElem_cons_zero, List.setIfInBounds_toArray, List.set_cons_zero, List.set_cons_succ]
                    refine wpAnyH_take (i := 15) (v := .agg (Au.wc b p2).toArray) rfl (by kernel_rfl) (by kernel_rfl) (by kernel_rfl) (fun _ _ _ h => h) (Or.inl ⟨by rfl, fun w' hSw => by go_simp⟩) hHeld ?_
                    try simp only [Act.put, List.getElem_toArray, List.getElem_cons_succ, List.getElem_cons_zero, List.setIfInBounds_toArray, List.set_cons_zero, List.set_cons_succ]
                    refine wpAnyH_take (i := 16) (v := .bool true) rfl (by kernel_rfl) (by kernel_rfl) (by kernel_rfl) (fun _ _ _ h => h) (Or.inl ⟨by rfl, fun w' hSw => by go_simp⟩) hHeld ?_
                    try simp only [Act.put, List.getElem_toArray, List.getElem_cons_succ, List.getElem_cons_zero, List.setIfInBounds_toArray, List.set_cons_zero, List.set_cons_succ]
                    refine wpAnyH_ready (rs := [18]) (by kernel_rfl) (by simp) (AllReadyH.cons rfl (fun K1 hK1 => ?_) AllReadyH.nil)
                    try simp only [Act.put, List.getElem_toArray, List.getElem_cons_succ, List.getElem_cons_zero, List.setIfInBounds_toArray, List.set_cons_zero, List.set_cons_succ]
                    rw [if_pos (by rfl)]
                    refine wp_store_at 32 (.tmp 8) (.tmp 72) rfl g8 0 (Au.wc b p2) ZW 32 rfl rfl H8.out (by rw [HX37.out, HZ37.out]; omega) (by rw [win_size, HX37.out]) (HX1.out p2) ?_
                    have H8o := H8
                    intro ws44 hrS hgS
                    rw [splice_all ((HX37.out p2).trans HZ37.out.symm)] at hrS
                    have H8 := Lib.hid hrS
                    have hHeld2 : Row ws44 w.heap.size 25 [.slice (some ⟨g, off, none⟩) m c, .slice A2 q c2, .int .i64 rd, .int .i64 fl] ∧ Row ws44 (w.heap.size + 1) 30 CK ∧ Row ws44 g5 32 (Au.wc b p) ∧ Below w.heap.size w ws44 := ⟨hHeld.1.kept hgS (fun e => by injection e with e; exact row_ne_row hHeld.1 H8o.out (by decide) e), hHeld.2.1.kept hgS (fun e => by injection e with e; exact row_ne_row hHeld.2.1 H8o.out (by decide) e), hHeld.2.2.1.kept hgS (fun e => by injection e with e; exact N85.out.1 e.symm), below_own hHeld.2.2.2 hgS (fun k hk => by cases hk; exact N85.out.2)⟩
                    clear hrS hgS
                    refine hK1.out _ _ (hHeld2) (fun hHeld => ?_)
                    clear hK1 K1
                    try simp only [Act.put, List.getElem_toArray, List.getElem_cons_succ, List.getElem_cons_zero, List.setIfInBounds_toArray, List.set_cons_zero, List.set_cons_succ]
                    clear hHeld2
                    refine wpAnyH_take (i := 19) (v := .bool true) rfl (by kernel_rfl) (by kernel_rfl) (by kernel_rfl) (fun _ _ _ h => h) (Or.inl ⟨by rfl, fun w' hSw => by go_simp⟩) hHeld ?_
                    try simp only [Act.put, List.getElem_toArray, List.getElem_cons_succ, List.getElem_cons_zero, List.setIfInBounds_toArray, List.set_cons_zero, List.set_cons_succ]
                    refine wpAnyH_done (by kernel_rfl) ?_ _
                    have R8 := HXb.out p2 _ _ H8.out
                    have R5 := HXb.out p _ _ hHeld.2.2.1
                    have c8 := R8.2
                    have c5 := R5.2
                    have HR8 := Lib.hid R8.1
                    have HR5 := Lib.hid R5.1
                    have HBz := Lib.hid hHeld.2.2.2
                    clear hHeld R8 R5
                    have hbe := HBE.out
                    go_wp2_with (first
                      | ((with_reducible show wpList _ _ _ (⟨_, .load 30 (.tmp 76), _, _, _, _⟩ :: _) _ _); refine wpList_load_tx rfl 30 (.tmp 76) rfl g8 0 (rfl) CB _ (HR8.out) Tryd.underlying30 rfl (by rw [bid_info, HB36.out]) ?_)
                      | ((with_reducible show wpList _ _ _ (⟨_, .load 30 (.tmp 78), _, _, _, _⟩ :: _) _ _); refine wpList_load_tx rfl 30 (.tmp 78) rfl g5 0 (rfl) CB _ (HR5.out) Tryd.underlying30 rfl (by rw [bid_info, HB36.out]) ?_))
                    go_ret
                    exact ⟨by first | rfl | simp, HBz.out⟩
                · skip
                  try simp only [Act.put, List.getElem_toArray, List.getElem_cons_succ, List.getElem_cons_zero, List.setIfInBounds_toArray, List.set_cons_zero, List.set_cons_succ]
                  go_simp
                  have hd46 := (Below.refl wp33.heap.size wp33).alloc (Nat.le_refl _) (.cells ZW.toArray 32)
                  replace HN := Lib.hid (HN.out.kept (grownBy_of_below hd46 none) (by simp))
                  replace HO61 := Lib.hid (HO61.out.below hd46)
                  have hHeld2 : Row (wp33.alloc (.cells ZW.toArray 32)) w.heap.size 25 [.slice (some ⟨g, off, none⟩) m c, .slice A2 q c2, .int .i64 rd, .int .i64 fl] ∧ Row (wp33.alloc (.cells ZW.toArray 32)) (w.heap.size + 1) 30 CK ∧ Row (wp33.alloc (.cells ZW.toArray 32)) g5 32 (Au.wc b p) ∧ Below w.heap.size w (wp33.alloc (.cells ZW.toArray 32)) := ⟨hHeld.1.kept (grownBy_of_below hd46 none) (by simp), hHeld.2.1.kept (grownBy_of_below hd46 none) (by simp), hHeld.2.2.1.kept (grownBy_of_below hd46 none) (by simp), two_below' hHeld.2.2.2 hd46⟩
                  have H8 : Hid (Row (wp33.alloc (.cells ZW.toArray 32)) wp33.heap.size 32 ZW) := Lib.hid (Row.new wp33 32 ZW)
                  have N85 : Hid (wp33.heap.size ≠ g5 ∧ w.heap.size ≤ wp33.heap.size) := Lib.hid ⟨by have := hHeld.2.2.1.lt; omega, hHeld.2.2.2.size⟩
                  have HNlt : Hid (gN < (wp33.alloc (.cells ZW.toArray 32)).heap.size) := Lib.hid HN.out.lt
                  have LEwz45 : Hid (B0 ≤ (wp33.alloc (.cells ZW.toArray 32)).heap.size) := Lib.hid (Nat.le_trans LEwp33.out hd46.size)
                  generalize wp33.alloc (.cells ZW.toArray 32) = wz45 at *
                  generalize hg8 : wp33.heap.size = g8 at *
                  clear hg8
                  refine hK1.out _ _ (hHeld2) (fun hHeld => ?_)
                  clear hK1 K1
                  try simp only [Act.put, List.getElem_toArray, List.getElem_cons_succ, List.getElem_cons_zero, List.setIfInBounds_toArray, List.set_cons_zero, List.set_cons_succ]
                  clear hHeld2
                  refine wpAnyH_ready (rs := [6]) (by kernel_rfl) (by simp) (AllReadyH.cons rfl (fun K1 hK1 => ?_) AllReadyH.nil)
                  try simp only [Act.put, List.getElem_toArray, List.getElem_cons_succ, List.getElem_cons_zero, List.setIfInBounds_toArray, List.set_cons_zero, List.set_cons_succ]
                  rw [if_pos (by rfl)]
                  refine wp_append_own_wide _ _ _ 22 rfl B0 30 i0 (.agg ZB.toArray) 36 64 Tryd.underlying22 Hi.out Hz.out Hsz.out Hby.out (by rw [← HZ36.out]; rfl) (by decide) v61 _ _ rfl HO61.out.own ⟨gN, 0, none⟩ 1 1 CK rfl (by rw [HK36.out]) (row_news HN.out) HK1.out hk63.out.2 hk48.out.2 LEwz45.out ?_
                  intro v64 wp47 hown hgrow _
                  replace H8 := Lib.hid (H8.out.kept hgrow (fun e => HO61.out.ne_block H8.out (by decide) e.symm))
                  have hHeld2 : Row wp47 w.heap.size 25 [.slice (some ⟨g, off, none⟩) m c, .slice A2 q c2, .int .i64 rd, .int .i64 fl] ∧ Row wp47 (w.heap.size + 1) 30 CK ∧ Row wp47 g5 32 (Au.wc b p) ∧ Below w.heap.size w wp47 := ⟨hHeld.1.kept hgrow (fun e => by have := (HO61.out.lt _ e.symm).1; have := HG.out; omega), hHeld.2.1.kept hgrow (fun e => by have := (HO61.out.lt _ e.symm).1; have := HG.out; omega), hHeld.2.2.1.kept hgrow (fun e => by have := (HO61.out.lt _ e.symm).1; have := HG.out; omega), below_own hHeld.2.2.2 hgrow (fun k hk => by have := (HO61.out.lt _ hk).1; have := HG.out; omega)⟩
                  have HO64 : Hid (OwnL wp47 B0 30 36 Bd.cells v64 (L ++ [x])) := Lib.hid (OwnL.pushed (by rw [HCK.out]; exact hown))
                  have LEwp47 : Hid (B0 ≤ wp47.heap.size) := Lib.hid (Nat.le_trans LEwz45.out hgrow.size)
                  clear hown hgrow
                  refine hK1.out _ _ (hHeld2) (fun hHeld => ?_)
                  clear hK1 K1
                  try simp only [Act.put, List.getElem_toArray, List.getElem_cons_succ, List.getElem_cons_zero, List.setIfInBounds_toArray, List.set_cons_zero, List.set_cons_succ]
                  clear hHeld2
                  refine wpAnyH_ready (rs := [13]) (by kernel_rfl) (by simp) (AllReadyH.cons rfl (fun K1 hK1 => ?_) AllReadyH.nil)
                  try simp only [Act.put, List.getElem_toArray, List.getElem_cons_succ, List.getElem_cons_zero, List.setIfInBounds_toArray, List.set_cons_zero, List.set_cons_succ]
                  go_simp
                  refine Calls.mono (WT.out _ _ hHeld.2.2.2 HO64.out) ?_
                  rintro e wv48 ⟨rfl, hc49⟩
                  replace H8 := Lib.hid (H8.out.kept (grownBy_of_below hc49 none) (by simp))
                  have LEwv48 : Hid (B0 ≤ wv48.heap.size) := Lib.hid (Nat.le_trans LEwp47.out hc49.size)
                  refine hK1.out _ _ (⟨hHeld.1.kept (grownBy_of_below hc49 none) (by simp), hHeld.2.1.kept (grownBy_of_below hc49 none) (by simp), hHeld.2.2.1.kept (grownBy_of_below hc49 none) (by simp), two_below' hHeld.2.2.2 hc49⟩) (fun hHeld => ?_)
                  clear hK1 K1
                  try simp only [Act.put, List.getElem_toArray, List.getElem_cons_succ, List.getElem_cons_zero, List.setIfInBounds_toArray, List.set_cons_zero, List.set_cons_succ]
                  refine wpAnyH_take (i := 14) (v := .tuple #[.agg (Au.wc b p2).toArray, .bool true]) rfl (by kernel_rfl) (by kernel_rfl) (by kernel_rfl) (fun _ _ _ h => h) (Or.inl ⟨by rfl, fun w' hSw => by go_simp⟩) hHeld ?_
                  try simp only [Act.put, List.getElem_toArray, List.getElem_cons_succ, List.getElem_cons_zero, List.setIfInBounds_toArray, List.set_cons_zero, List.set_cons_succ]
                  refine wpAnyH_take (i := 15) (v := .agg (Au.wc b p2).toArray) rfl (by kernel_rfl) (by kernel_rfl) (by kernel_rfl) (fun _ _ _ h => h) (Or.inl ⟨by rfl, fun w' hSw => by go_simp⟩) hHeld ?_
                  try simp only [Act.put, List.getElem_toArray, List.getElem_cons_succ, List.getElem_cons_zero, List.setIfInBounds_toArray, List.set_cons_zero, List.set_cons_succ]
                  refine wpAnyH_take (i := 16) (v := .bool true) rfl (by kernel_rfl) (by kernel_rfl) (by kernel_rfl) (fun _ _ _ h => h) (Or.inl ⟨by rfl, fun w' hSw => by go_simp⟩) hHeld ?_
                  try simp only [Act.put, List.getElem_toArray, List.getElem_cons_succ, List.getElem_cons_zero, List.setIfInBounds_toArray, List.set_cons_zero, List.set_cons_succ]
                  refine wpAnyH_ready (rs := [18]) (by kernel_rfl) (by simp) (AllReadyH.cons rfl (fun K1 hK1 => ?_) AllReadyH.nil)
                  try simp only [Act.put, List.getElem_toArray, List.getElem_cons_succ, List.getElem_cons_zero, List.setIfInBounds_toArray, List.set_cons_zero, List.set_cons_succ]
                  rw [if_pos (by rfl)]
                  refine wp_store_at 32 (.tmp 8) (.tmp 72) rfl g8 0 (Au.wc b p2) ZW 32 rfl rfl H8.out (by rw [HX37.out, HZ37.out]; omega) (by rw [win_size, HX37.out]) (HX1.out p2) ?_
                  have H8o := H8
                  intro ws50 hrS hgS
                  rw [splice_all ((HX37.out p2).trans HZ37.out.symm)] at hrS
                  have H8 := Lib.hid hrS
                  have hHeld2 : Row ws50 w.heap.size 25 [.slice (some ⟨g, off, none⟩) m c, .slice A2 q c2, .int .i64 rd, .int .i64 fl] ∧ Row ws50 (w.heap.size + 1) 30 CK ∧ Row ws50 g5 32 (Au.wc b p) ∧ Below w.heap.size w ws50 := ⟨hHeld.1.kept hgS (fun e => by injection e with e; exact row_ne_row hHeld.1 H8o.out (by decide) e), hHeld.2.1.kept hgS (fun e => by injection e with e; exact row_ne_row hHeld.2.1 H8o.out (by decide) e), hHeld.2.2.1.kept hgS (fun e => by injection e with e; exact N85.out.1 e.symm), below_own hHeld.2.2.2 hgS (fun k hk => by cases hk; exact N85.out.2)⟩
                  clear hrS hgS
                  refine hK1.out _ _ (hHeld2) (fun hHeld => ?_)
                  clear hK1 K1
                  try simp only [Act.put, List.getElem_toArray, List.getElem_cons_succ, List.getElem_cons_zero, List.setIfInBounds_toArray, List.set_cons_zero, List.set_cons_succ]
                  clear hHeld2
                  refine wpAnyH_take (i := 19) (v := .bool true) rfl (by kernel_rfl) (by kernel_rfl) (by kernel_rfl) (fun _ _ _ h => h) (Or.inl ⟨by rfl, fun w' hSw => by go_simp⟩) hHeld ?_
                  try simp only [Act.put, List.getElem_toArray, List.getElem_cons_succ, List.getElem_cons_zero, List.setIfInBounds_toArray, List.set_cons_zero, List.set_cons_succ]
                  refine wpAnyH_done (by kernel_rfl) ?_ _
                  have R8 := HXb.out p2 _ _ H8.out
                  have R5 := HXb.out p _ _ hHeld.2.2.1
                  have c8 := R8.2
                  have c5 := R5.2
                  have HR8 := Lib.hid R8.1
                  have HR5 := Lib.hid R5.1
                  have HBz := Lib.hid hHeld.2.2.2
                  clear hHeld R8 R5
                  have hbe := HBE.out
                  go_wp2_with (first
                    | ((with_reducible show wpList _ _ _ (⟨_, .load 30 (.tmp 76), _, _, _, _⟩ :: _) _ _); refine wpList_load_tx rfl 30 (.tmp 76) rfl g8 0 (rfl) CB _ (HR8.out) Tryd.underlying30 rfl (by rw [bid_info, HB36.out]) ?_)
                    | ((with_reducible show wpList _ _ _ (⟨_, .load 30 (.tmp 78), _, _, _, _⟩ :: _) _ _); refine wpList_load_tx rfl 30 (.tmp 78) rfl g5 0 (rfl) CB _ (HR5.out) Tryd.underlying30 rfl (by rw [bid_info, HB36.out]) ?_))
                  go_ret
                  exact ⟨by first | rfl | simp, HBz.out⟩
              · skip
                try simp only [Act.put, List.getElem_toArray, List.getElem_cons_succ, List.getElem_cons_zero, List.setIfInBounds_toArray, List.set_cons_zero, List.set_cons_succ]
                go_simp
                have hd52 := (Below.refl wn31.heap.size wn31).alloc (Nat.le_refl _) (.cells ZW.toArray 32)
                replace HO58 := Lib.hid (HO58.out.below hd52)
                replace HN := Lib.hid (HN.out.kept (grownBy_of_below hd52 none) (by simp))
                have hHeld2 : Row (wn31.alloc (.cells ZW.toArray 32)) w.heap.size 25 [.slice (some ⟨g, off, none⟩) m c, .slice A2 q c2, .int .i64 rd, .int .i64 fl] ∧ Row (wn31.alloc (.cells ZW.toArray 32)) (w.heap.size + 1) 30 CK ∧ Row (wn31.alloc (.cells ZW.toArray 32)) g5 32 (Au.wc b p) ∧ Below w.heap.size w (wn31.alloc (.cells ZW.toArray 32)) := ⟨hHeld.1.kept (grownBy_of_below hd52 none) (by simp), hHeld.2.1.kept (grownBy_of_below hd52 none) (by simp), hHeld.2.2.1.kept (grownBy_of_below hd52 none) (by simp), two_below' hHeld.2.2.2 hd52⟩
                have H8 : Hid (Row (wn31.alloc (.cells ZW.toArray 32)) wn31.heap.size 32 ZW) := Lib.hid (Row.new wn31 32 ZW)
                have N85 : Hid (wn31.heap.size ≠ g5 ∧ w.heap.size ≤ wn31.heap.size) := Lib.hid ⟨by have := hHeld.2.2.1.lt; omega, hHeld.2.2.2.size⟩
                have LEwz51 : Hid (B0 ≤ (wn31.alloc (.cells ZW.toArray 32)).heap.size) := Lib.hid (Nat.le_trans LEwn31.out hd52.size)
                generalize wn31.alloc (.cells ZW.toArray 32) = wz51 at *
                generalize hg8 : wn31.heap.size = g8 at *
                clear hg8
                refine hK1.out _ _ (hHeld2) (fun hHeld => ?_)
                clear hK1 K1
                try simp only [Act.put, List.getElem_toArray, List.getElem_cons_succ, List.getElem_cons_zero, List.setIfInBounds_toArray, List.set_cons_zero, List.set_cons_succ]
                clear hHeld2
                refine wpAnyH_ready (rs := [3]) (by kernel_rfl) (by simp) (AllReadyH.cons rfl (fun K1 hK1 => ?_) AllReadyH.nil)
                try simp only [Act.put, List.getElem_toArray, List.getElem_cons_succ, List.getElem_cons_zero, List.setIfInBounds_toArray, List.set_cons_zero, List.set_cons_succ]
                rw [if_pos (by rfl)]
                refine wp_append_own_wide _ _ _ 22 rfl B0 30 i0 (.agg ZB.toArray) 36 64 Tryd.underlying22 Hi.out Hz.out Hsz.out Hby.out (by rw [← HZ36.out]; rfl) (by decide) (.slice (some ⟨gb, 0, none⟩) 0 0) _ _ rfl HO58.out.own ⟨g, off, none⟩ m c (Rw.flat Bd.cells L) rfl HFL.out.1 (HFL.out.2.2 _ hHeld.2.2.2) HFL.out.2.1 hk63.out.1 hk48.out.1 LEwz51.out ?_
                intro v61 wp53 hown hgrow _
                replace HN := Lib.hid (HN.out.kept hgrow (fun e => by simp only [Value.ownBlock, Option.some.injEq] at e; exact absurd e NEbN.out))
                replace H8 := Lib.hid (H8.out.kept hgrow (fun e => HO58.out.ne_block H8.out (by decide) e.symm))
                have hHeld2 : Row wp53 w.heap.size 25 [.slice (some ⟨g, off, none⟩) m c, .slice A2 q c2, .int .i64 rd, .int .i64 fl] ∧ Row wp53 (w.heap.size + 1) 30 CK ∧ Row wp53 g5 32 (Au.wc b p) ∧ Below w.heap.size w wp53 := ⟨hHeld.1.kept hgrow (fun e => by have := (HO58.out.lt _ e.symm).1; have := HG.out; omega), hHeld.2.1.kept hgrow (fun e => by have := (HO58.out.lt _ e.symm).1; have := HG.out; omega), hHeld.2.2.1.kept hgrow (fun e => by have := (HO58.out.lt _ e.symm).1; have := HG.out; omega), below_own hHeld.2.2.2 hgrow (fun k hk => by have := (HO58.out.lt _ hk).1; have := HG.out; omega)⟩
                have HO61 : Hid (OwnL wp53 B0 30 36 Bd.cells v61 L) := Lib.hid ⟨by rw [← HM.out]; simpa [Rw.flat_nil] using hown⟩
                have LEwp53 : Hid (B0 ≤ wp53.heap.size) := Lib.hid (Nat.le_trans LEwz51.out hgrow.size)
                clear hown hgrow
                refine hK1.out _ _ (hHeld2) (fun hHeld => ?_)
                clear hK1 K1
                try simp only [Act.put, List.getElem_toArray, List.getElem_cons_succ, List.getElem_cons_zero, List.setIfInBounds_toArray, List.set_cons_zero, List.set_cons_succ]
                clear hHeld2
                refine wpAnyH_ready (rs := [6]) (by kernel_rfl) (by simp) (AllReadyH.cons rfl (fun K1 hK1 => ?_) AllReadyH.nil)
                try simp only [Act.put, List.getElem_toArray, List.getElem_cons_succ, List.getElem_cons_zero, List.setIfInBounds_toArray, List.set_cons_zero, List.set_cons_succ]
                rw [if_pos (by rfl)]
                refine wp_append_own_wide _ _ _ 22 rfl B0 30 i0 (.agg ZB.toArray) 36 64 Tryd.underlying22 Hi.out Hz.out Hsz.out Hby.out (by rw [← HZ36.out]; rfl) (by decide) v61 _ _ rfl HO61.out.own ⟨gN, 0, none⟩ 1 1 CK rfl (by rw [HK36.out]) (row_news HN.out) HK1.out hk63.out.2 hk48.out.2 LEwp53.out ?_
                intro v64 wp54 hown hgrow _
                replace H8 := Lib.hid (H8.out.kept hgrow (fun e => HO61.out.ne_block H8.out (by decide) e.symm))
                have hHeld2 : Row wp54 w.heap.size 25 [.slice (some ⟨g, off, none⟩) m c, .slice A2 q c2, .int .i64 rd, .int .i64 fl] ∧ Row wp54 (w.heap.size + 1) 30 CK ∧ Row wp54 g5 32 (Au.wc b p) ∧ Below w.heap.size w wp54 := ⟨hHeld.1.kept hgrow (fun e => by have := (HO61.out.lt _ e.symm).1; have := HG.out; omega), hHeld.2.1.kept hgrow (fun e => by have := (HO61.out.lt _ e.symm).1; have := HG.out; omega), hHeld.2.2.1.kept hgrow (fun e => by have := (HO61.out.lt _ e.symm).1; have := HG.out; omega), below_own hHeld.2.2.2 hgrow (fun k hk => by have := (HO61.out.lt _ hk).1; have := HG.out; omega)⟩
                have HO64 : Hid (OwnL wp54 B0 30 36 Bd.cells v64 (L ++ [x])) := Lib.hid (OwnL.pushed (by rw [HCK.out]; exact hown))
                have LEwp54 : Hid (B0 ≤ wp54.heap.size) := Lib.hid (Nat.le_trans LEwp53.out hgrow.size)
                clear hown hgrow
                refine hK1.out _ _ (hHeld2) (fun hHeld => ?_)
                clear hK1 K1
                try simp only [Act.put, List.getElem_toArray, List.getElem_cons_succ, List.getElem_cons_zero, List.setIfInBounds_toArray, List.set_cons_zero, List.set_cons_succ]
                clear hHeld2
                refine wpAnyH_ready (rs := [13]) (by kernel_rfl) (by simp) (AllReadyH.cons rfl (fun K1 hK1 => ?_) AllReadyH.nil)
                try simp only [Act.put, List.getElem_toArray, List.getElem_cons_succ, List.getElem_cons_zero, List.setIfInBounds_toArray, List.set_cons_zero, List.set_cons_succ]
                go_simp
                refine Calls.mono (WT.out _ _ hHeld.2.2.2 HO64.out) ?_
                rintro e wv55 ⟨rfl, hc56⟩
                replace H8 := Lib.hid (H8.out.kept (grownBy_of_below hc56 none) (by simp))
                have LEwv55 : Hid (B0 ≤ wv55.heap.size) := Lib.hid (Nat.le_trans LEwp54.out hc56.size)
                refine hK1.out _ _ (⟨hHeld.1.kept (grownBy_of_below hc56 none) (by simp), hHeld.2.1.kept (grownBy_of_below hc56 none) (by simp), hHeld.2.2.1.kept (grownBy_of_below hc56 none) (by simp), two_below' hHeld.2.2.2 hc56⟩) (fun hHeld => ?_)
                clear hK1 K1
                try simp only [Act.put, List.getElem_toArray, List.getElem_cons_succ, List.getElem_cons_zero, List.setIfInBounds_toArray, List.set_cons_zero, List.set_cons_succ]
                refine wpAnyH_take (i := 14) (v := .tuple #[.agg (Au.wc b p2).toArray, .bool true]) rfl (by kernel_rfl) (by kernel_rfl) (by kernel_rfl) (fun _ _ _ h => h) (Or.inl ⟨by rfl, fun w' hSw => by go_simp⟩) hHeld ?_
                try simp only [Act.put, List.getElem_toArray, List.getElem_cons_succ, List.getElem_cons_zero, List.setIfInBounds_toArray, List.set_cons_zero, List.set_cons_succ]
                refine wpAnyH_take (i := 15) (v := .agg (Au.wc b p2).toArray) rfl (by kernel_rfl) (by kernel_rfl) (by kernel_rfl) (fun _ _ _ h => h) (Or.inl ⟨by rfl, fun w' hSw => by go_simp⟩) hHeld ?_
                try simp only [Act.put, List.getElem_toArray, List.getElem_cons_succ, List.getElem_cons_zero, List.setIfInBounds_toArray, List.set_cons_zero, List.set_cons_succ]
                refine wpAnyH_take (i := 16) (v := .bool true) rfl (by kernel_rfl) (by kernel_rfl) (by kernel_rfl) (fun _ _ _ h => h) (Or.inl ⟨by rfl, fun w' hSw => by go_simp⟩) hHeld ?_
                try simp only [Act.put, List.getElem_toArray, List.getElem_cons_succ, List.getElem_cons_zero, List.setIfInBounds_toArray, List.set_cons_zero, List.set_cons_succ]
                refine wpAnyH_ready (rs := [18]) (by kernel_rfl) (by simp) (AllReadyH.cons rfl (fun K1 hK1 => ?_) AllReadyH.nil)
                try simp only [Act.put, List.getElem_toArray, List.getElem_cons_succ, List.getElem_cons_zero, List.setIfInBounds_toArray, List.set_cons_zero, List.set_cons_succ]
                rw [if_pos (by rfl)]
                refine wp_store_at 32 (.tmp 8) (.tmp 72) rfl g8 0 (Au.wc b p2) ZW 32 rfl rfl H8.out (by rw [HX37.out, HZ37.out]; omega) (by rw [win_size, HX37.out]) (HX1.out p2) ?_
                have H8o := H8
                intro ws57 hrS hgS
                rw [splice_all ((HX37.out p2).trans HZ37.out.symm)] at hrS
                have H8 := Lib.hid hrS
                have hHeld2 : Row ws57 w.heap.size 25 [.slice (some ⟨g, off, none⟩) m c, .slice A2 q c2, .int .i64 rd, .int .i64 fl] ∧ Row ws57 (w.heap.size + 1) 30 CK ∧ Row ws57 g5 32 (Au.wc b p) ∧ Below w.heap.size w ws57 := ⟨hHeld.1.kept hgS (fun e => by injection e with e; exact row_ne_row hHeld.1 H8o.out (by decide) e), hHeld.2.1.kept hgS (fun e => by injection e with e; exact row_ne_row hHeld.2.1 H8o.out (by decide) e), hHeld.2.2.1.kept hgS (fun e => by injection e with e; exact N85.out.1 e.symm), below_own hHeld.2.2.2 hgS (fun k hk => by cases hk; exact N85.out.2)⟩
                clear hrS hgS
                refine hK1.out _ _ (hHeld2) (fun hHeld => ?_)
                clear hK1 K1
                try simp only [Act.put, List.getElem_toArray, List.getElem_cons_succ, List.getElem_cons_zero, List.setIfInBounds_toArray, List.set_cons_zero, List.set_cons_succ]
                clear hHeld2
                refine wpAnyH_take (i := 19) (v := .bool true) rfl (by kernel_rfl) (by kernel_rfl) (by kernel_rfl) (fun _ _ _ h => h) (Or.inl ⟨by rfl, fun w' hSw => by go_simp⟩) hHeld ?_
                try simp only [Act.put, List.getElem_toArray, List.getElem_cons_succ, List.getElem_cons_zero, List.setIfInBounds_toArray, List.set_cons_zero, List.set_cons_succ]
                refine wpAnyH_done (by kernel_rfl) ?_ _
                have R8 := HXb.out p2 _ _ H8.out
                have R5 := HXb.out p _ _ hHeld.2.2.1
                have c8 := R8.2
                have c5 := R5.2
                have HR8 := Lib.hid R8.1
                have HR5 := Lib.hid R5.1
                have HBz := Lib.hid hHeld.2.2.2
                clear hHeld R8 R5
                have hbe := HBE.out
                go_wp2_with (first
                  | ((with_reducible show wpList _ _ _ (⟨_, .load 30 (.tmp 76), _, _, _, _⟩ :: _) _ _); refine wpList_load_tx rfl 30 (.tmp 76) rfl g8 0 (rfl) CB _ (HR8.out) Tryd.underlying30 rfl (by rw [bid_info, HB36.out]) ?_)
                  | ((with_reducible show wpList _ _ _ (⟨_, .load 30 (.tmp 78), _, _, _, _⟩ :: _) _ _); refine wpList_load_tx rfl 30 (.tmp 78) rfl g5 0 (rfl) CB _ (HR5.out) Tryd.underlying30 rfl (by rw [bid_info, HB36.out]) ?_))
                go_ret
                exact ⟨by first | rfl | simp, HBz.out⟩
            · skip
              try simp only [Act.put, List.getElem_toArray, List.getElem_cons_succ, List.getElem_cons_zero, List.setIfInBounds_toArray, List.set_cons_zero, List.set_cons_succ]
              go_simp
              have hd59 := (Below.refl wb1.heap.size wb1).alloc (Nat.le_refl _) (.cells ZW.toArray 32)
              replace HO58 := Lib.hid (HO58.out.below hd59)
              have hHeld2 : Row (wb1.alloc (.cells ZW.toArray 32)) w.heap.size 25 [.slice (some ⟨g, off, none⟩) m c, .slice A2 q c2, .int .i64 rd, .int .i64 fl] ∧ Row (wb1.alloc (.cells ZW.toArray 32)) (w.heap.size + 1) 30 CK ∧ Row (wb1.alloc (.cells ZW.toArray 32)) g5 32 (Au.wc b p) ∧ Below w.heap.size w (wb1.alloc (.cells ZW.toArray 32)) := ⟨hHeld.1.kept (grownBy_of_below hd59 none) (by simp), hHeld.2.1.kept (grownBy_of_below hd59 none) (by simp), hHeld.2.2.1.kept (grownBy_of_below hd59 none) (by simp), two_below' hHeld.2.2.2 hd59⟩
              have H8 : Hid (Row (wb1.alloc (.cells ZW.toArray 32)) wb1.heap.size 32 ZW) := Lib.hid (Row.new wb1 32 ZW)
              have N85 : Hid (wb1.heap.size ≠ g5 ∧ w.heap.size ≤ wb1.heap.size) := Lib.hid ⟨by have := hHeld.2.2.1.lt; omega, hHeld.2.2.2.size⟩
              have LEwz58 : Hid (B0 ≤ (wb1.alloc (.cells ZW.toArray 32)).heap.size) := Lib.hid (Nat.le_trans LEwb1.out hd59.size)
              generalize wb1.alloc (.cells ZW.toArray 32) = wz58 at *
              generalize hg8 : wb1.heap.size = g8 at *
              clear hg8
              refine hK1.out _ _ (hHeld2) (fun hHeld => ?_)
              clear hK1 K1
              try simp only [Act.put, List.getElem_toArray, List.getElem_cons_succ, List.getElem_cons_zero, List.setIfInBounds_toArray, List.set_cons_zero, List.set_cons_succ]
              clear hHeld2
              refine wpAnyH_ready (rs := [3, 5]) (by kernel_rfl) (by simp) (AllReadyH.cons rfl (fun K1 hK1 => ?_) (AllReadyH.cons rfl (fun K1 hK1 => ?_) AllReadyH.nil))
              · skip
                try simp only [Act.put, List.getElem_toArray, List.getElem_cons_succ, List.getElem_cons_zero, List.setIfInBounds_toArray, List.set_cons_zero, List.set_cons_succ]
                rw [if_pos (by rfl)]
                refine wp_append_own_wide _ _ _ 22 rfl B0 30 i0 (.agg ZB.toArray) 36 64 Tryd.underlying22 Hi.out Hz.out Hsz.out Hby.out (by rw [← HZ36.out]; rfl) (by decide) (.slice (some ⟨gb, 0, none⟩) 0 0) _ _ rfl HO58.out.own ⟨g, off, none⟩ m c (Rw.flat Bd.cells L) rfl HFL.out.1 (HFL.out.2.2 _ hHeld.2.2.2) HFL.out.2.1 hk63.out.1 hk48.out.1 LEwz58.out ?_
                intro v61 wp60 hown hgrow _
                replace H8 := Lib.hid (H8.out.kept hgrow (fun e => HO58.out.ne_block H8.out (by decide) e.symm))
                have hHeld2 : Row wp60 w.heap.size 25 [.slice (some ⟨g, off, none⟩) m c, .slice A2 q c2, .int .i64 rd, .int .i64 fl] ∧ Row wp60 (w.heap.size + 1) 30 CK ∧ Row wp60 g5 32 (Au.wc b p) ∧ Below w.heap.size w wp60 := ⟨hHeld.1.kept hgrow (fun e => by have := (HO58.out.lt _ e.symm).1; have := HG.out; omega), hHeld.2.1.kept hgrow (fun e => by have := (HO58.out.lt _ e.symm).1; have := HG.out; omega), hHeld.2.2.1.kept hgrow (fun e => by have := (HO58.out.lt _ e.symm).1; have := HG.out; omega), below_own hHeld.2.2.2 hgrow (fun k hk => by have := (HO58.out.lt _ hk).1; have := HG.out; omega)⟩
                have HO61 : Hid (OwnL wp60 B0 30 36 Bd.cells v61 L) := Lib.hid ⟨by rw [← HM.out]; simpa [Rw.flat_nil] using hown⟩
                have LEwp60 : Hid (B0 ≤ wp60.heap.size) := Lib.hid (Nat.le_trans LEwz58.out hgrow.size)
                clear hown hgrow
                refine hK1.out _ _ (hHeld2) (fun hHeld => ?_)
                clear hK1 K1
                try simp only [Act.put, List.getElem_toArray, List.getElem_cons_succ, List.getElem_cons_zero, List.setIfInBounds_toArray, List.set_cons_zero, List.set_cons_succ]
                clear hHeld2
                refine wpAnyH_ready (rs := [5]) (by kernel_rfl) (by simp) (AllReadyH.cons rfl (fun K1 hK1 => ?_) AllReadyH.nil)
                try simp only [Act.put, List.getElem_toArray, List.getElem_cons_succ, List.getElem_cons_zero, List.setIfInBounds_toArray, List.set_cons_zero, List.set_cons_succ]
                rw [if_pos (by rfl)]
                refine wp_buildSlice 22 30 1 _ rfl CK.toArray i0 (.agg ZB.toArray) Tryd.underlying22 Hi.out Hz.out (by rw [Hsz.out]; decide) (by rw [Hsz.out]; decide) (by rw [Hsz.out, Array.toList_map]; exact fill_one15 36 (.agg ZB.toArray) CK HK36.out) ?_
                have hd62 := (Below.refl wp60.heap.size wp60).alloc (Nat.le_refl _) (.cells CK.toArray 30)
                replace H8 := Lib.hid (H8.out.kept (grownBy_of_below hd62 none) (by simp))
                replace HO61 := Lib.hid (HO61.out.below hd62)
                have hHeld2 : Row (wp60.alloc (.cells CK.toArray 30)) w.heap.size 25 [.slice (some ⟨g, off, none⟩) m c, .slice A2 q c2, .int .i64 rd, .int .i64 fl] ∧ Row (wp60.alloc (.cells CK.toArray 30)) (w.heap.size + 1) 30 CK ∧ Row (wp60.alloc (.cells CK.toArray 30)) g5 32 (Au.wc b p) ∧ Below w.heap.size w (wp60.alloc (.cells CK.toArray 30)) := ⟨hHeld.1.kept (grownBy_of_below hd62 none) (by simp), hHeld.2.1.kept (grownBy_of_below hd62 none) (by simp), hHeld.2.2.1.kept (grownBy_of_below hd62 none) (by simp), two_below' hHeld.2.2.2 hd62⟩
                have HN : Hid (Row (wp60.alloc (.cells CK.toArray 30)) wp60.heap.size 30 CK) := Lib.hid (Row.new wp60 30 CK)
                have HNlt : Hid (wp60.heap.size < (wp60.alloc (.cells CK.toArray 30)).heap.size) := Lib.hid HN.out.lt
                have LEwn61 : Hid (B0 ≤ (wp60.alloc (.cells CK.toArray 30)).heap.size) := Lib.hid (Nat.le_trans LEwp60.out hd62.size)
                generalize wp60.alloc (.cells CK.toArray 30) = wn61 at *
                generalize hgn : wp60.heap.size = gN at *
                clear hgn
                refine hK1.out _ _ (hHeld2) (fun hHeld => ?_)
                clear hK1 K1
                try simp only [Act.put, List.getElem_toArray, List.getElem_cons_succ, List.getElem_cons_zero, List.setIfInBounds_toArray, List.set_cons_zero, List.set_cons_succ]
                clear hHeld2
                refine wpAnyH_ready (rs := [6]) (by kernel_rfl) (by simp) (AllReadyH.cons rfl (fun K1 hK1 => ?_) AllReadyH.nil)
                try simp only [Act.put, List.getElem_toArray, List.getElem_cons_succ, List.getElem_cons_zero, List.setIfInBounds_toArray, List.set_cons_zero, List.set_cons_succ]
                rw [if_pos (by rfl)]
                refine wp_append_own_wide _ _ _ 22 rfl B0 30 i0 (.agg ZB.toArray) 36 64 Tryd.underlying22 Hi.out Hz.out Hsz.out Hby.out (by rw [← HZ36.out]; rfl) (by decide) v61 _ _ rfl HO61.out.own ⟨gN, 0, none⟩ 1 1 CK rfl (by rw [HK36.out]) (row_news HN.out) HK1.out hk63.out.2 hk48.out.2 LEwn61.out ?_
                intro v64 wp63 hown hgrow _
                replace H8 := Lib.hid (H8.out.kept hgrow (fun e => HO61.out.ne_block H8.out (by decide) e.symm))
                have hHeld2 : Row wp63 w.heap.size 25 [.slice (some ⟨g, off, none⟩) m c, .slice A2 q c2, .int .i64 rd, .int .i64 fl] ∧ Row wp63 (w.heap.size + 1) 30 CK ∧ Row wp63 g5 32 (Au.wc b p) ∧ Below w.heap.size w wp63 := ⟨hHeld.1.kept hgrow (fun e => by have := (HO61.out.lt _ e.symm).1; have := HG.out; omega), hHeld.2.1.kept hgrow (fun e => by have := (HO61.out.lt _ e.symm).1; have := HG.out; omega), hHeld.2.2.1.kept hgrow (fun e => by have := (HO61.out.lt _ e.symm).1; have := HG.out; omega), below_own hHeld.2.2.2 hgrow (fun k hk => by have := (HO61.out.lt _ hk).1; have := HG.out; omega)⟩
                have HO64 : Hid (OwnL wp63 B0 30 36 Bd.cells v64 (L ++ [x])) := Lib.hid (OwnL.pushed (by rw [HCK.out]; exact hown))
                have LEwp63 : Hid (B0 ≤ wp63.heap.size) := Lib.hid (Nat.le_trans LEwn61.out hgrow.size)
                clear hown hgrow
                refine hK1.out _ _ (hHeld2) (fun hHeld => ?_)
                clear hK1 K1
                try simp only [Act.put, List.getElem_toArray, List.getElem_cons_succ, List.getElem_cons_zero, List.setIfInBounds_toArray, List.set_cons_zero, List.set_cons_succ]
                clear hHeld2
                refine wpAnyH_ready (rs := [13]) (by kernel_rfl) (by simp) (AllReadyH.cons rfl (fun K1 hK1 => ?_) AllReadyH.nil)
                try simp only [Act.put, List.getElem_toArray, List.getElem_cons_succ, List.getElem_cons_zero, List.setIfInBounds_toArray, List.set_cons_zero, List.set_cons_succ]
                go_simp
                refine Calls.mono (WT.out _ _ hHeld.2.2.2 HO64.out) ?_
                rintro e wv64 ⟨rfl, hc65⟩
                replace H8 := Lib.hid (H8.out.kept (grownBy_of_below hc65 none) (by simp))
                have LEwv64 : Hid (B0 ≤ wv64.heap.size) := Lib.hid (Nat.le_trans LEwp63.out hc65.size)
                refine hK1.out _ _ (⟨hHeld.1.kept (grownBy_of_below hc65 none) (by simp), hHeld.2.1.kept (grownBy_of_below hc65 none) (by simp), hHeld.2.2.1.kept (grownBy_of_below hc65 none) (by simp), two_below' hHeld.2.2.2 hc65⟩) (fun hHeld => ?_)
                clear hK1 K1
                try simp only [Act.put, List.getElem_toArray, List.getElem_cons_succ, List.getElem_cons_zero, List.setIfInBounds_toArray, List.set_cons_zero, List.set_cons_succ]
                refine wpAnyH_take (i := 14) (v := .tuple #[.agg (Au.wc b p2).toArray, .bool true]) rfl (by kernel_rfl) (by kernel_rfl) (by kernel_rfl) (fun _ _ _ h => h) (Or.inl ⟨by rfl, fun w' hSw => by go_simp⟩) hHeld ?_
                try simp only [Act.put, List.getElem_toArray, List.getElem_cons_succ, List.getElem_cons_zero, List.setIfInBounds_toArray, List.set_cons_zero, List.set_cons_succ]
                refine wpAnyH_take (i := 15) (v := .agg (Au.wc b p2).toArray) rfl (by kernel_rfl) (by kernel_rfl) (by kernel_rfl) (fun _ _ _ h => h) (Or.inl ⟨by rfl, fun w' hSw => by go_simp⟩) hHeld ?_
                try simp only [Act.put, List.getElem_toArray, List.getElem_cons_succ, List.getElem_cons_zero, List.setIfInBounds_toArray, List.set_cons_zero, List.set_cons_succ]
                refine wpAnyH_take (i := 16) (v := .bool true) rfl (by kernel_rfl) (by kernel_rfl) (by kernel_rfl) (fun _ _ _ h => h) (Or.inl ⟨by rfl, fun w' hSw => by go_simp⟩) hHeld ?_
                try simp only [Act.put, List.getElem_toArray, List.getElem_cons_succ, List.getElem_cons_zero, List.setIfInBounds_toArray, List.set_cons_zero, List.set_cons_succ]
                refine wpAnyH_ready (rs := [18]) (by kernel_rfl) (by simp) (AllReadyH.cons rfl (fun K1 hK1 => ?_) AllReadyH.nil)
                try simp only [Act.put, List.getElem_toArray, List.getElem_cons_succ, List.getElem_cons_zero, List.setIfInBounds_toArray, List.set_cons_zero, List.set_cons_succ]
                rw [if_pos (by rfl)]
                refine wp_store_at 32 (.tmp 8) (.tmp 72) rfl g8 0 (Au.wc b p2) ZW 32 rfl rfl H8.out (by rw [HX37.out, HZ37.out]; omega) (by rw [win_size, HX37.out]) (HX1.out p2) ?_
                have H8o := H8
                intro ws66 hrS hgS
                rw [splice_all ((HX37.out p2).trans HZ37.out.symm)] at hrS
                have H8 := Lib.hid hrS
                have hHeld2 : Row ws66 w.heap.size 25 [.slice (some ⟨g, off, none⟩) m c, .slice A2 q c2, .int .i64 rd, .int .i64 fl] ∧ Row ws66 (w.heap.size + 1) 30 CK ∧ Row ws66 g5 32 (Au.wc b p) ∧ Below w.heap.size w ws66 := ⟨hHeld.1.kept hgS (fun e => by injection e with e; exact row_ne_row hHeld.1 H8o.out (by decide) e), hHeld.2.1.kept hgS (fun e => by injection e with e; exact row_ne_row hHeld.2.1 H8o.out (by decide) e), hHeld.2.2.1.kept hgS (fun e => by injection e with e; exact N85.out.1 e.symm), below_own hHeld.2.2.2 hgS (fun k hk => by cases hk; exact N85.out.2)⟩
                clear hrS hgS
                refine hK1.out _ _ (hHeld2) (fun hHeld => ?_)
                clear hK1 K1
                try simp only [Act.put, List.getElem_toArray, List.getElem_cons_succ, List.getElem_cons_zero, List.setIfInBounds_toArray, List.set_cons_zero, List.set_cons_succ]
                clear hHeld2
                refine wpAnyH_take (i := 19) (v := .bool true) rfl (by kernel_rfl) (by kernel_rfl) (by kernel_rfl) (fun _ _ _ h => h) (Or.inl ⟨by rfl, fun w' hSw => by go_simp⟩) hHeld ?_
                try simp only [Act.put, List.getElem_toArray, List.getElem_cons_succ, List.getElem_cons_zero, List.setIfInBounds_toArray, List.set_cons_zero, List.set_cons_succ]
                refine wpAnyH_done (by kernel_rfl) ?_ _
                have R8 := HXb.out p2 _ _ H8.out
                have R5 := HXb.out p _ _ hHeld.2.2.1
                have c8 := R8.2
                have c5 := R5.2
                have HR8 := Lib.hid R8.1
                have HR5 := Lib.hid R5.1
                have HBz := Lib.hid hHeld.2.2.2
                clear hHeld R8 R5
                have hbe := HBE.out
                go_wp2_with (first
                  | ((with_reducible show wpList _ _ _ (⟨_, .load 30 (.tmp 76), _, _, _, _⟩ :: _) _ _); refine wpList_load_tx rfl 30 (.tmp 76) rfl g8 0 (rfl) CB _ (HR8.out) Tryd.underlying30 rfl (by rw [bid_info, HB36.out]) ?_)
                  | ((with_reducible show wpList _ _ _ (⟨_, .load 30 (.tmp 78), _, _, _, _⟩ :: _) _ _); refine wpList_load_tx rfl 30 (.tmp 78) rfl g5 0 (rfl) CB _ (HR5.out) Tryd.underlying30 rfl (by rw [bid_info, HB36.out]) ?_))
                go_ret
                exact ⟨by first | rfl | simp, HBz.out⟩
              · skip
                try simp only [Act.put, List.getElem_toArray, List.getElem_cons_succ, List.getElem_cons_zero, List.setIfInBounds_toArray, List.set_cons_zero, List.set_cons_succ]
                rw [if_pos (by rfl)]
                refine wp_buildSlice 22 30 1 _ rfl CK.toArray i0 (.agg ZB.toArray) Tryd.underlying22 Hi.out Hz.out (by rw [Hsz.out]; decide) (by rw [Hsz.out]; decide) (by rw [Hsz.out, Array.toList_map]; exact fill_one15 36 (.agg ZB.toArray) CK HK36.out) ?_
                have hd68 := (Below.refl wz58.heap.size wz58).alloc (Nat.le_refl _) (.cells CK.toArray 30)
                have NEbN : Hid (wz58.heap.size ≠ gb) := Lib.hid (by have := (HO58.out.lt gb rfl).2; omega)
                replace HO58 := Lib.hid (HO58.out.below hd68)
                replace H8 := Lib.hid (H8.out.kept (grownBy_of_below hd68 none) (by simp))
                have hHeld2 : Row (wz58.alloc (.cells CK.toArray 30)) w.heap.size 25 [.slice (some ⟨g, off, none⟩) m c, .slice A2 q c2, .int .i64 rd, .int .i64 fl] ∧ Row (wz58.alloc (.cells CK.toArray 30)) (w.heap.size + 1) 30 CK ∧ Row (wz58.alloc (.cells CK.toArray 30)) g5 32 (Au.wc b p) ∧ Below w.heap.size w (wz58.alloc (.cells CK.toArray 30)) := ⟨hHeld.1.kept (grownBy_of_below hd68 none) (by simp), hHeld.2.1.kept (grownBy_of_below hd68 none) (by simp), hHeld.2.2.1.kept (grownBy_of_below hd68 none) (by simp), two_below' hHeld.2.2.2 hd68⟩
                have HN : Hid (Row (wz58.alloc (.cells CK.toArray 30)) wz58.heap.size 30 CK) := Lib.hid (Row.new wz58 30 CK)
                have HNlt : Hid (wz58.heap.size < (wz58.alloc (.cells CK.toArray 30)).heap.size) := Lib.hid HN.out.lt
                have LEwn67 : Hid (B0 ≤ (wz58.alloc (.cells CK.toArray 30)).heap.size) := Lib.hid (Nat.le_trans LEwz58.out hd68.size)
                generalize wz58.alloc (.cells CK.toArray 30) = wn67 at *
                generalize hgn : wz58.heap.size = gN at *
                clear hgn
                refine hK1.out _ _ (hHeld2) (fun hHeld => ?_)
                clear hK1 K1
                try simp only [Act.put, List.getElem_toArray, List.getElem_cons_succ, List.getElem_cons_zero, List.setIfInBounds_toArray, List.set_cons_zero, List.set_cons_succ]
                clear hHeld2
                refine wpAnyH_ready (rs := [3]) (by kernel_rfl) (by simp) (AllReadyH.cons rfl (fun K1 hK1 => ?_) AllReadyH.nil)
                try simp only [Act.put, List.getElem_toArray, List.getElem_cons_succ, List.getElem_cons_zero, List.setIfInBounds_toArray, List.set_cons_zero, List.set_cons_succ]
                rw [if_pos (by rfl)]
                refine wp_append_own_wide _ _ _ 22 rfl B0 30 i0 (.agg ZB.toArray) 36 64 Tryd.underlying22 Hi.out Hz.out Hsz.out Hby.out (by rw [← HZ36.out]; rfl) (by decide) (.slice (some ⟨gb, 0, none⟩) 0 0) _ _ rfl HO58.out.own ⟨g, off, none⟩ m c (Rw.flat Bd.cells L) rfl HFL.out.1 (HFL.out.2.2 _ hHeld.2.2.2) HFL.out.2.1 hk63.out.1 hk48.out.1 LEwn67.out ?_
                intro v61 wp69 hown hgrow _
                replace H8 := Lib.hid (H8.out.kept hgrow (fun e => HO58.out.ne_block H8.out (by decide) e.symm))
                replace HN := Lib.hid (HN.out.kept hgrow (fun e => by simp only [Value.ownBlock, Option.some.injEq] at e; exact absurd e NEbN.out))
                have hHeld2 : Row wp69 w.heap.size 25 [.slice (some ⟨g, off, none⟩) m c, .slice A2 q c2, .int .i64 rd, .int .i64 fl] ∧ Row wp69 (w.heap.size + 1) 30 CK ∧ Row wp69 g5 32 (Au.wc b p) ∧ Below w.heap.size w wp69 := ⟨hHeld.1.kept hgrow (fun e => by have := (HO58.out.lt _ e.symm).1; have := HG.out; omega), hHeld.2.1.kept hgrow (fun e => by have := (HO58.out.lt _ e.symm).1; have := HG.out; omega), hHeld.2.2.1.kept hgrow (fun e => by have := (HO58.out.lt _ e.symm).1; have := HG.out; omega), below_own hHeld.2.2.2 hgrow (fun k hk => by have := (HO58.out.lt _ hk).1; have := HG.out; omega)⟩
                have HO61 : Hid (OwnL wp69 B0 30 36 Bd.cells v61 L) := Lib.hid ⟨by rw [← HM.out]; simpa [Rw.flat_nil] using hown⟩
                have LEwp69 : Hid (B0 ≤ wp69.heap.size) := Lib.hid (Nat.le_trans LEwn67.out hgrow.size)
                clear hown hgrow
                refine hK1.out _ _ (hHeld2) (fun hHeld => ?_)
                clear hK1 K1
                try simp only [Act.put, List.getElem_toArray, List.getElem_cons_succ, List.getElem_cons_zero, List.setIfInBounds_toArray, List.set_cons_zero, List.set_cons_succ]
                clear hHeld2
                refine wpAnyH_ready (rs := [6]) (by kernel_rfl) (by simp) (AllReadyH.cons rfl (fun K1 hK1 => ?_) AllReadyH.nil)
                try simp only [Act.put, List.getElem_toArray, List.getElem_cons_succ, List.getElem_cons_zero, List.setIfInBounds_toArray, List.set_cons_zero, List.set_cons_succ]
                rw [if_pos (by rfl)]
                refine wp_append_own_wide _ _ _ 22 rfl B0 30 i0 (.agg ZB.toArray) 36 64 Tryd.underlying22 Hi.out Hz.out Hsz.out Hby.out (by rw [← HZ36.out]; rfl) (by decide) v61 _ _ rfl HO61.out.own ⟨gN, 0, none⟩ 1 1 CK rfl (by rw [HK36.out]) (row_news HN.out) HK1.out hk63.out.2 hk48.out.2 LEwp69.out ?_
                intro v64 wp70 hown hgrow _
                replace H8 := Lib.hid (H8.out.kept hgrow (fun e => HO61.out.ne_block H8.out (by decide) e.symm))
                have hHeld2 : Row wp70 w.heap.size 25 [.slice (some ⟨g, off, none⟩) m c, .slice A2 q c2, .int .i64 rd, .int .i64 fl] ∧ Row wp70 (w.heap.size + 1) 30 CK ∧ Row wp70 g5 32 (Au.wc b p) ∧ Below w.heap.size w wp70 := ⟨hHeld.1.kept hgrow (fun e => by have := (HO61.out.lt _ e.symm).1; have := HG.out; omega), hHeld.2.1.kept hgrow (fun e => by have := (HO61.out.lt _ e.symm).1; have := HG.out; omega), hHeld.2.2.1.kept hgrow (fun e => by have := (HO61.out.lt _ e.symm).1; have := HG.out; omega), below_own hHeld.2.2.2 hgrow (fun k hk => by have := (HO61.out.lt _ hk).1; have := HG.out; omega)⟩
                have HO64 : Hid (OwnL wp70 B0 30 36 Bd.cells v64 (L ++ [x])) := Lib.hid (OwnL.pushed (by rw [HCK.out]; exact hown))
                have LEwp70 : Hid (B0 ≤ wp70.heap.size) := Lib.hid (Nat.le_trans LEwp69.out hgrow.size)
                clear hown hgrow
                refine hK1.out _ _ (hHeld2) (fun hHeld => ?_)
                clear hK1 K1
                try simp only [Act.put, List.getElem_toArray, List.getElem_cons_succ, List.getElem_cons_zero, List.setIfInBounds_toArray, List.set_cons_zero, List.set_cons_succ]
                clear hHeld2
                refine wpAnyH_ready (rs := [13]) (by kernel_rfl) (by simp) (AllReadyH.cons rfl (fun K1 hK1 => ?_) AllReadyH.nil)
                try simp only [Act.put, List.getElem_toArray, List.getElem_cons_succ, List.getElem_cons_zero, List.setIfInBounds_toArray, List.set_cons_zero, List.set_cons_succ]
                go_simp
                refine Calls.mono (WT.out _ _ hHeld.2.2.2 HO64.out) ?_
                rintro e wv71 ⟨rfl, hc72⟩
                replace H8 := Lib.hid (H8.out.kept (grownBy_of_below hc72 none) (by simp))
                have LEwv71 : Hid (B0 ≤ wv71.heap.size) := Lib.hid (Nat.le_trans LEwp70.out hc72.size)
                refine hK1.out _ _ (⟨hHeld.1.kept (grownBy_of_below hc72 none) (by simp), hHeld.2.1.kept (grownBy_of_below hc72 none) (by simp), hHeld.2.2.1.kept (grownBy_of_below hc72 none) (by simp), two_below' hHeld.2.2.2 hc72⟩) (fun hHeld => ?_)
                clear hK1 K1
                try simp only [Act.put, List.getElem_toArray, List.getElem_cons_succ, List.getElem_cons_zero, List.setIfInBounds_toArray, List.set_cons_zero, List.set_cons_succ]
                refine wpAnyH_take (i := 14) (v := .tuple #[.agg (Au.wc b p2).toArray, .bool true]) rfl (by kernel_rfl) (by kernel_rfl) (by kernel_rfl) (fun _ _ _ h => h) (Or.inl ⟨by rfl, fun w' hSw => by go_simp⟩) hHeld ?_
                try simp only [Act.put, List.getElem_toArray, List.getElem_cons_succ, List.getElem_cons_zero, List.setIfInBounds_toArray, List.set_cons_zero, List.set_cons_succ]
                refine wpAnyH_take (i := 15) (v := .agg (Au.wc b p2).toArray) rfl (by kernel_rfl) (by kernel_rfl) (by kernel_rfl) (fun _ _ _ h => h) (Or.inl ⟨by rfl, fun w' hSw => by go_simp⟩) hHeld ?_
                try simp only [Act.put, List.getElem_toArray, List.getElem_cons_succ, List.getElem_cons_zero, List.setIfInBounds_toArray, List.set_cons_zero, List.set_cons_succ]
                refine wpAnyH_take (i := 16) (v := .bool true) rfl (by kernel_rfl) (by kernel_rfl) (by kernel_rfl) (fun _ _ _ h => h) (Or.inl ⟨by rfl, fun w' hSw => by go_simp⟩) hHeld ?_
                try simp only [Act.put, List.getElem_toArray, List.getElem_cons_succ, List.getElem_cons_zero, List.setIfInBounds_toArray, List.set_cons_zero, List.set_cons_succ]
                refine wpAnyH_ready (rs := [18]) (by kernel_rfl) (by simp) (AllReadyH.cons rfl (fun K1 hK1 => ?_) AllReadyH.nil)
                try simp only [Act.put, List.getElem_toArray, List.getElem_cons_succ, List.getElem_cons_zero, List.setIfInBounds_toArray, List.set_cons_zero, List.set_cons_succ]
                rw [if_pos (by rfl)]
                refine wp_store_at 32 (.tmp 8) (.tmp 72) rfl g8 0 (Au.wc b p2) ZW 32 rfl rfl H8.out (by rw [HX37.out, HZ37.out]; omega) (by rw [win_size, HX37.out]) (HX1.out p2) ?_
                have H8o := H8
                intro ws73 hrS hgS
                rw [splice_all ((HX37.out p2).trans HZ37.out.symm)] at hrS
                have H8 := Lib.hid hrS
                have hHeld2 : Row ws73 w.heap.size 25 [.slice (some ⟨g, off, none⟩) m c, .slice A2 q c2, .int .i64 rd, .int .i64 fl] ∧ Row ws73 (w.heap.size + 1) 30 CK ∧ Row ws73 g5 32 (Au.wc b p) ∧ Below w.heap.size w ws73 := ⟨hHeld.1.kept hgS (fun e => by injection e with e; exact row_ne_row hHeld.1 H8o.out (by decide) e), hHeld.2.1.kept hgS (fun e => by injection e with e; exact row_ne_row hHeld.2.1 H8o.out (by decide) e), hHeld.2.2.1.kept hgS (fun e => by injection e with e; exact N85.out.1 e.symm), below_own hHeld.2.2.2 hgS (fun k hk => by cases hk; exact N85.out.2)⟩
                clear hrS hgS
                refine hK1.out _ _ (hHeld2) (fun hHeld => ?_)
                clear hK1 K1
                try simp only [Act.put, List.getElem_toArray, List.getElem_cons_succ, List.getElem_cons_zero, List.setIfInBounds_toArray, List.set_cons_zero, List.set_cons_succ]
                clear hHeld2
                refine wpAnyH_take (i := 19) (v := .bool true) rfl (by kernel_rfl) (by kernel_rfl) (by kernel_rfl) (fun _ _ _ h => h) (Or.inl ⟨by rfl, fun w' hSw => by go_simp⟩) hHeld ?_
                try simp only [Act.put, List.getElem_toArray, List.getElem_cons_succ, List.getElem_cons_zero, List.setIfInBounds_toArray, List.set_cons_zero, List.set_cons_succ]
                refine wpAnyH_done (by kernel_rfl) ?_ _
                have R8 := HXb.out p2 _ _ H8.out
                have R5 := HXb.out p _ _ hHeld.2.2.1
                have c8 := R8.2
                have c5 := R5.2
                have HR8 := Lib.hid R8.1
                have HR5 := Lib.hid R5.1
                have HBz := Lib.hid hHeld.2.2.2
                clear hHeld R8 R5
                have hbe := HBE.out
                go_wp2_with (first
                  | ((with_reducible show wpList _ _ _ (⟨_, .load 30 (.tmp 76), _, _, _, _⟩ :: _) _ _); refine wpList_load_tx rfl 30 (.tmp 76) rfl g8 0 (rfl) CB _ (HR8.out) Tryd.underlying30 rfl (by rw [bid_info, HB36.out]) ?_)
                  | ((with_reducible show wpList _ _ _ (⟨_, .load 30 (.tmp 78), _, _, _, _⟩ :: _) _ _); refine wpList_load_tx rfl 30 (.tmp 78) rfl g5 0 (rfl) CB _ (HR5.out) Tryd.underlying30 rfl (by rw [bid_info, HB36.out]) ?_))
                go_ret
                exact ⟨by first | rfl | simp, HBz.out⟩
          · skip
            try simp only [Act.put, List.getElem_toArray, List.getElem_cons_succ, List.getElem_cons_zero, List.setIfInBounds_toArray, List.set_cons_zero, List.set_cons_succ]
            rw [if_pos (by rfl)]
            refine wp_buildSlice 22 30 1 _ rfl CK.toArray i0 (.agg ZB.toArray) Tryd.underlying22 Hi.out Hz.out (by rw [Hsz.out]; decide) (by rw [Hsz.out]; decide) (by rw [Hsz.out, Array.toList_map]; exact fill_one15 36 (.agg ZB.toArray) CK HK36.out) ?_
            have hd75 := (Below.refl wq.heap.size wq).alloc (Nat.le_refl _) (.cells CK.toArray 30)
            have hHeld2 : Row (wq.alloc (.cells CK.toArray 30)) w.heap.size 25 [.slice (some ⟨g, off, none⟩) m c, .slice A2 q c2, .int .i64 rd, .int .i64 fl] ∧ Row (wq.alloc (.cells CK.toArray 30)) (w.heap.size + 1) 30 CK ∧ Row (wq.alloc (.cells CK.toArray 30)) g5 32 (Au.wc b p) ∧ Below w.heap.size w (wq.alloc (.cells CK.toArray 30)) := ⟨hHeld.1.kept (grownBy_of_below hd75 none) (by simp), hHeld.2.1.kept (grownBy_of_below hd75 none) (by simp), hHeld.2.2.1.kept (grownBy_of_below hd75 none) (by simp), two_below' hHeld.2.2.2 hd75⟩
            have HN : Hid (Row (wq.alloc (.cells CK.toArray 30)) wq.heap.size 30 CK) := Lib.hid (Row.new wq 30 CK)
            have HNlt : Hid (wq.heap.size < (wq.alloc (.cells CK.toArray 30)).heap.size) := Lib.hid HN.out.lt
            have LEwn74 : Hid (B0 ≤ (wq.alloc (.cells CK.toArray 30)).heap.size) := Lib.hid (Nat.le_trans HBB.out hd75.size)
            generalize wq.alloc (.cells CK.toArray 30) = wn74 at *
            generalize hgn : wq.heap.size = gN at *
            clear hgn
            refine hK1.out _ _ (hHeld2) (fun hHeld => ?_)
            clear hK1 K1
            try simp only [Act.put, List.getElem_toArray, List.getElem_cons_succ, List.getElem_cons_zero, List.setIfInBounds_toArray, List.set_cons_zero, List.set_cons_succ]
            clear hHeld2
            refine wpAnyH_ready (rs := [0, 17]) (by kernel_rfl) (by simp) (AllReadyH.cons rfl (fun K1 hK1 => ?_) (AllReadyH.cons rfl (fun K1 hK1 => ?_) AllReadyH.nil))
            · skip
              try simp only [Act.put, List.getElem_toArray, List.getElem_cons_succ, List.getElem_cons_zero, List.setIfInBounds_toArray, List.set_cons_zero, List.set_cons_succ]
              go_simp
              have NEbN : Hid (gN ≠ wn74.heap.size) := Lib.hid (by have := HN.out.lt; omega)
              have hd77 := (Below.refl wn74.heap.size wn74).alloc (Nat.le_refl _) (.cells #[] 30)
              replace HN := Lib.hid (HN.out.kept (grownBy_of_below hd77 none) (by simp))
              have HBs := Lib.hid hHeld
              have hHeld2 : Row (wn74.alloc (.cells #[] 30)) w.heap.size 25 [.slice (some ⟨g, off, none⟩) m c, .slice A2 q c2, .int .i64 rd, .int .i64 fl] ∧ Row (wn74.alloc (.cells #[] 30)) (w.heap.size + 1) 30 CK ∧ Row (wn74.alloc (.cells #[] 30)) g5 32 (Au.wc b p) ∧ Below w.heap.size w (wn74.alloc (.cells #[] 30)) := ⟨hHeld.1.kept (grownBy_of_below hd77 none) (by simp), hHeld.2.1.kept (grownBy_of_below hd77 none) (by simp), hHeld.2.2.1.kept (grownBy_of_below hd77 none) (by simp), two_below' hHeld.2.2.2 hd77⟩
              have HO58 : Hid (OwnL (wn74.alloc (.cells #[] 30)) B0 30 36 Bd.cells (.slice (some ⟨wn74.heap.size, 0, none⟩) 0 0) []) := Lib.hid (row_own (Row.new wn74 30 []) LEwn74.out rfl (Nat.le_refl _) (by unfold maxLen; omega) rfl rfl rfl)
              have LEwb76 : Hid (B0 ≤ (wn74.alloc (.cells #[] 30)).heap.size) := Lib.hid (Nat.le_trans LEwn74.out hd77.size)
              generalize wn74.alloc (.cells #[] 30) = wb76 at *
              generalize hgb : wn74.heap.size = gb at *
              have HGB := Lib.hid hgb
              clear hgb
              refine hK1.out _ _ (hHeld2) (fun hHeld => ?_)
              clear hK1 K1
              try simp only [Act.put, List.getElem_toArray, List.getElem_cons_succ, List.getElem_cons_zero, List.setIfInBounds_toArray, List.set_cons_zero, List.set_cons_succ]
              clear hHeld2
              refine wpAnyH_ready (rs := [3, 17]) (by kernel_rfl) (by simp) (AllReadyH.cons rfl (fun K1 hK1 => ?_) (AllReadyH.cons rfl (fun K1 hK1 => ?_) AllReadyH.nil))
              · skip
                try simp only [Act.put, List.getElem_toArray, List.getElem_cons_succ, List.getElem_cons_zero, List.setIfInBounds_toArray, List.set_cons_zero, List.set_cons_succ]
                rw [if_pos (by rfl)]
                refine wp_append_own_wide _ _ _ 22 rfl B0 30 i0 (.agg ZB.toArray) 36 64 Tryd.underlying22 Hi.out Hz.out Hsz.out Hby.out (by rw [← HZ36.out]; rfl) (by decide) (.slice (some ⟨gb, 0, none⟩) 0 0) _ _ rfl HO58.out.own ⟨g, off, none⟩ m c (Rw.flat Bd.cells L) rfl HFL.out.1 (HFL.out.2.2 _ hHeld.2.2.2) HFL.out.2.1 hk63.out.1 hk48.out.1 LEwb76.out ?_
                intro v61 wp78 hown hgrow _
                replace HN := Lib.hid (HN.out.kept hgrow (fun e => by simp only [Value.ownBlock, Option.some.injEq] at e; exact absurd e NEbN.out))
                have hHeld2 : Row wp78 w.heap.size 25 [.slice (some ⟨g, off, none⟩) m c, .slice A2 q c2, .int .i64 rd, .int .i64 fl] ∧ Row wp78 (w.heap.size + 1) 30 CK ∧ Row wp78 g5 32 (Au.wc b p) ∧ Below w.heap.size w wp78 := ⟨hHeld.1.kept hgrow (fun e => by have := (HO58.out.lt _ e.symm).1; have := HG.out; omega), hHeld.2.1.kept hgrow (fun e => by have := (HO58.out.lt _ e.symm).1; have := HG.out; omega), hHeld.2.2.1.kept hgrow (fun e => by have := (HO58.out.lt _ e.symm).1; have := HG.out; omega), below_own hHeld.2.2.2 hgrow (fun k hk => by have := (HO58.out.lt _ hk).1; have := HG.out; omega)⟩
                have HO61 : Hid (OwnL wp78 B0 30 36 Bd.cells v61 L) := Lib.hid ⟨by rw [← HM.out]; simpa [Rw.flat_nil] using hown⟩
                have LEwp78 : Hid (B0 ≤ wp78.heap.size) := Lib.hid (Nat.le_trans LEwb76.out hgrow.size)
                clear hown hgrow
                refine hK1.out _ _ (hHeld2) (fun hHeld => ?_)
                clear hK1 K1
                try simp only [Act.put, List.getElem_toArray, List.getElem_cons_succ, List.getElem_cons_zero, List.setIfInBounds_toArray, List.set_cons_zero, List.set_cons_succ]
                clear hHeld2
                refine wpAnyH_ready (rs := [6, 17]) (by kernel_rfl) (by simp) (AllReadyH.cons rfl (fun K1 hK1 => ?_) (AllReadyH.cons rfl (fun K1 hK1 => ?_) AllReadyH.nil))
                · skip
                  try simp only [Act.put, List.getElem_toArray, List.getElem_cons_succ, List.getElem_cons_zero, List.setIfInBounds_toArray, List.set_cons_zero, List.set_cons_succ]
                  rw [if_pos (by rfl)]
                  refine wp_append_own_wide _ _ _ 22 rfl B0 30 i0 (.agg ZB.toArray) 36 64 Tryd.underlying22 Hi.out Hz.out Hsz.out Hby.out (by rw [← HZ36.out]; rfl) (by decide) v61 _ _ rfl HO61.out.own ⟨gN, 0, none⟩ 1 1 CK rfl (by rw [HK36.out]) (row_news HN.out) HK1.out hk63.out.2 hk48.out.2 LEwp78.out ?_
                  intro v64 wp79 hown hgrow _
                  have hHeld2 : Row wp79 w.heap.size 25 [.slice (some ⟨g, off, none⟩) m c, .slice A2 q c2, .int .i64 rd, .int .i64 fl] ∧ Row wp79 (w.heap.size + 1) 30 CK ∧ Row wp79 g5 32 (Au.wc b p) ∧ Below w.heap.size w wp79 := ⟨hHeld.1.kept hgrow (fun e => by have := (HO61.out.lt _ e.symm).1; have := HG.out; omega), hHeld.2.1.kept hgrow (fun e => by have := (HO61.out.lt _ e.symm).1; have := HG.out; omega), hHeld.2.2.1.kept hgrow (fun e => by have := (HO61.out.lt _ e.symm).1; have := HG.out; omega), below_own hHeld.2.2.2 hgrow (fun k hk => by have := (HO61.out.lt _ hk).1; have := HG.out; omega)⟩
                  have HO64 : Hid (OwnL wp79 B0 30 36 Bd.cells v64 (L ++ [x])) := Lib.hid (OwnL.pushed (by rw [HCK.out]; exact hown))
                  have LEwp79 : Hid (B0 ≤ wp79.heap.size) := Lib.hid (Nat.le_trans LEwp78.out hgrow.size)
                  clear hown hgrow
                  refine hK1.out _ _ (hHeld2) (fun hHeld => ?_)
                  clear hK1 K1
                  try simp only [Act.put, List.getElem_toArray, List.getElem_cons_succ, List.getElem_cons_zero, List.setIfInBounds_toArray, List.set_cons_zero, List.set_cons_succ]
                  clear hHeld2
                  refine wpAnyH_ready (rs := [13, 17]) (by kernel_rfl) (by simp) (AllReadyH.cons rfl (fun K1 hK1 => ?_) (AllReadyH.cons rfl (fun K1 hK1 => ?_) AllReadyH.nil))
                  · skip
                    try simp only [Act.put, List.getElem_toArray, List.getElem_cons_succ, List.getElem_cons_zero, List.setIfInBounds_toArray, List.set_cons_zero, List.set_cons_succ]
                    go_simp
                    refine Calls.mono (WT.out _ _ hHeld.2.2.2 HO64.out) ?_
                    rintro e wv80 ⟨rfl, hc81⟩
                    have LEwv80 : Hid (B0 ≤ wv80.heap.size) := Lib.hid (Nat.le_trans LEwp79.out hc81.size)
                    refine hK1.out _ _ (⟨hHeld.1.kept (grownBy_of_below hc81 none) (by simp), hHeld.2.1.kept (grownBy_of_below hc81 none) (by simp), hHeld.2.2.1.kept (grownBy_of_below hc81 none) (by simp), two_below' hHeld.2.2.2 hc81⟩) (fun hHeld => ?_)
                    clear hK1 K1
                    try simp only [Act.put, List.getElem_toArray, List.getElem_cons_succ, List.getElem_cons_zero, List.setIfInBounds_toArray, List.set_cons_zero, List.set_cons_succ]
                    refine wpAnyH_take (i := 14) (v := .tuple #[.agg (Au.wc b p2).toArray, .bool true]) rfl (by kernel_rfl) (by kernel_rfl) (by kernel_rfl) (fun _ _ _ h => h) (Or.inl ⟨by rfl, fun w' hSw => by go_simp⟩) hHeld ?_
                    try simp only [Act.put, List.getElem_toArray, List.getElem_cons_succ, List.getElem_cons_zero, List.setIfInBounds_toArray, List.set_cons_zero, List.set_cons_succ]
                    refine wpAnyH_take (i := 15) (v := .agg (Au.wc b p2).toArray) rfl (by kernel_rfl) (by kernel_rfl) (by kernel_rfl) (fun _ _ _ h => h) (Or.inl ⟨by rfl, fun w' hSw => by go_simp⟩) hHeld ?_
                    try simp only [Act.put, List.getElem_toArray, List.getElem_cons_succ, List.getElem_cons_zero, List.setIfInBounds_toArray, List.set_cons_zero, List.set_cons_succ]
                    refine wpAnyH_take (i := 16) (v := .bool true) rfl (by kernel_rfl) (by kernel_rfl) (by kernel_rfl) (fun _ _ _ h => h) (Or.inl ⟨by rfl, fun w' hSw => by go_simp⟩) hHeld ?_
                    try simp only [Act.put, List.getElem_toArray, List.getElem_cons_succ, List.getElem_cons_zero, List.setIfInBounds_toArray, List.set_cons_zero, List.set_cons_succ]
                    refine wpAnyH_ready (rs := [17]) (by kernel_rfl) (by simp) (AllReadyH.cons rfl (fun K1 hK1 => ?_) AllReadyH.nil)
                    try simp only [Act.put, List.getElem_toArray, List.getElem_cons_succ, List.getElem_cons_zero, List.setIfInBounds_toArray, List.set_cons_zero, List.set_cons_succ]
                    go_simp
                    have hd83 := (Below.refl wv80.heap.size wv80).alloc (Nat.le_refl _) (.cells ZW.toArray 32)
                    have hHeld2 : Row (wv80.alloc (.cells ZW.toArray 32)) w.heap.size 25 [.slice (some ⟨g, off, none⟩) m c, .slice A2 q c2, .int .i64 rd, .int .i64 fl] ∧ Row (wv80.alloc (.cells ZW.toArray 32)) (w.heap.size + 1) 30 CK ∧ Row (wv80.alloc (.cells ZW.toArray 32)) g5 32 (Au.wc b p) ∧ Below w.heap.size w (wv80.alloc (.cells ZW.toArray 32)) := ⟨hHeld.1.kept (grownBy_of_below hd83 none) (by simp), hHeld.2.1.kept (grownBy_of_below hd83 none) (by simp), hHeld.2.2.1.kept (grownBy_of_below hd83 none) (by simp), two_below' hHeld.2.2.2 hd83⟩
                    have H8 : Hid (Row (wv80.alloc (.cells ZW.toArray 32)) wv80.heap.size 32 ZW) := Lib.hid (Row.new wv80 32 ZW)
                    have N85 : Hid (wv80.heap.size ≠ g5 ∧ w.heap.size ≤ wv80.heap.size) := Lib.hid ⟨by have := hHeld.2.2.1.lt; omega, hHeld.2.2.2.size⟩
                    have LEwz82 : Hid (B0 ≤ (wv80.alloc (.cells ZW.toArray 32)).heap.size) := Lib.hid (Nat.le_trans LEwv80.out hd83.size)
                    generalize wv80.alloc (.cells ZW.toArray 32) = wz82 at *
                    generalize hg8 : wv80.heap.size = g8 at *
                    clear hg8
                    refine hK1.out _ _ (hHeld2) (fun hHeld => ?_)
                    clear hK1 K1
                    try simp only [Act.put, List.getElem_toArray, List.getElem_cons_succ, List.getElem_cons_zero, List.setIfInBounds_toArray, List.set_cons_zero, List.set_cons_succ]
                    clear hHeld2
                    refine wpAnyH_ready (rs := [18]) (by kernel_rfl) (by simp) (AllReadyH.cons rfl (fun K1 hK1 => ?_) AllReadyH.nil)
                    try simp only [Act.put, List.getElem_toArray, List.getElem_cons_succ, List.getElem_cons_zero, List.setIfInBounds_toArray, List.set_cons_zero, List.set_cons_succ]
                    rw [if_pos (by rfl)]
                    refine wp_store_at 32 (.tmp 8) (.tmp 72) rfl g8 0 (Au.wc b p2) ZW 32 rfl rfl H8.out (by rw [HX37.out, HZ37.out]; omega) (by rw [win_size, HX37.out]) (HX1.out p2) ?_
                    have H8o := H8
                    intro ws84 hrS hgS
                    rw [splice_all ((HX37.out p2).trans HZ37.out.symm)] at hrS
                    have H8 := Lib.hid hrS
                    have hHeld2 : Row ws84 w.heap.size 25 [.slice (some ⟨g, off, none⟩) m c, .slice A2 q c2, .int .i64 rd, .int .i64 fl] ∧ Row ws84 (w.heap.size + 1) 30 CK ∧ Row ws84 g5 32 (Au.wc b p) ∧ Below w.heap.size w ws84 := ⟨hHeld.1.kept hgS (fun e => by injection e with e; exact row_ne_row hHeld.1 H8o.out (by decide) e), hHeld.2.1.kept hgS (fun e => by injection e with e; exact row_ne_row hHeld.2.1 H8o.out (by decide) e), hHeld.2.2.1.kept hgS (fun e => by injection e with e; exact N85.out.1 e.symm), below_own hHeld.2.2.2 hgS (fun k hk => by cases hk; exact N85.out.2)⟩
                    clear hrS hgS
                    refine hK1.out _ _ (hHeld2) (fun hHeld => ?_)
                    clear hK1 K1
                    try simp only [Act.put, List.getElem_toArray, List.getElem_cons_succ, List.getElem_cons_zero, List.setIfInBounds_toArray, List.set_cons_zero, List.set_cons_succ]
                    clear hHeld2
                    refine wpAnyH_take (i := 19) (v := .bool true) rfl (by kernel_rfl) (by kernel_rfl) (by kernel_rfl) (fun _ _ _ h => h) (Or.inl ⟨by rfl, fun w' hSw => by go_simp⟩) hHeld ?_
                    try simp only [Act.put, List.getElem_toArray, List.getElem_cons_succ, List.getElem_cons_zero, List.setIfInBounds_toArray, List.set_cons_zero, List.set_cons_succ]
                    refine wpAnyH_done (by kernel_rfl) ?_ _
                    have R8 := HXb.out p2 _ _ H8.out
                    have R5 := HXb.out p _ _ hHeld.2.2.1
                    have c8 := R8.2
                    have c5 := R5.2
                    have HR8 := Lib.hid R8.1
                    have HR5 := Lib.hid R5.1
                    have HBz := Lib.hid hHeld.2.2.2
                    clear hHeld R8 R5
                    have hbe := HBE.out
                    go_wp2_with (first
                      | ((with_reducible show wpList _ _ _ (⟨_, .load 30 (.tmp 76), _, _, _, _⟩ :: _) _ _); refine wpList_load_tx rfl 30 (.tmp 76) rfl g8 0 (rfl) CB _ (HR8.out) Tryd.underlying30 rfl (by rw [bid_info, HB36.out]) ?_)
                      | ((with_reducible show wpList _ _ _ (⟨_, .load 30 (.tmp 78), _, _, _, _⟩ :: _) _ _); refine wpList_load_tx rfl 30 (.tmp 78) rfl g5 0 (rfl) CB _ (HR5.out) Tryd.underlying30 rfl (by rw [bid_info, HB36.out]) ?_))
                    go_ret
                    exact ⟨by first | rfl | simp, HBz.out⟩
                  · skip
                    try simp only [Act.put, List.getElem_toArray, List.getElem_cons_succ, List.getElem_cons_zero, List.setIfInBounds_toArray, List.set_cons_zero, List.set_cons_succ]
                    go_simp
                    have hd86 := (Below.refl wp79.heap.size wp79).alloc (Nat.le_refl _) (.cells ZW.toArray 32)
                    replace HO64 := Lib.hid (HO64.out.below hd86)
                    have hHeld2 : Row (wp79.alloc (.cells ZW.toArray 32)) w.heap.size 25 [.slice (some ⟨g, off, none⟩) m c, .slice A2 q c2, .int .i64 rd, .int .i64 fl] ∧ Row (wp79.alloc (.cells ZW.toArray 32)) (w.heap.size + 1) 30 CK ∧ Row (wp79.alloc (.cells ZW.toArray 32)) g5 32 (Au.wc b p) ∧ Below w.heap.size w (wp79.alloc (.cells ZW.toArray 32)) := ⟨hHeld.1.kept (grownBy_of_below hd86 none) (by simp), hHeld.2.1.kept (grownBy_of_below hd86 none) (by simp), hHeld.2.2.1.kept (grownBy_of_below hd86 none) (by simp), two_below' hHeld.2.2.2 hd86⟩
                    have H8 : Hid (Row (wp79.alloc (.cells ZW.toArray 32)) wp79.heap.size 32 ZW) := Lib.hid (Row.new wp79 32 ZW)
                    have N85 : Hid (wp79.heap.size ≠ g5 ∧ w.heap.size ≤ wp79.heap.size) := Lib.hid ⟨by have := hHeld.2.2.1.lt; omega, hHeld.2.2.2.size⟩
                    have LEwz85 : Hid (B0 ≤ (wp79.alloc (.cells ZW.toArray 32)).heap.size) := Lib.hid (Nat.le_trans LEwp79.out hd86.size)
                    generalize wp79.alloc (.cells ZW.toArray 32) = wz85 at *
                    generalize hg8 : wp79.heap.size = g8 at *
                    clear hg8
                    refine hK1.out _ _ (hHeld2) (fun hHeld => ?_)
                    clear hK1 K1
                    try simp only [Act.put, List.getElem_toArray, List.getElem_cons_succ, List.getElem_cons_zero, List.setIfInBounds_toArray, List.set_cons_zero, List.set_cons_succ]
                    clear hHeld2
                    refine wpAnyH_ready (rs := [13]) (by kernel_rfl) (by simp) (AllReadyH.cons rfl (fun K1 hK1 => ?_) AllReadyH.nil)
                    try simp only [Act.put, List.getElem_toArray, List.getElem_cons_succ, List.getElem_cons_zero, List.setIfInBounds_toArray, List.set_cons_zero, List.set_cons_succ]
                    go_simp
                    refine Calls.mono (WT.out _ _ hHeld.2.2.2 HO64.out) ?_
                    rintro e wv87 ⟨rfl, hc88⟩
                    replace H8 := Lib.hid (H8.out.kept (grownBy_of_below hc88 none) (by simp))
                    have LEwv87 : Hid (B0 ≤ wv87.heap.size) := Lib.hid (Nat.le_trans LEwz85.out hc88.size)
                    refine hK1.out _ _ (⟨hHeld.1.kept (grownBy_of_below hc88 none) (by simp), hHeld.2.1.kept (grownBy_of_below hc88 none) (by simp), hHeld.2.2.1.kept (grownBy_of_below hc88 none) (by simp), two_below' hHeld.2.2.2 hc88⟩) (fun hHeld => ?_)
                    clear hK1 K1
                    try simp only [Act.put, List.getElem_toArray, List.getElem_cons_succ, List.getElem_cons_zero, List.setIfInBounds_toArray, List.set_cons_zero, List.set_cons_succ]
                    refine wpAnyH_take (i := 14) (v := .tuple #[.agg (Au.wc b p2).toArray, .bool true]) rfl (by kernel_rfl) (by kernel_rfl) (by kernel_rfl) (fun _ _ _ h => h) (Or.inl ⟨by rfl, fun w' hSw => by go_simp⟩) hHeld ?_
                    try simp only [Act.put, List.getElem_toArray, List.getElem_cons_succ, List.getElem_cons_zero, List.setIfInBounds_toArray, List.set_cons_zero, List.set_cons_succ]
                    refine wpAnyH_take (i := 15) (v := .agg (Au.wc b p2).toArray) rfl (by kernel_rfl) (by kernel_rfl) (by kernel_rfl) (fun _ _ _ h => h) (Or.inl ⟨by rfl, fun w' hSw => by go_simp⟩) hHeld ?_
                    try simp only [Act.put, List.getElem_toArray, List.getElem_cons_succ, List.getElem_cons_zero, List.setIfInBounds_toArray, List.set_cons_zero, List.set_cons_succ]
                    refine wpAnyH_take (i := 16) (v := .bool true) rfl (by kernel_rfl) (by kernel_rfl) (by kernel_rfl) (fun _ _ _ h => h) (Or.inl ⟨by rfl, fun w' hSw => by go_simp⟩) hHeld ?_
                    try simp only [Act.put, List.getElem_toArray, List.getElem_cons_succ, List.getElem_cons_zero, List.setIfInBounds_toArray, List.set_cons_zero, List.set_cons_succ]
                    refine wpAnyH_ready (rs := [18]) (by kernel_rfl) (by simp) (AllReadyH.cons rfl (fun K1 hK1 => ?_) AllReadyH.nil)
                    try simp only [Act.put, List.getElem_toArray, List.getElem_cons_succ, List.getElem_cons_zero, List.setIfInBounds_toArray, List.set_cons_zero, List.set_cons_succ]
                    rw [if_pos (by rfl)]
                    refine wp_store_at 32 (.tmp 8) (.tmp 72) rfl g8 0 (Au.wc b p2) ZW 32 rfl rfl H8.out (by rw [HX37.out, HZ37.out]; omega) (by rw [win_size, HX37.out]) (HX1.out p2) ?_
                    have H8o := H8
                    intro ws89 hrS hgS
                    rw [splice_all ((HX37.out p2).trans HZ37.out.symm)] at hrS
                    have H8 := Lib.hid hrS
                    have hHeld2 : Row ws89 w.heap.size 25 [.slice (some ⟨g, off, none⟩) m c, .slice A2 q c2, .int .i64 rd, .int .i64 fl] ∧ Row ws89 (w.heap.size + 1) 30 CK ∧ Row ws89 g5 32 (Au.wc b p) ∧ Below w.heap.size w ws89 := ⟨hHeld.1.kept hgS (fun e => by injection e with e; exact row_ne_row hHeld.1 H8o.out (by decide) e), hHeld.2.1.kept hgS (fun e => by injection e with e; exact row_ne_row hHeld.2.1 H8o.out (by decide) e), hHeld.2.2.1.kept hgS (fun e => by injection e with e; exact N85.out.1 e.symm), below_own hHeld.2.2.2 hgS (fun k hk => by cases hk; exact N85.out.2)⟩
                    clear hrS hgS
                    refine hK1.out _ _ (hHeld2) (fun hHeld => ?_)
                    clear hK1 K1
                    try simp only [Act.put, List.getElem_toArray, List.getElem_cons_succ, List.getElem_cons_zero, List.setIfInBounds_toArray, List.set_cons_zero, List.set_cons_succ]
                    clear hHeld2
                    refine wpAnyH_take (i := 19) (v := .bool true) rfl (by kernel_rfl) (by kernel_rfl) (by kernel_rfl) (fun _ _ _ h => h) (Or.inl ⟨by rfl, fun w' hSw => by go_simp⟩) hHeld ?_
                    try simp only [Act.put, List.getElem_toArray, List.getElem_cons_succ, List.getElem_cons_zero, List.setIfInBounds_toArray, List.set_cons_zero, List.set_cons_succ]
                    refine wpAnyH_done (by kernel_rfl) ?_ _
                    have R8 := HXb.out p2 _ _ H8.out
                    have R5 := HXb.out p _ _ hHeld.2.2.1
                    have c8 := R8.2
                    have c5 := R5.2
                    have HR8 := Lib.hid R8.1
                    have HR5 := Lib.hid R5.1
                    have HBz := Lib.hid hHeld.2.2.2
                    clear hHeld R8 R5
                    have hbe := HBE.out
                    go_wp2_with (first
                      | ((with_reducible show wpList _ _ _ (⟨_, .load 30 (.tmp 76), _, _, _, _⟩ :: _) _ _); refine wpList_load_tx rfl 30 (.tmp 76) rfl g8 0 (rfl) CB _ (HR8.out) Tryd.underlying30 rfl (by rw [bid_info, HB36.out]) ?_)
                      | ((with_reducible show wpList _ _ _ (⟨_, .load 30 (.tmp 78), _, _, _, _⟩ :: _) _ _); refine wpList_load_tx rfl 30 (.tmp 78) rfl g5 0 (rfl) CB _ (HR5.out) Tryd.underlying30 rfl (by rw [bid_info, HB36.out]) ?_))
                    go_ret
                    exact ⟨by first | rfl | simp, HBz.out⟩
                · skip
                  try simp only [Act.put, List.getElem_toArray, List.getElem_cons_succ, List.getElem_cons_zero, List.setIfInBounds_toArray, List.set_cons_zero, List.set_cons_succ]
                  go_simp
                  have hd91 := (Below.refl wp78.heap.size wp78).alloc (Nat.le_refl _) (.cells ZW.toArray 32)
                  replace HN := Lib.hid (HN.out.kept (grownBy_of_below hd91 none) (by simp))
                  replace HO61 := Lib.hid (HO61.out.below hd91)
                  have hHeld2 : Row (wp78.alloc (.cells ZW.toArray 32)) w.heap.size 25 [.slice (some ⟨g, off, none⟩) m c, .slice A2 q c2, .int .i64 rd, .int .i64 fl] ∧ Row (wp78.alloc (.cells ZW.toArray 32)) (w.heap.size + 1) 30 CK ∧ Row (wp78.alloc (.cells ZW.toArray 32)) g5 32 (Au.wc b p) ∧ Below w.heap.size w (wp78.alloc (.cells ZW.toArray 32)) := ⟨hHeld.1.kept (grownBy_of_below hd91 none) (by simp), hHeld.2.1.kept (grownBy_of_below hd91 none) (by simp), hHeld.2.2.1.kept (grownBy_of_below hd91 none) (by simp), two_below' hHeld.2.2.2 hd91⟩
                  have H8 : Hid (Row (wp78.alloc (.cells ZW.toArray 32)) wp78.heap.size 32 ZW) := Lib.hid (Row.new wp78 32 ZW)
                  have N85 : Hid (wp78.heap.size ≠ g5 ∧ w.heap.size ≤ wp78.heap.size) := Lib.hid ⟨by have := hHeld.2.2.1.lt; omega, hHeld.2.2.2.size⟩
                  have HNlt : Hid (gN < (wp78.alloc (.cells ZW.toArray 32)).heap.size) := Lib.hid HN.out.lt
                  have LEwz90 : Hid (B0 ≤ (wp78.alloc (.cells ZW.toArray 32)).heap.size) := Lib.hid (Nat.le_trans LEwp78.out hd91.size)
                  generalize wp78.alloc (.cells ZW.toArray 32) = wz90 at *
                  generalize hg8 : wp78.heap.size = g8 at *
                  clear hg8
                  refine hK1.out _ _ (hHeld2) (fun hHeld => ?_)
                  clear hK1 K1
                  try simp only [Act.put, List.getElem_toArray, List.getElem_cons_succ, List.getElem_cons_zero, List.setIfInBounds_toArray, List.set_cons_zero, List.set_cons_succ]
                  clear hHeld2
                  refine wpAnyH_ready (rs := [6]) (by kernel_rfl) (by simp) (AllReadyH.cons rfl (fun K1 hK1 => ?_) AllReadyH.nil)
                  try simp only [Act.put, List.getElem_toArray, List.getElem_cons_succ, List.getElem_cons_zero, List.setIfInBounds_toArray, List.set_cons_zero, List.set_cons_succ]
                  rw [if_pos (by rfl)]
                  refine wp_append_own_wide _ _ _ 22 rfl B0 30 i0 (.agg ZB.toArray) 36 64 Tryd.underlying22 Hi.out Hz.out Hsz.out Hby.out (by rw [← HZ36.out]; rfl) (by decide) v61 _ _ rfl HO61.out.own ⟨gN, 0, none⟩ 1 1 CK rfl (by rw [HK36.out]) (row_news HN.out) HK1.out hk63.out.2 hk48.out.2 LEwz90.out ?_
                  intro v64 wp92 hown hgrow _
                  replace H8 := Lib.hid (H8.out.kept hgrow (fun e => HO61.out.ne_block H8.out (by decide) e.symm))
                  have hHeld2 : Row wp92 w.heap.size 25 [.slice (some ⟨g, off, none⟩) m c, .slice A2 q c2, .int .i64 rd, .int .i64 fl] ∧ Row wp92 (w.heap.size + 1) 30 CK ∧ Row wp92 g5 32 (Au.wc b p) ∧ Below w.heap.size w wp92 := ⟨hHeld.1.kept hgrow (fun e => by have := (HO61.out.lt _ e.symm).1; have := HG.out; omega), hHeld.2.1.kept hgrow (fun e => by have := (HO61.out.lt _ e.symm).1; have := HG.out; omega), hHeld.2.2.1.kept hgrow (fun e => by have := (HO61.out.lt _ e.symm).1; have := HG.out; omega), below_own hHeld.2.2.2 hgrow (fun k hk => by have := (HO61.out.lt _ hk).1; have := HG.out; omega)⟩
                  have HO64 : Hid (OwnL wp92 B0 30 36 Bd.cells v64 (L ++ [x])) := Lib.hid (OwnL.pushed (by rw [HCK.out]; exact hown))
                  have LEwp92 : Hid (B0 ≤ wp92.heap.size) := Lib.hid (Nat.le_trans LEwz90.out hgrow.size)
                  clear hown hgrow
                  refine hK1.out _ _ (hHeld2) (fun hHeld => ?_)
                  clear hK1 K1
                  try simp only [Act.put, List.getElem_toArray, List.getElem_cons_succ, List.getElem_cons_zero, List.setIfInBounds_toArray, List.set_cons_zero, List.set_cons_succ]
                  clear hHeld2
                  refine wpAnyH_ready (rs := [13]) (by kernel_rfl) (by simp) (AllReadyH.cons rfl (fun K1 hK1 => ?_) AllReadyH.nil)
                  try simp only [Act.put, List.getElem_toArray, List.getElem_cons_succ, List.getElem_cons_zero, List.setIfInBounds_toArray, List.set_cons_zero, List.set_cons_succ]
                  go_simp
                  refine Calls.mono (WT.out _ _ hHeld.2.2.2 HO64.out) ?_
                  rintro e wv93 ⟨rfl, hc94⟩
                  replace H8 := Lib.hid (H8.out.kept (grownBy_of_below hc94 none) (by simp))
                  have LEwv93 : Hid (B0 ≤ wv93.heap.size) := Lib.hid (Nat.le_trans LEwp92.out hc94.size)
                  refine hK1.out _ _ (⟨hHeld.1.kept (grownBy_of_below hc94 none) (by simp), hHeld.2.1.kept (grownBy_of_below hc94 none) (by simp), hHeld.2.2.1.kept (grownBy_of_below hc94 none) (by simp), two_below' hHeld.2.2.2 hc94⟩) (fun hHeld => ?_)
                  clear hK1 K1
                  try simp only [Act.put, List.getElem_toArray, List.getElem_cons_succ, List.getElem_cons_zero, List.setIfInBounds_toArray, List.set_cons_zero, List.set_cons_succ]
                  refine wpAnyH_take (i := 14) (v := .tuple #[.agg (Au.wc b p2).toArray, .bool true]) rfl (by kernel_rfl) (by kernel_rfl) (by kernel_rfl) (fun _ _ _ h => h) (Or.inl ⟨by rfl, fun w' hSw => by go_simp⟩) hHeld ?_
                  try simp only [Act.put, List.getElem_toArray, List.getElem_cons_succ, List.getElem_cons_zero, List.setIfInBounds_toArray, List.set_cons_zero, List.set_cons_succ]
                  refine wpAnyH_take (i := 15) (v := .agg (Au.wc b p2).toArray) rfl (by kernel_rfl) (by kernel_rfl) (by kernel_rfl) (fun _ _ _ h => h) (Or.inl ⟨by rfl, fun w' hSw => by go_simp⟩) hHeld ?_
                  try simp only [Act.put, List.getElem_toArray, List.getElem_cons_succ, List.getElem_cons_zero, List.setIfInBounds_toArray, List.set_cons_zero, List.set_cons_succ]
                  refine wpAnyH_take (i := 16) (v := .bool true) rfl (by kernel_rfl) (by kernel_rfl) (by kernel_rfl) (fun _ _ _ h => h) (Or.inl ⟨by rfl, fun w' hSw => by go_simp⟩) hHeld ?_
                  try simp only [Act.put, List.getElem_toArray, List.getElem_cons_succ, List.getElem_cons_zero, List.setIfInBounds_toArray, List.set_cons_zero, List.set_cons_succ]
                  refine wpAnyH_ready (rs := [18]) (by kernel_rfl) (by simp) (AllReadyH.cons rfl (fun K1 hK1 => ?_) AllReadyH.nil)
                  try simp only [Act.put, List.getElem_toArray, List.getElem_cons_succ, List.getElem_cons_zero, List.setIfInBounds_toArray, List.set_cons_zero, List.set_cons_succ]
                  rw [if_pos (by rfl)]
                  refine wp_store_at 32 (.tmp 8) (.tmp 72) rfl g8 0 (Au.wc b p2) ZW 32 rfl rfl H8.out (by rw [HX37.out, HZ37.out]; omega) (by rw [win_size, HX37.out]) (HX1.out p2) ?_
                  have H8o := H8
                  intro ws95 hrS hgS
                  rw [splice_all ((HX37.out p2).trans HZ37.out.symm)] at hrS
                  have H8 := Lib.hid hrS
                  have hHeld2 : Row ws95 w.heap.size 25 [.slice (some ⟨g, off, none⟩) m c, .slice A2 q c2, .int .i64 rd, .int .i64 fl] ∧ Row ws95 (w.heap.size + 1) 30 CK ∧ Row ws95 g5 32 (Au.wc b p) ∧ Below w.heap.size w ws95 := ⟨hHeld.1.kept hgS (fun e => by injection e with e; exact row_ne_row hHeld.1 H8o.out (by decide) e), hHeld.2.1.kept hgS (fun e => by injection e with e; exact row_ne_row hHeld.2.1 H8o.out (by decide) e), hHeld.2.2.1.kept hgS (fun e => by injection e with e; exact N85.out.1 e.symm), below_own hHeld.2.2.2 hgS (fun k hk => by cases hk; exact N85.out.2)⟩
                  clear hrS hgS
                  refine hK1.out _ _ (hHeld2) (fun hHeld => ?_)
                  clear hK1 K1
                  try simp only [Act.put, List.getElem_toArray, List.getElem_cons_succ, List.getElem_cons_zero, List.setIfInBounds_toArray, List.set_cons_zero, List.set_cons_succ]
                  clear hHeld2
                  refine wpAnyH_take (i := 19) (v := .bool true) rfl (by kernel_rfl) (by kernel_rfl) (by kernel_rfl) (fun _ _ _ h => h) (Or.inl ⟨by rfl, fun w' hSw => by go_simp⟩) hHeld ?_
                  try simp only [Act.put, List.getElem_toArray, List.getElem_cons_succ, List.getElem_cons_zero, List.setIfInBounds_toArray, List.set_cons_zero, List.set_cons_succ]
                  refine wpAnyH_done (by kernel_rfl) ?_ _
                  have R8 := HXb.out p2 _ _ H8.out
                  have R5 := HXb.out p _ _ hHeld.2.2.1
                  have c8 := R8.2
                  have c5 := R5.2
                  have HR8 := Lib.hid R8.1
                  have HR5 := Lib.hid R5.1
                  have HBz := Lib.hid hHeld.2.2.2
                  clear hHeld R8 R5
                  have hbe := HBE.out
                  go_wp2_with (first
                    | ((with_reducible show wpList _ _ _ (⟨_, .load 30 (.tmp 76), _, _, _, _⟩ :: _) _ _); refine wpList_load_tx rfl 30 (.tmp 76) rfl g8 0 (rfl) CB _ (HR8.out) Tryd.underlying30 rfl (by rw [bid_info, HB36.out]) ?_)
                    | ((with_reducible show wpList _ _ _ (⟨_, .load 30 (.tmp 78), _, _, _, _⟩ :: _) _ _); refine wpList_load_tx rfl 30 (.tmp 78) rfl g5 0 (rfl) CB _ (HR5.out) Tryd.underlying30 rfl (by rw [bid_info, HB36.out]) ?_))
                  go_ret
                  exact ⟨by first | rfl | simp, HBz.out⟩
              · skip
                try simp only [Act.put, List.getElem_toArray, List.getElem_cons_succ, List.getElem_cons_zero, List.setIfInBounds_toArray, List.set_cons_zero, List.set_cons_succ]
                go_simp
                have hd97 := (Below.refl wb76.heap.size wb76).alloc (Nat.le_refl _) (.cells ZW.toArray 32)
                replace HN := Lib.hid (HN.out.kept (grownBy_of_below hd97 none) (by simp))
                replace HO58 := Lib.hid (HO58.out.below hd97)
                have hHeld2 : Row (wb76.alloc (.cells ZW.toArray 32)) w.heap.size 25 [.slice (some ⟨g, off, none⟩) m c, .slice A2 q c2, .int .i64 rd, .int .i64 fl] ∧ Row (wb76.alloc (.cells ZW.toArray 32)) (w.heap.size + 1) 30 CK ∧ Row (wb76.alloc (.cells ZW.toArray 32)) g5 32 (Au.wc b p) ∧ Below w.heap.size w (wb76.alloc (.cells ZW.toArray 32)) := ⟨hHeld.1.kept (grownBy_of_below hd97 none) (by simp), hHeld.2.1.kept (grownBy_of_below hd97 none) (by simp), hHeld.2.2.1.kept (grownBy_of_below hd97 none) (by simp), two_below' hHeld.2.2.2 hd97⟩
                have H8 : Hid (Row (wb76.alloc (.cells ZW.toArray 32)) wb76.heap.size 32 ZW) := Lib.hid (Row.new wb76 32 ZW)
                have N85 : Hid (wb76.heap.size ≠ g5 ∧ w.heap.size ≤ wb76.heap.size) := Lib.hid ⟨by have := hHeld.2.2.1.lt; omega, hHeld.2.2.2.size⟩
                have LEwz96 : Hid (B0 ≤ (wb76.alloc (.cells ZW.toArray 32)).heap.size) := Lib.hid (Nat.le_trans LEwb76.out hd97.size)
                generalize wb76.alloc (.cells ZW.toArray 32) = wz96 at *
                generalize hg8 : wb76.heap.size = g8 at *
                clear hg8
                refine hK1.out _ _ (hHeld2) (fun hHeld => ?_)
                clear hK1 K1
                try simp only [Act.put, List.getElem_toArray, List.getElem_cons_succ, List.getElem_cons_zero, List.setIfInBounds_toArray, List.set_cons_zero, List.set_cons_succ]
                clear hHeld2
                refine wpAnyH_ready (rs := [3]) (by kernel_rfl) (by simp) (AllReadyH.cons rfl (fun K1 hK1 => ?_) AllReadyH.nil)
                try simp only [Act.put, List.getElem_toArray, List.getElem_cons_succ, List.getElem_cons_zero, List.setIfInBounds_toArray, List.set_cons_zero, List.set_cons_succ]
                rw [if_pos (by rfl)]
                refine wp_append_own_wide _ _ _ 22 rfl B0 30 i0 (.agg ZB.toArray) 36 64 Tryd.underlying22 Hi.out Hz.out Hsz.out Hby.out (by rw [← HZ36.out]; rfl) (by decide) (.slice (some ⟨gb, 0, none⟩) 0 0) _ _ rfl HO58.out.own ⟨g, off, none⟩ m c (Rw.flat Bd.cells L) rfl HFL.out.1 (HFL.out.2.2 _ hHeld.2.2.2) HFL.out.2.1 hk63.out.1 hk48.out.1 LEwz96.out ?_
                intro v61 wp98 hown hgrow _
                replace HN := Lib.hid (HN.out.kept hgrow (fun e => by simp only [Value.ownBlock, Option.some.injEq] at e; exact absurd e NEbN.out))
                replace H8 := Lib.hid (H8.out.kept hgrow (fun e => HO58.out.ne_block H8.out (by decide) e.symm))
                have hHeld2 : Row wp98 w.heap.size 25 [.slice (some ⟨g, off, none⟩) m c, .slice A2 q c2, .int .i64 rd, .int .i64 fl] ∧ Row wp98 (w.heap.size + 1) 30 CK ∧ Row wp98 g5 32 (Au.wc b p) ∧ Below w.heap.size w wp98 := ⟨hHeld.1.kept hgrow (fun e => by have := (HO58.out.lt _ e.symm).1; have := HG.out; omega), hHeld.2.1.kept hgrow (fun e => by have := (HO58.out.lt _ e.symm).1; have := HG.out; omega), hHeld.2.2.1.kept hgrow (fun e => by have := (HO58.out.lt _ e.symm).1; have := HG.out; omega), below_own hHeld.2.2.2 hgrow (fun k hk => by have := (HO58.out.lt _ hk).1; have := HG.out; omega)⟩
                have HO61 : Hid (OwnL wp98 B0 30 36 Bd.cells v61 L) := Lib.hid ⟨by rw [← HM.out]; simpa [Rw.flat_nil] using hown⟩
                have LEwp98 : Hid (B0 ≤ wp98.heap.size) := Lib.hid (Nat.le_trans LEwz96.out hgrow.size)
                clear hown hgrow
                refine hK1.out _ _ (hHeld2) (fun hHeld => ?_)
                clear hK1 K1
                try simp only [Act.put, List.getElem_toArray, List.getElem_cons_succ, List.getElem_cons_zero, List.setIfInBounds_toArray, List.set_cons_zero, List.set_cons_succ]
                clear hHeld2
                refine wpAnyH_ready (rs := [6]) (by kernel_rfl) (by simp) (AllReadyH.cons rfl (fun K1 hK1 => ?_) AllReadyH.nil)
                try simp only [Act.put, List.getElem_toArray, List.getElem_cons_succ, List.getElem_cons_zero, List.setIfInBounds_toArray, List.set_cons_zero, List.set_cons_succ]
                rw [if_pos (by rfl)]
                refine wp_append_own_wide _ _ _ 22 rfl B0 30 i0 (.agg ZB.toArray) 36 64 Tryd.underlying22 Hi.out Hz.out Hsz.out Hby.out (by rw [← HZ36.out]; rfl) (by decide) v61 _ _ rfl HO61.out.own ⟨gN, 0, none⟩ 1 1 CK rfl (by rw [HK36.out]) (row_news HN.out) HK1.out hk63.out.2 hk48.out.2 LEwp98.out ?_
                intro v64 wp99 hown hgrow _
                replace H8 := Lib.hid (H8.out.kept hgrow (fun e => HO61.out.ne_block H8.out (by decide) e.symm))
                have hHeld2 : Row wp99 w.heap.size 25 [.slice (some ⟨g, off, none⟩) m c, .slice A2 q c2, .int .i64 rd, .int .i64 fl] ∧ Row wp99 (w.heap.size + 1) 30 CK ∧ Row wp99 g5 32 (Au.wc b p) ∧ Below w.heap.size w wp99 := ⟨hHeld.1.kept hgrow (fun e => by have := (HO61.out.lt _ e.symm).1; have := HG.out; omega), hHeld.2.1.kept hgrow (fun e => by have := (HO61.out.lt _ e.symm).1; have := HG.out; omega), hHeld.2.2.1.kept hgrow (fun e => by have := (HO61.out.lt _ e.symm).1; have := HG.out; omega), below_own hHeld.2.2.2 hgrow (fun k hk => by have := (HO61.out.lt _ hk).1; have := HG.out; omega)⟩
                have HO64 : Hid (OwnL wp99 B0 30 36 Bd.cells v64 (L ++ [x])) := Lib.hid (OwnL.pushed (by rw [HCK.out]; exact hown))
                have LEwp99 : Hid (B0 ≤ wp99.heap.size) := Lib.hid (Nat.le_trans LEwp98.out hgrow.size)
                clear hown hgrow
                refine hK1.out _ _ (hHeld2) (fun hHeld => ?_)
                clear hK1 K1
                try simp only [Act.put, List.getElem_toArray, List.getElem_cons_succ, List.getElem_cons_zero, List.setIfInBounds_toArray, List.set_cons_zero, List.set_cons_succ]
                clear hHeld2
                refine wpAnyH_ready (rs := [13]) (by kernel_rfl) (by simp) (AllReadyH.cons rfl (fun K1 hK1 => ?_) AllReadyH.nil)
                try simp only [Act.put, List.getElem_toArray, List.getElem_cons_succ, List.getElem_cons_zero, List.setIfInBounds_toArray, List.set_cons_zero, List.set_cons_succ]
                go_simp
                refine Calls.mono (WT.out _ _ hHeld.2.2.2 HO64.out) ?_
                rintro e wv100 ⟨rfl, hc101⟩
                replace H8 := Lib.hid (H8.out.kept (grownBy_of_below hc101 none) (by simp))
                have LEwv100 : Hid (B0 ≤ wv100.heap.size) := Lib.hid (Nat.le_trans LEwp99.out hc101.size)
                refine hK1.out _ _ (⟨hHeld.1.kept (grownBy_of_below hc101 none) (by simp), hHeld.2.1.kept (grownBy_of_below hc101 none) (by simp), hHeld.2.2.1.kept (grownBy_of_below hc101 none) (by simp), two_below' hHeld.2.2.2 hc101⟩) (fun hHeld => ?_)
                clear hK1 K1
                try simp only [Act.put, List.getElem_toArray, List.getElem_cons_succ, List.getElem_cons_zero, List.setIfInBounds_toArray, List.set_cons_zero, List.set_cons_succ]
                refine wpAnyH_take (i := 14) (v := .tuple #[.agg (Au.wc b p2).toArray, .bool true]) rfl (by kernel_rfl) (by kernel_rfl) (by kernel_rfl) (fun _ _ _ h => h) (Or.inl ⟨by rfl, fun w' hSw => by go_simp⟩) hHeld ?_
                try simp only [Act.put, List.getElem_toArray, List.getElem_cons_succ, List.getElem_cons_zero, List.setIfInBounds_toArray, List.set_cons_zero, List.set_cons_succ]
                refine wpAnyH_take (i := 15) (v := .agg (Au.wc b p2).toArray) rfl (by kernel_rfl) (by kernel_rfl) (by kernel_rfl) (fun _ _ _ h => h) (Or.inl ⟨by rfl, fun w' hSw => by go_simp⟩) hHeld ?_
                try simp only [Act.put, List.getElem_toArray, List.getElem_cons_succ, List.getElem_cons_zero, List.setIfInBounds_toArray, List.set_cons_zero, List.set_cons_succ]
                refine wpAnyH_take (i := 16) (v := .bool true) rfl (by kernel_rfl) (by kernel_rfl) (by kernel_rfl) (fun _ _ _ h => h) (Or.inl ⟨by rfl, fun w' hSw => by go_simp⟩) hHeld ?_
                try simp only [Act.put, List.getElem_toArray, List.getElem_cons_succ, List.getElem_cons_zero, List.setIfInBounds_toArray, List.set_cons_zero, List.set_cons_succ]
                refine wpAnyH_ready (rs := [18]) (by kernel_rfl) (by simp) (AllReadyH.cons rfl (fun K1 hK1 => ?_) AllReadyH.nil)
                try simp only [Act.put, List.getElem_toArray, List.getElem_cons_succ, List.getElem_cons_zero, List.setIfInBounds_toArray, List.set_cons_zero, List.set_cons_succ]
                rw [if_pos (by rfl)]
                refine wp_store_at 32 (.tmp 8) (.tmp 72) rfl g8 0 (Au.wc b p2) ZW 32 rfl rfl H8.out (by rw [HX37.out, HZ37.out]; omega) (by rw [win_size, HX37.out]) (HX1.out p2) ?_
                have H8o := H8
                intro ws102 hrS hgS
                rw [splice_all ((HX37.out p2).trans HZ37.out.symm)] at hrS
                have H8 := Lib.hid hrS
                have hHeld2 : Row ws102 w.heap.size 25 [.slice (some ⟨g, off, none⟩) m c, .slice A2 q c2, .int .i64 rd, .int .i64 fl] ∧ Row ws102 (w.heap.size + 1) 30 CK ∧ Row ws102 g5 32 (Au.wc b p) ∧ Below w.heap.size w ws102 := ⟨hHeld.1.kept hgS (fun e => by injection e with e; exact row_ne_row hHeld.1 H8o.out (by decide) e), hHeld.2.1.kept hgS (fun e => by injection e with e; exact row_ne_row hHeld.2.1 H8o.out (by decide) e), hHeld.2.2.1.kept hgS (fun e => by injection e with e; exact N85.out.1 e.symm), below_own hHeld.2.2.2 hgS (fun k hk => by cases hk; exact N85.out.2)⟩
                clear hrS hgS
                refine hK1.out _ _ (hHeld2) (fun hHeld => ?_)
                clear hK1 K1
                try simp only [Act.put, List.getElem_toArray, List.getElem_cons_succ, List.getElem_cons_zero, List.setIfInBounds_toArray, List.set_cons_zero, List.set_cons_succ]
                clear hHeld2
                refine wpAnyH_take (i := 19) (v := .bool true) rfl (by kernel_rfl) (by kernel_rfl) (by kernel_rfl) (fun _ _ _ h => h) (Or.inl ⟨by rfl, fun w' hSw => by go_simp⟩) hHeld ?_
                try simp only [Act.put, List.getElem_toArray, List.getElem_cons_succ, List.getElem_cons_zero, List.setIfInBounds_toArray, List.set_cons_zero, List.set_cons_succ]
                refine wpAnyH_done (by kernel_rfl) ?_ _
                have R8 := HXb.out p2 _ _ H8.out
                have R5 := HXb.out p _ _ hHeld.2.2.1
                have c8 := R8.2
                have c5 := R5.2
                have HR8 := Lib.hid R8.1
                have HR5 := Lib.hid R5.1
                have HBz := Lib.hid hHeld.2.2.2
                clear hHeld R8 R5
                have hbe := HBE.out
                go_wp2_with (first
                  | ((with_reducible show wpList _ _ _ (⟨_, .load 30 (.tmp 76), _, _, _, _⟩ :: _) _ _); refine wpList_load_tx rfl 30 (.tmp 76) rfl g8 0 (rfl) CB _ (HR8.out) Tryd.underlying30 rfl (by rw [bid_info, HB36.out]) ?_)
                  | ((with_reducible show wpList _ _ _ (⟨_, .load 30 (.tmp 78), _, _, _, _⟩ :: _) _ _); refine wpList_load_tx rfl 30 (.tmp 78) rfl g5 0 (rfl) CB _ (HR5.out) Tryd.underlying30 rfl (by rw [bid_info, HB36.out]) ?_))
                go_ret
                exact ⟨by first | rfl | simp, HBz.out⟩
            · skip
              try simp only [Act.put, List.getElem_toArray, List.getElem_cons_succ, List.getElem_cons_zero, List.setIfInBounds_toArray, List.set_cons_zero, List.set_cons_succ]
              go_simp
              have hd104 := (Below.refl wn74.heap.size wn74).alloc (Nat.le_refl _) (.cells ZW.toArray 32)
              replace HN := Lib.hid (HN.out.kept (grownBy_of_below hd104 none) (by simp))
              have hHeld2 : Row (wn74.alloc (.cells ZW.toArray 32)) w.heap.size 25 [.slice (some ⟨g, off, none⟩) m c, .slice A2 q c2, .int .i64 rd, .int .i64 fl] ∧ Row (wn74.alloc (.cells ZW.toArray 32)) (w.heap.size + 1) 30 CK ∧ Row (wn74.alloc (.cells ZW.toArray 32)) g5 32 (Au.wc b p) ∧ Below w.heap.size w (wn74.alloc (.cells ZW.toArray 32)) := ⟨hHeld.1.kept (grownBy_of_below hd104 none) (by simp), hHeld.2.1.kept (grownBy_of_below hd104 none) (by simp), hHeld.2.2.1.kept (grownBy_of_below hd104 none) (by simp), two_below' hHeld.2.2.2 hd104⟩
              have H8 : Hid (Row (wn74.alloc (.cells ZW.toArray 32)) wn74.heap.size 32 ZW) := Lib.hid (Row.new wn74 32 ZW)
              have N85 : Hid (wn74.heap.size ≠ g5 ∧ w.heap.size ≤ wn74.heap.size) := Lib.hid ⟨by have := hHeld.2.2.1.lt; omega, hHeld.2.2.2.size⟩
              have HNlt : Hid (gN < (wn74.alloc (.cells ZW.toArray 32)).heap.size) := Lib.hid HN.out.lt
              have LEwz103 : Hid (B0 ≤ (wn74.alloc (.cells ZW.toArray 32)).heap.size) := Lib.hid (Nat.le_trans LEwn74.out hd104.size)
              generalize wn74.alloc (.cells ZW.toArray 32) = wz103 at *
              generalize hg8 : wn74.heap.size = g8 at *
              clear hg8
              refine hK1.out _ _ (hHeld2) (fun hHeld => ?_)
              clear hK1 K1
              try simp only [Act.put, List.getElem_toArray, List.getElem_cons_succ, List.getElem_cons_zero, List.setIfInBounds_toArray, List.set_cons_zero, List.set_cons_succ]
              clear hHeld2
              refine wpAnyH_ready (rs := [0]) (by kernel_rfl) (by simp) (AllReadyH.cons rfl (fun K1 hK1 => ?_) AllReadyH.nil)
              try simp only [Act.put, List.getElem_toArray, List.getElem_cons_succ, List.getElem_cons_zero, List.setIfInBounds_toArray, List.set_cons_zero, List.set_cons_succ]
              go_simp
              have NEbN : Hid (gN ≠ wz103.heap.size) := Lib.hid (by have := HN.out.lt; omega)
              have hd106 := (Below.refl wz103.heap.size wz103).alloc (Nat.le_refl _) (.cells #[] 30)
              replace HN := Lib.hid (HN.out.kept (grownBy_of_below hd106 none) (by simp))
              replace H8 := Lib.hid (H8.out.kept (grownBy_of_below hd106 none) (by simp))
              have HBs := Lib.hid hHeld
              have hHeld2 : Row (wz103.alloc (.cells #[] 30)) w.heap.size 25 [.slice (some ⟨g, off, none⟩) m c, .slice A2 q c2, .int .i64 rd, .int .i64 fl] ∧ Row (wz103.alloc (.cells #[] 30)) (w.heap.size + 1) 30 CK ∧ Row (wz103.alloc (.cells #[] 30)) g5 32 (Au.wc b p) ∧ Below w.heap.size w (wz103.alloc (.cells #[] 30)) := ⟨hHeld.1.kept (grownBy_of_below hd106 none) (by simp), hHeld.2.1.kept (grownBy_of_below hd106 none) (by simp), hHeld.2.2.1.kept (grownBy_of_below hd106 none) (by simp), two_below' hHeld.2.2.2 hd106⟩
              have HO58 : Hid (OwnL (wz103.alloc (.cells #[] 30)) B0 30 36 Bd.cells (.slice (some ⟨wz103.heap.size, 0, none⟩) 0 0) []) := Lib.hid (row_own (Row.new wz103 30 []) LEwz103.out rfl (Nat.le_refl _) (by unfold maxLen; omega) rfl rfl rfl)
              have LEwb105 : Hid (B0 ≤ (wz103.alloc (.cells #[] 30)).heap.size) := Lib.hid (Nat.le_trans LEwz103.out hd106.size)
              generalize wz103.alloc (.cells #[] 30) = wb105 at *
              generalize hgb : wz103.heap.size = gb at *
              have HGB := Lib.hid hgb
              clear hgb
              refine hK1.out _ _ (hHeld2) (fun hHeld => ?_)
              clear hK1 K1
              try simp only [Act.put, List.getElem_toArray, List.getElem_cons_succ, List.getElem_cons_zero, List.setIfInBounds_toArray, List.set_cons_zero, List.set_cons_succ]
              clear hHeld2
              refine wpAnyH_ready (rs := [3]) (by kernel_rfl) (by simp) (AllReadyH.cons rfl (fun K1 hK1 => ?_) AllReadyH.nil)
              try simp only [Act.put, List.getElem_toArray, List.getElem_cons_succ, List.getElem_cons_zero, List.setIfInBounds_toArray, List.set_cons_zero, List.set_cons_succ]
              rw [if_pos (by rfl)]
              refine wp_append_own_wide _ _ _ 22 rfl B0 30 i0 (.agg ZB.toArray) 36 64 Tryd.underlying22 Hi.out Hz.out Hsz.out Hby.out (by rw [← HZ36.out]; rfl) (by decide) (.slice (some ⟨gb, 0, none⟩) 0 0) _ _ rfl HO58.out.own ⟨g, off, none⟩ m c (Rw.flat Bd.cells L) rfl HFL.out.1 (HFL.out.2.2 _ hHeld.2.2.2) HFL.out.2.1 hk63.out.1 hk48.out.1 LEwb105.out ?_
              intro v61 wp107 hown hgrow _
              replace HN := Lib.hid (HN.out.kept hgrow (fun e => by simp only [Value.ownBlock, Option.some.injEq] at e; exact absurd e NEbN.out))
              replace H8 := Lib.hid (H8.out.kept hgrow (fun e => HO58.out.ne_block H8.out (by decide) e.symm))
              have hHeld2 : Row wp107 w.heap.size 25 [.slice (some ⟨g, off, none⟩) m c, .slice A2 q c2, .int .i64 rd, .int .i64 fl] ∧ Row wp107 (w.heap.size + 1) 30 CK ∧ Row wp107 g5 32 (Au.wc b p) ∧ Below w.heap.size w wp107 := ⟨hHeld.1.kept hgrow (fun e => by have := (HO58.out.lt _ e.symm).1; have := HG.out; omega), hHeld.2.1.kept hgrow (fun e => by have := (HO58.out.lt _ e.symm).1; have := HG.out; omega), hHeld.2.2.1.kept hgrow (fun e => by have := (HO58.out.lt _ e.symm).1; have := HG.out; omega), below_own hHeld.2.2.2 hgrow (fun k hk => by have := (HO58.out.lt _ hk).1; have := HG.out; omega)⟩
              have HO61 : Hid (OwnL wp107 B0 30 36 Bd.cells v61 L) := Lib.hid ⟨by rw [← HM.out]; simpa [Rw.flat_nil] using hown⟩
              have LEwp107 : Hid (B0 ≤ wp107.heap.size) := Lib.hid (Nat.le_trans LEwb105.out hgrow.size)
              clear hown hgrow
              refine hK1.out _ _ (hHeld2) (fun hHeld => ?_)
              clear hK1 K1
              try simp only [Act.put, List.getElem_toArray, List.getElem_cons_succ, List.getElem_cons_zero, List.setIfInBounds_toArray, List.set_cons_zero, List.set_cons_succ]
              clear hHeld2
              refine wpAnyH_ready (rs := [6]) (by kernel_rfl) (by simp) (AllReadyH.cons rfl (fun K1 hK1 => ?_) AllReadyH.nil)
              try simp only [Act.put, List.getElem_toArray, List.getElem_cons_succ, List.getElem_cons_zero, List.setIfInBounds_toArray, List.set_cons_zero, List.set_cons_succ]
              rw [if_pos (by rfl)]
              refine wp_append_own_wide _ _ _ 22 rfl B0 30 i0 (.agg ZB.toArray) 36 64 Tryd.underlying22 Hi.out Hz.out Hsz.out Hby.out (by rw [← HZ36.out]; rfl) (by decide) v61 _ _ rfl HO61.out.own ⟨gN, 0, none⟩ 1 1 CK rfl (by rw [HK36.out]) (row_news HN.out) HK1.out hk63.out.2 hk48.out.2 LEwp107.out ?_
              intro v64 wp108 hown hgrow _
              replace H8 := Lib.hid (H8.out.kept hgrow (fun e => HO61.out.ne_block H8.out (by decide) e.symm))
              have hHeld2 : Row wp108 w.heap.size 25 [.slice (some ⟨g, off, none⟩) m c, .slice A2 q c2, .int .i64 rd, .int .i64 fl] ∧ Row wp108 (w.heap.size + 1) 30 CK ∧ Row wp108 g5 32 (Au.wc b p) ∧ Below w.heap.size w wp108 := ⟨hHeld.1.kept hgrow (fun e => by have := (HO61.out.lt _ e.symm).1; have := HG.out; omega), hHeld.2.1.kept hgrow (fun e => by have := (HO61.out.lt _ e.symm).1; have := HG.out; omega), hHeld.2.2.1.kept hgrow (fun e => by have := (HO61.out.lt _ e.symm).1; have := HG.out; omega), below_own hHeld.2.2.2 hgrow (fun k hk => by have := (HO61.out.lt _ hk).1; have := HG.out; omega)⟩
              have HO64 : Hid (OwnL wp108 B0 30 36 Bd.cells v64 (L ++ [x])) := Lib.hid (OwnL.pushed (by rw [HCK.out]; exact hown))
              have LEwp108 : Hid (B0 ≤ wp108.heap.size) := Lib.hid (Nat.le_trans LEwp107.out hgrow.size)
              clear hown hgrow
              refine hK1.out _ _ (hHeld2) (fun hHeld => ?_)
              clear hK1 K1
              try simp only [Act.put, List.getElem_toArray, List.getElem_cons_succ, List.getElem_cons_zero, List.setIfInBounds_toArray, List.set_cons_zero, List.set_cons_succ]
              clear hHeld2
              refine wpAnyH_ready (rs := [13]) (by kernel_rfl) (by simp) (AllReadyH.cons rfl (fun K1 hK1 => ?_) AllReadyH.nil)
              try simp only [Act.put, List.getElem_toArray, List.getElem_cons_succ, List.getElem_cons_zero, List.setIfInBounds_toArray, List.set_cons_zero, List.set_cons_succ]
              go_simp
              refine Calls.mono (WT.out _ _ hHeld.2.2.2 HO64.out) ?_
              rintro e wv109 ⟨rfl, hc110⟩
              replace H8 := Lib.hid (H8.out.kept (grownBy_of_below hc110 none) (by simp))
              have LEwv109 : Hid (B0 ≤ wv109.heap.size) := Lib.hid (Nat.le_trans LEwp108.out hc110.size)
              refine hK1.out _ _ (⟨hHeld.1.kept (grownBy_of_below hc110 none) (by simp), hHeld.2.1.kept (grownBy_of_below hc110 none) (by simp), hHeld.2.2.1.kept (grownBy_of_below hc110 none) (by simp), two_below' hHeld.2.2.2 hc110⟩) (fun hHeld => ?_)
              clear hK1 K1
              try simp only [Act.put, List.getElem_toArray, List.getElem_cons_succ, List.getElem_cons_zero, List.setIfInBounds_toArray, List.set_cons_zero, List.set_cons_succ]
              refine wpAnyH_take (i := 14) (v := .tuple #[.agg (Au.wc b p2).toArray, .bool true]) rfl (by kernel_rfl) (by kernel_rfl) (by kernel_rfl) (fun _ _ _ h => h) (Or.inl ⟨by rfl, fun w' hSw => by go_simp⟩) hHeld ?_
              try simp only [Act.put, List.getElem_toArray, List.getElem_cons_succ, List.getElem_cons_zero, List.setIfInBounds_toArray, List.set_cons_zero, List.set_cons_succ]
              refine wpAnyH_take (i := 15) (v := .agg (Au.wc b p2).toArray) rfl (by kernel_rfl) (by kernel_rfl) (by kernel_rfl) (fun _ _ _ h => h) (Or.inl ⟨by rfl, fun w' hSw => by go_simp⟩) hHeld ?_
              try simp only [Act.put, List.getElem_toArray, List.getElem_cons_succ, List.getElem_cons_zero, List.setIfInBounds_toArray, List.set_cons_zero, List.set_cons_succ]
              refine wpAnyH_take (i := 16) (v := .bool true) rfl (by kernel_rfl) (by kernel_rfl) (by kernel_rfl) (fun _ _ _ h => h) (Or.inl ⟨by rfl, fun w' hSw => by go_simp⟩) hHeld ?_
              try simp only [Act.put, List.getElem_toArray, List.getElem_cons_succ, List.getElem_cons_zero, List.setIfInBounds_toArray, List.set_cons_zero, List.set_cons_succ]
              refine wpAnyH_ready (rs := [18]) (by kernel_rfl) (by simp) (AllReadyH.cons rfl (fun K1 hK1 => ?_) AllReadyH.nil)
              try simp only [Act.put, List.getElem_toArray, List.getElem_cons_succ, List.getElem_cons_zero, List.setIfInBounds_toArray, List.set_cons_zero, List.set_cons_succ]
              rw [if_pos (by rfl)]
              refine wp_store_at 32 (.tmp 8) (.tmp 72) rfl g8 0 (Au.wc b p2) ZW 32 rfl rfl H8.out (by rw [HX37.out, HZ37.out]; omega) (by rw [win_size, HX37.out]) (HX1.out p2) ?_
              have H8o := H8
              intro ws111 hrS hgS
              rw [splice_all ((HX37.out p2).trans HZ37.out.symm)] at hrS
              have H8 := Lib.hid hrS
              have hHeld2 : Row ws111 w.heap.size 25 [.slice (some ⟨g, off, none⟩) m c, .slice A2 q c2, .int .i64 rd, .int .i64 fl] ∧ Row ws111 (w.heap.size + 1) 30 CK ∧ Row ws111 g5 32 (Au.wc b p) ∧ Below w.heap.size w ws111 := ⟨hHeld.1.kept hgS (fun e => by injection e with e; exact row_ne_row hHeld.1 H8o.out (by decide) e), hHeld.2.1.kept hgS (fun e => by injection e with e; exact row_ne_row hHeld.2.1 H8o.out (by decide) e), hHeld.2.2.1.kept hgS (fun e => by injection e with e; exact N85.out.1 e.symm), below_own hHeld.2.2.2 hgS (fun k hk => by cases hk; exact N85.out.2)⟩
              clear hrS hgS
              refine hK1.out _ _ (hHeld2) (fun hHeld => ?_)
              clear hK1 K1
              try simp only [Act.put, List.getElem_toArray, List.getElem_cons_succ, List.getElem_cons_zero, List.setIfInBounds_toArray, List.set_cons_zero, List.set_cons_succ]
              clear hHeld2
              refine wpAnyH_take (i := 19) (v := .bool true) rfl (by kernel_rfl) (by kernel_rfl) (by kernel_rfl) (fun _ _ _ h => h) (Or.inl ⟨by rfl, fun w' hSw => by go_simp⟩) hHeld ?_
              try simp only [Act.put, List.getElem_toArray, List.getElem_cons_succ, List.getElem_cons_zero, List.setIfInBounds_toArray, List.set_cons_zero, List.set_cons_succ]
              refine wpAnyH_done (by kernel_rfl) ?_ _
              have R8 := HXb.out p2 _ _ H8.out
              have R5 := HXb.out p _ _ hHeld.2.2.1
              have c8 := R8.2
              have c5 := R5.2
              have HR8 := Lib.hid R8.1
              have HR5 := Lib.hid R5.1
              have HBz := Lib.hid hHeld.2.2.2
              clear hHeld R8 R5
              have hbe := HBE.out
              go_wp2_with (first
                | ((with_reducible show wpList _ _ _ (⟨_, .load 30 (.tmp 76), _, _, _, _⟩ :: _) _ _); refine wpList_load_tx rfl 30 (.tmp 76) rfl g8 0 (rfl) CB _ (HR8.out) Tryd.underlying30 rfl (by rw [bid_info, HB36.out]) ?_)
                | ((with_reducible show wpList _ _ _ (⟨_, .load 30 (.tmp 78), _, _, _, _⟩ :: _) _ _); refine wpList_load_tx rfl 30 (.tmp 78) rfl g5 0 (rfl) CB _ (HR5.out) Tryd.underlying30 rfl (by rw [bid_info, HB36.out]) ?_))
              go_ret
              exact ⟨by first | rfl | simp, HBz.out⟩
          · skip
            try simp only [Act.put, List.getElem_toArray, List.getElem_cons_succ, List.getElem_cons_zero, List.setIfInBounds_toArray, List.set_cons_zero, List.set_cons_succ]
            go_simp
            have hd113 := (Below.refl wq.heap.size wq).alloc (Nat.le_refl _) (.cells ZW.toArray 32)
            have hHeld2 : Row (wq.alloc (.cells ZW.toArray 32)) w.heap.size 25 [.slice (some ⟨g, off, none⟩) m c, .slice A2 q c2, .int .i64 rd, .int .i64 fl] ∧ Row (wq.alloc (.cells ZW.toArray 32)) (w.heap.size + 1) 30 CK ∧ Row (wq.alloc (.cells ZW.toArray 32)) g5 32 (Au.wc b p) ∧ Below w.heap.size w (wq.alloc (.cells ZW.toArray 32)) := ⟨hHeld.1.kept (grownBy_of_below hd113 none) (by simp), hHeld.2.1.kept (grownBy_of_below hd113 none) (by simp), hHeld.2.2.1.kept (grownBy_of_below hd113 none) (by simp), two_below' hHeld.2.2.2 hd113⟩
            have H8 : Hid (Row (wq.alloc (.cells ZW.toArray 32)) wq.heap.size 32 ZW) := Lib.hid (Row.new wq 32 ZW)
            have N85 : Hid (wq.heap.size ≠ g5 ∧ w.heap.size ≤ wq.heap.size) := Lib.hid ⟨by have := hHeld.2.2.1.lt; omega, hHeld.2.2.2.size⟩
            have LEwz112 : Hid (B0 ≤ (wq.alloc (.cells ZW.toArray 32)).heap.size) := Lib.hid (Nat.le_trans HBB.out hd113.size)
            generalize wq.alloc (.cells ZW.toArray 32) = wz112 at *
            generalize hg8 : wq.heap.size = g8 at *
            clear hg8
            refine hK1.out _ _ (hHeld2) (fun hHeld => ?_)
            clear hK1 K1
            try simp only [Act.put, List.getElem_toArray, List.getElem_cons_succ, List.getElem_cons_zero, List.setIfInBounds_toArray, List.set_cons_zero, List.set_cons_succ]
            clear hHeld2
            refine wpAnyH_ready (rs := [0, 5]) (by kernel_rfl) (by simp) (AllReadyH.cons rfl (fun K1 hK1 => ?_) (AllReadyH.cons rfl (fun K1 hK1 => ?_) AllReadyH.nil))
            · skip
              try simp only [Act.put, List.getElem_toArray, List.getElem_cons_succ, List.getElem_cons_zero, List.setIfInBounds_toArray, List.set_cons_zero, List.set_cons_succ]
              go_simp
              have hd115 := (Below.refl wz112.heap.size wz112).alloc (Nat.le_refl _) (.cells #[] 30)
              replace H8 := Lib.hid (H8.out.kept (grownBy_of_below hd115 none) (by simp))
              have HBs := Lib.hid hHeld
              have hHeld2 : Row (wz112.alloc (.cells #[] 30)) w.heap.size 25 [.slice (some ⟨g, off, none⟩) m c, .slice A2 q c2, .int .i64 rd, .int .i64 fl] ∧ Row (wz112.alloc (.cells #[] 30)) (w.heap.size + 1) 30 CK ∧ Row (wz112.alloc (.cells #[] 30)) g5 32 (Au.wc b p) ∧ Below w.heap.size w (wz112.alloc (.cells #[] 30)) := ⟨hHeld.1.kept (grownBy_of_below hd115 none) (by simp), hHeld.2.1.kept (grownBy_of_below hd115 none) (by simp), hHeld.2.2.1.kept (grownBy_of_below hd115 none) (by simp), two_below' hHeld.2.2.2 hd115⟩
              have HO58 : Hid (OwnL (wz112.alloc (.cells #[] 30)) B0 30 36 Bd.cells (.slice (some ⟨wz112.heap.size, 0, none⟩) 0 0) []) := Lib.hid (row_own (Row.new wz112 30 []) LEwz112.out rfl (Nat.le_refl _) (by unfold maxLen; omega) rfl rfl rfl)
              have LEwb114 : Hid (B0 ≤ (wz112.alloc (.cells #[] 30)).heap.size) := Lib.hid (Nat.le_trans LEwz112.out hd115.size)
              generalize wz112.alloc (.cells #[] 30) = wb114 at *
              generalize hgb : wz112.heap.size = gb at *
              have HGB := Lib.hid hgb
              clear hgb
              refine hK1.out _ _ (hHeld2) (fun hHeld => ?_)
              clear hK1 K1
              try simp only [Act.put, List.getElem_toArray, List.getElem_cons_succ, List.getElem_cons_zero, List.setIfInBounds_toArray, List.set_cons_zero, List.set_cons_succ]
              clear hHeld2
              refine wpAnyH_ready (rs := [3, 5]) (by kernel_rfl) (by simp) (AllReadyH.cons rfl (fun K1 hK1 => ?_) (AllReadyH.cons rfl (fun K1 hK1 => ?_) AllReadyH.nil))
              · skip
                try simp only [Act.put, List.getElem_toArray, List.getElem_cons_succ, List.getElem_cons_zero, List.setIfInBounds_toArray, List.set_cons_zero, List.set_cons_succ]
                rw [if_pos (by rfl)]
                refine wp_append_own_wide _ _ _ 22 rfl B0 30 i0 (.agg ZB.toArray) 36 64 Tryd.underlying22 Hi.out Hz.out Hsz.out Hby.out (by rw [← HZ36.out]; rfl) (by decide) (.slice (some ⟨gb, 0, none⟩) 0 0) _ _ rfl HO58.out.own ⟨g, off, none⟩ m c (Rw.flat Bd.cells L) rfl HFL.out.1 (HFL.out.2.2 _ hHeld.2.2.2) HFL.out.2.1 hk63.out.1 hk48.out.1 LEwb114.out ?_
                intro v61 wp116 hown hgrow _
                replace H8 := Lib.hid (H8.out.kept hgrow (fun e => HO58.out.ne_block H8.out (by decide) e.symm))
                have hHeld2 : Row wp116 w.heap.size 25 [.slice (some ⟨g, off, none⟩) m c, .slice A2 q c2, .int .i64 rd, .int .i64 fl] ∧ Row wp116 (w.heap.size + 1) 30 CK ∧ Row wp116 g5 32 (Au.wc b p) ∧ Below w.heap.size w wp116 := ⟨hHeld.1.kept hgrow (fun e => by have := (HO58.out.lt _ e.symm).1; have := HG.out; omega), hHeld.2.1.kept hgrow (fun e => by have := (HO58.out.lt _ e.symm).1; have := HG.out; omega), hHeld.2.2.1.kept hgrow (fun e => by have := (HO58.out.lt _ e.symm).1; have := HG.out; omega), below_own hHeld.2.2.2 hgrow (fun k hk => by have := (HO58.out.lt _ hk).1; have := HG.out; omega)⟩
                have HO61 : Hid (OwnL wp116 B0 30 36 Bd.cells v61 L) := Lib.hid ⟨by rw [← HM.out]; simpa [Rw.flat_nil] using hown⟩
                have LEwp116 : Hid (B0 ≤ wp116.heap.size) := Lib.hid (Nat.le_trans LEwb114.out hgrow.size)
                clear hown hgrow
                refine hK1.out _ _ (hHeld2) (fun hHeld => ?_)
                clear hK1 K1
                try simp only [Act.put, List.getElem_toArray, List.getElem_cons_succ, List.getElem_cons_zero, List.setIfInBounds_toArray, List.set_cons_zero, List.set_cons_succ]
                clear hHeld2
                refine wpAnyH_ready (rs := [5]) (by kernel_rfl) (by simp) (AllReadyH.cons rfl (fun K1 hK1 => ?_) AllReadyH.nil)
                try simp only [Act.put, List.getElem_toArray, List.getElem_cons_succ, List.getElem_cons_zero, List.setIfInBounds_toArray, List.set_cons_zero, List.set_cons_succ]
                rw [if_pos (by rfl)]
                refine wp_buildSlice 22 30 1 _ rfl CK.toArray i0 (.agg ZB.toArray) Tryd.underlying22 Hi.out Hz.out (by rw [Hsz.out]; decide) (by rw [Hsz.out]; decide) (by rw [Hsz.out, Array.toList_map]; exact fill_one15 36 (.agg ZB.toArray) CK HK36.out) ?_
                have hd118 := (Below.refl wp116.heap.size wp116).alloc (Nat.le_refl _) (.cells CK.toArray 30)
                replace H8 := Lib.hid (H8.out.kept (grownBy_of_below hd118 none) (by simp))
                replace HO61 := Lib.hid (HO61.out.below hd118)
                have hHeld2 : Row (wp116.alloc (.cells CK.toArray 30)) w.heap.size 25 [.slice (some ⟨g, off, none⟩) m c, .slice A2 q c2, .int .i64 rd, .int .i64 fl] ∧ Row (wp116.alloc (.cells CK.toArray 30)) (w.heap.size + 1) 30 CK ∧ Row (wp116.alloc (.cells CK.toArray 30)) g5 32 (Au.wc b p) ∧ Below w.heap.size w (wp116.alloc (.cells CK.toArray 30)) := ⟨hHeld.1.kept (grownBy_of_below hd118 none) (by simp), hHeld.2.1.kept (grownBy_of_below hd118 none) (by simp), hHeld.2.2.1.kept (grownBy_of_below hd118 none) (by simp), two_below' hHeld.2.2.2 hd118⟩
                have HN : Hid (Row (wp116.alloc (.cells CK.toArray 30)) wp116.heap.size 30 CK) := Lib.hid (Row.new wp116 30 CK)
                have HNlt : Hid (wp116.heap.size < (wp116.alloc (.cells CK.toArray 30)).heap.size) := Lib.hid HN.out.lt
                have LEwn117 : Hid (B0 ≤ (wp116.alloc (.cells CK.toArray 30)).heap.size) := Lib.hid (Nat.le_trans LEwp116.out hd118.size)
                generalize wp116.alloc (.cells CK.toArray 30) = wn117 at *
                generalize hgn : wp116.heap.size = gN at *
                clear hgn
                refine hK1.out _ _ (hHeld2) (fun hHeld => ?_)
                clear hK1 K1
                try simp only [Act.put, List.getElem_toArray, List.getElem_cons_succ, List.getElem_cons_zero, List.setIfInBounds_toArray, List.set_cons_zero, List.set_cons_succ]
                clear hHeld2
                refine wpAnyH_ready (rs := [6]) (by kernel_rfl) (by simp) (AllReadyH.cons rfl (fun K1 hK1 => ?_) AllReadyH.nil)
                try simp only [Act.put, List.getElem_toArray, List.getElem_cons_succ, List.getElem_cons_zero, List.setIfInBounds_toArray, List.set_cons_zero, List.set_cons_succ]
                rw [if_pos (by rfl)]
                refine wp_append_own_wide _ _ _ 22 rfl B0 30 i0 (.agg ZB.toArray) 36 64 Tryd.underlying22 Hi.out Hz.out Hsz.out Hby.out (by rw [← HZ36.out]; rfl) (by decide) v61 _ _ rfl HO61.out.own ⟨gN, 0, none⟩ 1 1 CK rfl (by rw [HK36.out]) (row_news HN.out) HK1.out hk63.out.2 hk48.out.2 LEwn117.out ?_
                intro v64 wp119 hown hgrow _
                replace H8 := Lib.hid (H8.out.kept hgrow (fun e => HO61.out.ne_block H8.out (by decide) e.symm))
                have hHeld2 : Row wp119 w.heap.size 25 [.slice (some ⟨g, off, none⟩) m c, .slice A2 q c2, .int .i64 rd, .int .i64 fl] ∧ Row wp119 (w.heap.size + 1) 30 CK ∧ Row wp119 g5 32 (Au.wc b p) ∧ Below w.heap.size w wp119 := ⟨hHeld.1.kept hgrow (fun e => by have := (HO61.out.lt _ e.symm).1; have := HG.out; omega), hHeld.2.1.kept hgrow (fun e => by have := (HO61.out.lt _ e.symm).1; have := HG.out; omega), hHeld.2.2.1.kept hgrow (fun e => by have := (HO61.out.lt _ e.symm).1; have := HG.out; omega), below_own hHeld.2.2.2 hgrow (fun k hk => by have := (HO61.out.lt _ hk).1; have := HG.out; omega)⟩
                have HO64 : Hid (OwnL wp119 B0 30 36 Bd.cells v64 (L ++ [x])) := Lib.hid (OwnL.pushed (by rw [HCK.out]; exact hown))
                have LEwp119 : Hid (B0 ≤ wp119.heap.size) := Lib.hid (Nat.le_trans LEwn117.out hgrow.size)
                clear hown hgrow
                refine hK1.out _ _ (hHeld2) (fun hHeld => ?_)
                clear hK1 K1
                try simp only [Act.put, List.getElem_toArray, List.getElem_cons_succ, List.getElem_cons_zero, List.setIfInBounds_toArray, List.set_cons_zero, List.set_cons_succ]
                clear hHeld2
                refine wpAnyH_ready (rs := [13]) (by kernel_rfl) (by simp) (AllReadyH.cons rfl (fun K1 hK1 => ?_) AllReadyH.nil)
                try simp only [Act.put, List.getElem_toArray, List.getElem_cons_succ, List.getElem_cons_zero, List.setIfInBounds_toArray, List.set_cons_zero, List.set_cons_succ]
                go_simp
                refine Calls.mono (WT.out _ _ hHeld.2.2.2 HO64.out) ?_
                rintro e wv120 ⟨rfl, hc121⟩
                replace H8 := Lib.hid (H8.out.kept (grownBy_of_below hc121 none) (by simp))
                have LEwv120 : Hid (B0 ≤ wv120.heap.size) := Lib.hid (Nat.le_trans LEwp119.out hc121.size)
                refine hK1.out _ _ (⟨hHeld.1.kept (grownBy_of_below hc121 none) (by simp), hHeld.2.1.kept (grownBy_of_below hc121 none) (by simp), hHeld.2.2.1.kept (grownBy_of_below hc121 none) (by simp), two_below' hHeld.2.2.2 hc121⟩) (fun hHeld => ?_)
                clear hK1 K1
                try simp only [Act.put, List.getElem_toArray, List.getElem_cons_succ, List.getElem_cons_zero, List.setIfInBounds_toArray, List.set_cons_zero, List.set_cons_succ]
                refine wpAnyH_take (i := 14) (v := .tuple #[.agg (Au.wc b p2).toArray, .bool true]) rfl (by kernel_rfl) (by kernel_rfl) (by kernel_rfl) (fun _ _ _ h => h) (Or.inl ⟨by rfl, fun w' hSw => by go_simp⟩) hHeld ?_
                try simp only [Act.put, List.getElem_toArray, List.getElem_cons_succ, List.getElem_cons_zero, List.setIfInBounds_toArray, List.set_cons_zero, List.set_cons_succ]
                refine wpAnyH_take (i := 15) (v := .agg (Au.wc b p2).toArray) rfl (by kernel_rfl) (by kernel_rfl) (by kernel_rfl) (fun _ _ _ h => h) (Or.inl ⟨by rfl, fun w' hSw => by go_simp⟩) hHeld ?_
                try simp only [Act.put, List.getElem_toArray, List.getElem_cons_succ, List.getElem_cons_zero, List.setIfInBounds_toArray, List.set_cons_zero, List.set_cons_succ]
                refine wpAnyH_take (i := 16) (v := .bool true) rfl (by kernel_rfl) (by kernel_rfl) (by kernel_rfl) (fun _ _ _ h => h) (Or.inl ⟨by rfl, fun w' hSw => by go_simp⟩) hHeld ?_
                try simp only [Act.put, List.getElem_toArray, List.getElem_cons_succ, List.getElem_cons_zero, List.setIfInBounds_toArray, List.set_cons_zero, List.set_cons_succ]
                refine wpAnyH_ready (rs := [18]) (by kernel_rfl) (by simp) (AllReadyH.cons rfl (fun K1 hK1 => ?_) AllReadyH.nil)
                try simp only [Act.put, List.getElem_toArray, List.getElem_cons_succ, List.getElem_cons_zero, List.setIfInBounds_toArray, List.set_cons_zero, List.set_cons_succ]
                rw [if_pos (by rfl)]
                refine wp_store_at 32 (.tmp 8) (.tmp 72) rfl g8 0 (Au.wc b p2) ZW 32 rfl rfl H8.out (by rw [HX37.out, HZ37.out]; omega) (by rw [win_size, HX37.out]) (HX1.out p2) ?_
                have H8o := H8
                intro ws122 hrS hgS
                rw [splice_all ((HX37.out p2).trans HZ37.out.symm)] at hrS
                have H8 := Lib.hid hrS
                have hHeld2 : Row ws122 w.heap.size 25 [.slice (some ⟨g, off, none⟩) m c, .slice A2 q c2, .int .i64 rd, .int .i64 fl] ∧ Row ws122 (w.heap.size + 1) 30 CK ∧ Row ws122 g5 32 (Au.wc b p) ∧ Below w.heap.size w ws122 := ⟨hHeld.1.kept hgS (fun e => by injection e with e; exact row_ne_row hHeld.1 H8o.out (by decide) e), hHeld.2.1.kept hgS (fun e => by injection e with e; exact row_ne_row hHeld.2.1 H8o.out (by decide) e), hHeld.2.2.1.kept hgS (fun e => by injection e with e; exact N85.out.1 e.symm), below_own hHeld.2.2.2 hgS (fun k hk => by cases hk; exact N85.out.2)⟩
                clear hrS hgS
                refine hK1.out _ _ (hHeld2) (fun hHeld => ?_)
                clear hK1 K1
                try simp only [Act.put, List.getElem_toArray, List.getElem_cons_succ, List.getElem_cons_zero, List.setIfInBounds_toArray, List.set_cons_zero, List.set_cons_succ]
                clear hHeld2
                refine wpAnyH_take (i := 19) (v := .bool true) rfl (by kernel_rfl) (by kernel_rfl) (by kernel_rfl) (fun _ _ _ h => h) (Or.inl ⟨by rfl, fun w' hSw => by go_simp⟩) hHeld ?_
                try simp only [Act.put, List.getElem_toArray, List.getElem_cons_succ, List.getElem_cons_zero, List.setIfInBounds_toArray, List.set_cons_zero, List.set_cons_succ]
                refine wpAnyH_done (by kernel_rfl) ?_ _
                have R8 := HXb.out p2 _ _ H8.out
                have R5 := HXb.out p _ _ hHeld.2.2.1
                have c8 := R8.2
                have c5 := R5.2
                have HR8 := Lib.hid R8.1
                have HR5 := Lib.hid R5.1
                have HBz := Lib.hid hHeld.2.2.2
                clear hHeld R8 R5
                have hbe := HBE.out
                go_wp2_with (first
                  | ((with_reducible show wpList _ _ _ (⟨_, .load 30 (.tmp 76), _, _, _, _⟩ :: _) _ _); refine wpList_load_tx rfl 30 (.tmp 76) rfl g8 0 (rfl) CB _ (HR8.out) Tryd.underlying30 rfl (by rw [bid_info, HB36.out]) ?_)
                  | ((with_reducible show wpList _ _ _ (⟨_, .load 30 (.tmp 78), _, _, _, _⟩ :: _) _ _); refine wpList_load_tx rfl 30 (.tmp 78) rfl g5 0 (rfl) CB _ (HR5.out) Tryd.underlying30 rfl (by rw [bid_info, HB36.out]) ?_))
                go_ret
                exact ⟨by first | rfl | simp, HBz.out⟩
              · skip
                try simp only [Act.put, List.getElem_toArray, List.getElem_cons_succ, List.getElem_cons_zero, List.setIfInBounds_toArray, List.set_cons_zero, List.set_cons_succ]
                rw [if_pos (by rfl)]
                refine wp_buildSlice 22 30 1 _ rfl CK.toArray i0 (.agg ZB.toArray) Tryd.underlying22 Hi.out Hz.out (by rw [Hsz.out]; decide) (by rw [Hsz.out]; decide) (by rw [Hsz.out, Array.toList_map]; exact fill_one15 36 (.agg ZB.toArray) CK HK36.out) ?_
                have hd124 := (Below.refl wb114.heap.size wb114).alloc (Nat.le_refl _) (.cells CK.toArray 30)
                have NEbN : Hid (wb114.heap.size ≠ gb) := Lib.hid (by have := (HO58.out.lt gb rfl).2; omega)
                replace H8 := Lib.hid (H8.out.kept (grownBy_of_below hd124 none) (by simp))
                replace HO58 := Lib.hid (HO58.out.below hd124)
                have hHeld2 : Row (wb114.alloc (.cells CK.toArray 30)) w.heap.size 25 [.slice (some ⟨g, off, none⟩) m c, .slice A2 q c2, .int .i64 rd, .int .i64 fl] ∧ Row (wb114.alloc (.cells CK.toArray 30)) (w.heap.size + 1) 30 CK ∧ Row (wb114.alloc (.cells CK.toArray 30)) g5 32 (Au.wc b p) ∧ Below w.heap.size w (wb114.alloc (.cells CK.toArray 30)) := ⟨hHeld.1.kept (grownBy_of_below hd124 none) (by simp), hHeld.2.1.kept (grownBy_of_below hd124 none) (by simp), hHeld.2.2.1.kept (grownBy_of_below hd124 none) (by simp), two_below' hHeld.2.2.2 hd124⟩
                have HN : Hid (Row (wb114.alloc (.cells CK.toArray 30)) wb114.heap.size 30 CK) := Lib.hid (Row.new wb114 30 CK)
                have HNlt : Hid (wb114.heap.size < (wb114.alloc (.cells CK.toArray 30)).heap.size) := Lib.hid HN.out.lt
                have LEwn123 : Hid (B0 ≤ (wb114.alloc (.cells CK.toArray 30)).heap.size) := Lib.hid (Nat.le_trans LEwb114.out hd124.size)
                generalize wb114.alloc (.cells CK.toArray 30) = wn123 at *
                generalize hgn : wb114.heap.size = gN at *
                clear hgn
                refine hK1.out _ _ (hHeld2) (fun hHeld => ?_)
                clear hK1 K1
                try simp only [Act.put, List.getElem_toArray, List.getElem_cons_succ, List.getElem_cons_zero, List.setIfInBounds_toArray, List.set_cons_zero, List.set_cons_succ]
                clear hHeld2
                refine wpAnyH_ready (rs := [3]) (by kernel_rfl) (by simp) (AllReadyH.cons rfl (fun K1 hK1 => ?_) AllReadyH.nil)
                try simp only [Act.put, List.getElem_toArray, List.getElem_cons_succ, List.getElem_cons_zero, List.setIfInBounds_toArray, List.set_cons_zero, List.set_cons_succ]
                rw [if_pos (by rfl)]
                refine wp_append_own_wide _ _ _ 22 rfl B0 30 i0 (.agg ZB.toArray) 36 64 Tryd.underlying22 Hi.out Hz.out Hsz.out Hby.out (by rw [← HZ36.out]; rfl) (by decide) (.slice (some ⟨gb, 0, none⟩) 0 0) _ _ rfl HO58.out.own ⟨g, off, none⟩ m c (Rw.flat Bd.cells L) rfl HFL.out.1 (HFL.out.2.2 _ hHeld.2.2.2) HFL.out.2.1 hk63.out.1 hk48.out.1 LEwn123.out ?_
                intro v61 wp125 hown hgrow _
                replace H8 := Lib.hid (H8.out.kept hgrow (fun e => HO58.out.ne_block H8.out (by decide) e.symm))
                replace HN := Lib.hid (HN.out.kept hgrow (fun e => by simp only [Value.ownBlock, Option.some.injEq] at e; exact absurd e NEbN.out))
                have hHeld2 : Row wp125 w.heap.size 25 [.slice (some ⟨g, off, none⟩) m c, .slice A2 q c2, .int .i64 rd, .int .i64 fl] ∧ Row wp125 (w.heap.size + 1) 30 CK ∧ Row wp125 g5 32 (Au.wc b p) ∧ Below w.heap.size w wp125 := ⟨hHeld.1.kept hgrow (fun e => by have := (HO58.out.lt _ e.symm).1; have := HG.out; omega), hHeld.2.1.kept hgrow (fun e => by have := (HO58.out.lt _ e.symm).1; have := HG.out; omega), hHeld.2.2.1.kept hgrow (fun e => by have := (HO58.out.lt _ e.symm).1; have := HG.out; omega), below_own hHeld.2.2.2 hgrow (fun k hk => by have := (HO58.out.lt _ hk).1; have := HG.out; omega)⟩
                have HO61 : Hid (OwnL wp125 B0 30 36 Bd.cells v61 L) := Lib.hid ⟨by rw [← HM.out]; simpa [Rw.flat_nil] using hown⟩
                have LEwp125 : Hid (B0 ≤ wp125.heap.size) := Lib.hid (Nat.le_trans LEwn123.out hgrow.size)
                clear hown hgrow
                refine hK1.out _ _ (hHeld2) (fun hHeld => ?_)
                clear hK1 K1
                try simp only [Act.put, List.getElem_toArray, List.getElem_cons_succ, List.getElem_cons_zero, List.setIfInBounds_toArray, List.set_cons_zero, List.set_cons_succ]
                clear hHeld2
                refine wpAnyH_ready (rs := [6]) (by kernel_rfl) (by simp) (AllReadyH.cons rfl (fun K1 hK1 => ?_) AllReadyH.nil)
                try simp only [Act.put, List.getElem_toArray, List.getElem_cons_succ, List.getElem_cons_zero, List.setIfInBounds_toArray, List.set_cons_zero, List.set_cons_succ]
                rw [if_pos (by rfl)]
                refine wp_append_own_wide _ _ _ 22 rfl B0 30 i0 (.agg ZB.toArray) 36 64 Tryd.underlying22 Hi.out Hz.out Hsz.out Hby.out (by rw [← HZ36.out]; rfl) (by decide) v61 _ _ rfl HO61.out.own ⟨gN, 0, none⟩ 1 1 CK rfl (by rw [HK36.out]) (row_news HN.out) HK1.out hk63.out.2 hk48.out.2 LEwp125.out ?_
                intro v64 wp126 hown hgrow _
                replace H8 := Lib.hid (H8.out.kept hgrow (fun e => HO61.out.ne_block H8.out (by decide) e.symm))
                have hHeld2 : Row wp126 w.heap.size 25 [.slice (some ⟨g, off, none⟩) m c, .slice A2 q c2, .int .i64 rd, .int .i64 fl] ∧ Row wp126 (w.heap.size + 1) 30 CK ∧ Row wp126 g5 32 (Au.wc b p) ∧ Below w.heap.size w wp126 := ⟨hHeld.1.kept hgrow (fun e => by have := (HO61.out.lt _ e.symm).1; have := HG.out; omega), hHeld.2.1.kept hgrow (fun e => by have := (HO61.out.lt _ e.symm).1; have := HG.out; omega), hHeld.2.2.1.kept hgrow (fun e => by have := (HO61.out.lt _ e.symm).1; have := HG.out; omega), below_own hHeld.2.2.2 hgrow (fun k hk => by have := (HO61.out.lt _ hk).1; have := HG.out; omega)⟩
                have HO64 : Hid (OwnL wp126 B0 30 36 Bd.cells v64 (L ++ [x])) := Lib.hid (OwnL.pushed (by rw [HCK.out]; exact hown))
                have LEwp126 : Hid (B0 ≤ wp126.heap.size) := Lib.hid (Nat.le_trans LEwp125.out hgrow.size)
                clear hown hgrow
                refine hK1.out _ _ (hHeld2) (fun hHeld => ?_)
                clear hK1 K1
                try simp only [Act.put, List.getElem_toArray, List.getElem_cons_succ, List.getElem_cons_zero, List.setIfInBounds_toArray, List.set_cons_zero, List.set_cons_succ]
                clear hHeld2
                refine wpAnyH_ready (rs := [13]) (by kernel_rfl) (by simp) (AllReadyH.cons rfl (fun K1 hK1 => ?_) AllReadyH.nil)
                try simp only [Act.put, List.getElem_toArray, List.getElem_cons_succ, List.getElem_cons_zero, List.setIfInBounds_toArray, List.set_cons_zero, List.set_cons_succ]
                go_simp
                refine Calls.mono (WT.out _ _ hHeld.2.2.2 HO64.out) ?_
                rintro e wv127 ⟨rfl, hc128⟩
                replace H8 := Lib.hid (H8.out.kept (grownBy_of_below hc128 none) (by simp))
                have LEwv127 : Hid (B0 ≤ wv127.heap.size) := Lib.hid (Nat.le_trans LEwp126.out hc128.size)
                refine hK1.out _ _ (⟨hHeld.1.kept (grownBy_of_below hc128 none) (by simp), hHeld.2.1.kept (grownBy_of_below hc128 none) (by simp), hHeld.2.2.1.kept (grownBy_of_below hc128 none) (by simp), two_below' hHeld.2.2.2 hc128⟩) (fun hHeld => ?_)
                clear hK1 K1
                try simp only [Act.put, List.getElem_toArray, List.getElem_cons_succ, List.getElem_cons_zero, List.setIfInBounds_toArray, List.set_cons_zero, List.set_cons_succ]
                refine wpAnyH_take (i := 14) (v := .tuple #[.agg (Au.wc b p2).toArray, .bool true]) rfl (by kernel_rfl) (by kernel_rfl) (by kernel_rfl) (fun _ _ _ h => h) (Or.inl ⟨by rfl, fun w' hSw => by go_simp⟩) hHeld ?_
                try simp only [Act.put, List.getElem_toArray, List.getElem_cons_succ, List.getElem_cons_zero, List.setIfInBounds_toArray, List.set_cons_zero, List.set_cons_succ]
                refine wpAnyH_take (i := 15) (v := .agg (Au.wc b p2).toArray) rfl (by kernel_rfl) (by kernel_rfl) (by kernel_rfl) (fun _ _ _ h => h) (Or.inl ⟨by rfl, fun w' hSw => by go_simp⟩) hHeld ?_
                try simp only [Act.put, List.getElem_toArray, List.getElem_cons_succ, List.getElem_cons_zero, List.setIfInBounds_toArray, List.set_cons_zero, List.set_cons_succ]
                refine wpAnyH_take (i := 16) (v := .bool true) rfl (by kernel_rfl) (by kernel_rfl) (by kernel_rfl) (fun _ _ _ h => h) (Or.inl ⟨by rfl, fun w' hSw => by go_simp⟩) hHeld ?_
                try simp only [Act.put, List.getElem_toArray, List.getElem_cons_succ, List.getElem_cons_zero, List.setIfInBounds_toArray, List.set_cons_zero, List.set_cons_succ]
                refine wpAnyH_ready (rs := [18]) (by kernel_rfl) (by simp) (AllReadyH.cons rfl (fun K1 hK1 => ?_) AllReadyH.nil)
                try simp only [Act.put, List.getElem_toArray, List.getElem_cons_succ, List.getElem_cons_zero, List.setIfInBounds_toArray, List.set_cons_zero, List.set_cons_succ]
                rw [if_pos (by rfl)]
                refine wp_store_at 32 (.tmp 8) (.tmp 72) rfl g8 0 (Au.wc b p2) ZW 32 rfl rfl H8.out (by rw [HX37.out, HZ37.out]; omega) (by rw [win_size, HX37.out]) (HX1.out p2) ?_
                have H8o := H8
                intro ws129 hrS hgS
                rw [splice_all ((HX37.out p2).trans HZ37.out.symm)] at hrS
                have H8 := Lib.hid hrS
                have hHeld2 : Row ws129 w.heap.size 25 [.slice (some ⟨g, off, none⟩) m c, .slice A2 q c2, .int .i64 rd, .int .i64 fl] ∧ Row ws129 (w.heap.size + 1) 30 CK ∧ Row ws129 g5 32 (Au.wc b p) ∧ Below w.heap.size w ws129 := ⟨hHeld.1.kept hgS (fun e => by injection e with e; exact row_ne_row hHeld.1 H8o.out (by decide) e), hHeld.2.1.kept hgS (fun e => by injection e with e; exact row_ne_row hHeld.2.1 H8o.out (by decide) e), hHeld.2.2.1.kept hgS (fun e => by injection e with e; exact N85.out.1 e.symm), below_own hHeld.2.2.2 hgS (fun k hk => by cases hk; exact N85.out.2)⟩
                clear hrS hgS
                refine hK1.out _ _ (hHeld2) (fun hHeld => ?_)
                clear hK1 K1
                try simp only [Act.put, List.getElem_toArray, List.getElem_cons_succ, List.getElem_cons_zero, List.setIfInBounds_toArray, List.set_cons_zero, List.set_cons_succ]
                clear hHeld2
                refine wpAnyH_take (i := 19) (v := .bool true) rfl (by kernel_rfl) (by kernel_rfl) (by kernel_rfl) (fun _ _ _ h => h) (Or.inl ⟨by rfl, fun w' hSw => by go_simp⟩) hHeld ?_
                try simp only [Act.put, List.getElem_toArray, List.getElem_cons_succ, List.getElem_cons_zero, List.setIfInBounds_toArray, List.set_cons_zero, List.set_cons_succ]
                refine wpAnyH_done (by kernel_rfl) ?_ _
                have R8 := HXb.out p2 _ _ H8.out
                have R5 := HXb.out p _ _ hHeld.2.2.1
                have c8 := R8.2
                have c5 := R5.2
                have HR8 := Lib.hid R8.1
                have HR5 := Lib.hid R5.1
                have HBz := Lib.hid hHeld.2.2.2
                clear hHeld R8 R5
                have hbe := HBE.out
                go_wp2_with (first
                  | ((with_reducible show wpList _ _ _ (⟨_, .load 30 (.tmp 76), _, _, _, _⟩ :: _) _ _); refine wpList_load_tx rfl 30 (.tmp 76) rfl g8 0 (rfl) CB _ (HR8.out) Tryd.underlying30 rfl (by rw [bid_info, HB36.out]) ?_)
                  | ((with_reducible show wpList _ _ _ (⟨_, .load 30 (.tmp 78), _, _, _, _⟩ :: _) _ _); refine wpList_load_tx rfl 30 (.tmp 78) rfl g5 0 (rfl) CB _ (HR5.out) Tryd.underlying30 rfl (by rw [bid_info, HB36.out]) ?_))
                go_ret
                exact ⟨by first | rfl | simp, HBz.out⟩
            · skip
              try simp only [Act.put, List.getElem_toArray, List.getElem_cons_succ, List.getElem_cons_zero, List.setIfInBounds_toArray, List.set_cons_zero, List.set_cons_succ]
              rw [if_pos (by rfl)]
              refine wp_buildSlice 22 30 1 _ rfl CK.toArray i0 (.agg ZB.toArray) Tryd.underlying22 Hi.out Hz.out (by rw [Hsz.out]; decide) (by rw [Hsz.out]; decide) (by rw [Hsz.out, Array.toList_map]; exact fill_one15 36 (.agg ZB.toArray) CK HK36.out) ?_
              have hd131 := (Below.refl wz112.heap.size wz112).alloc (Nat.le_refl _) (.cells CK.toArray 30)
              replace H8 := Lib.hid (H8.out.kept (grownBy_of_below hd131 none) (by simp))
              have hHeld2 : Row (wz112.alloc (.cells CK.toArray 30)) w.heap.size 25 [.slice (some ⟨g, off, none⟩) m c, .slice A2 q c2, .int .i64 rd, .int .i64 fl] ∧ Row (wz112.alloc (.cells CK.toArray 30)) (w.heap.size + 1) 30 CK ∧ Row (wz112.alloc (.cells CK.toArray 30)) g5 32 (Au.wc b p) ∧ Below w.heap.size w (wz112.alloc (.cells CK.toArray 30)) := ⟨hHeld.1.kept (grownBy_of_below hd131 none) (by simp), hHeld.2.1.kept (grownBy_of_below hd131 none) (by simp), hHeld.2.2.1.kept (grownBy_of_below hd131 none) (by simp), two_below' hHeld.2.2.2 hd131⟩
              have HN : Hid (Row (wz112.alloc (.cells CK.toArray 30)) wz112.heap.size 30 CK) := Lib.hid (Row.new wz112 30 CK)
              have HNlt : Hid (wz112.heap.size < (wz112.alloc (.cells CK.toArray 30)).heap.size) := Lib.hid HN.out.lt
              have LEwn130 : Hid (B0 ≤ (wz112.alloc (.cells CK.toArray 30)).heap.size) := Lib.hid (Nat.le_trans LEwz112.out hd131.size)
              generalize wz112.alloc (.cells CK.toArray 30) = wn130 at *
              generalize hgn : wz112.heap.size = gN at *
              clear hgn
              refine hK1.out _ _ (hHeld2) (fun hHeld => ?_)
              clear hK1 K1
              try simp only [Act.put, List.getElem_toArray, List.getElem_cons_succ, List.getElem_cons_zero, List.setIfInBounds_toArray, List.set_cons_zero, List.set_cons_succ]
              clear hHeld2
              refine wpAnyH_ready (rs := [0]) (by kernel_rfl) (by simp) (AllReadyH.cons rfl (fun K1 hK1 => ?_) AllReadyH.nil)
              try simp only [Act.put, List.getElem_toArray, List.getElem_cons_succ, List.getElem_cons_zero, List.setIfInBounds_toArray, List.set_cons_zero, List.set_cons_succ]
              go_simp
              have NEbN : Hid (gN ≠ wn130.heap.size) := Lib.hid (by have := HN.out.lt; omega)
              have hd133 := (Below.refl wn130.heap.size wn130).alloc (Nat.le_refl _) (.cells #[] 30)
              replace H8 := Lib.hid (H8.out.kept (grownBy_of_below hd133 none) (by simp))
              replace HN := Lib.hid (HN.out.kept (grownBy_of_below hd133 none) (by simp))
              have HBs := Lib.hid hHeld
              have hHeld2 : Row (wn130.alloc (.cells #[] 30)) w.heap.size 25 [.slice (some ⟨g, off, none⟩) m c, .slice A2 q c2, .int .i64 rd, .int .i64 fl] ∧ Row (wn130.alloc (.cells #[] 30)) (w.heap.size + 1) 30 CK ∧ Row (wn130.alloc (.cells #[] 30)) g5 32 (Au.wc b p) ∧ Below w.heap.size w (wn130.alloc (.cells #[] 30)) := ⟨hHeld.1.kept (grownBy_of_below hd133 none) (by simp), hHeld.2.1.kept (grownBy_of_below hd133 none) (by simp), hHeld.2.2.1.kept (grownBy_of_below hd133 none) (by simp), two_below' hHeld.2.2.2 hd133⟩
              have HO58 : Hid (OwnL (wn130.alloc (.cells #[] 30)) B0 30 36 Bd.cells (.slice (some ⟨wn130.heap.size, 0, none⟩) 0 0) []) := Lib.hid (row_own (Row.new wn130 30 []) LEwn130.out rfl (Nat.le_refl _) (by unfold maxLen; omega) rfl rfl rfl)
              have LEwb132 : Hid (B0 ≤ (wn130.alloc (.cells #[] 30)).heap.size) := Lib.hid (Nat.le_trans LEwn130.out hd133.size)
              generalize wn130.alloc (.cells #[] 30) = wb132 at *
              generalize hgb : wn130.heap.size = gb at *
              have HGB := Lib.hid hgb
              clear hgb
              refine hK1.out _ _ (hHeld2) (fun hHeld => ?_)
              clear hK1 K1
              try simp only [Act.put, List.getElem_toArray, List.getElem_cons_succ, List.getElem_cons_zero, List.setIfInBounds_toArray, List.set_cons_zero, List.set_cons_succ]
              clear hHeld2
              refine wpAnyH_ready (rs := [3]) (by kernel_rfl) (by simp) (AllReadyH.cons rfl (fun K1 hK1 => ?_) AllReadyH.nil)
              try simp only [Act.put, List.getElem_toArray, List.getElem_cons_succ, List.getElem_cons_zero, List.setIfInBounds_toArray, List.set_cons_zero, List.set_cons_succ]
              rw [if_pos (by rfl)]
              refine wp_append_own_wide _ _ _ 22 rfl B0 30 i0 (.agg ZB.toArray) 36 64 Tryd.underlying22 Hi.out Hz.out Hsz.out Hby.out (by rw [← HZ36.out]; rfl) (by decide) (.slice (some ⟨gb, 0, none⟩) 0 0) _ _ rfl HO58.out.own ⟨g, off, none⟩ m c (Rw.flat Bd.cells L) rfl HFL.out.1 (HFL.out.2.2 _ hHeld.2.2.2) HFL.out.2.1 hk63.out.1 hk48.out.1 LEwb132.out ?_
              intro v61 wp134 hown hgrow _
              replace H8 := Lib.hid (H8.out.kept hgrow (fun e => HO58.out.ne_block H8.out (by decide) e.symm))
              replace HN := Lib.hid (HN.out.kept hgrow (fun e => by simp only [Value.ownBlock, Option.some.injEq] at e; exact absurd e NEbN.out))
              have hHeld2 : Row wp134 w.heap.size 25 [.slice (some ⟨g, off, none⟩) m c, .slice A2 q c2, .int .i64 rd, .int .i64 fl] ∧ Row wp134 (w.heap.size + 1) 30 CK ∧ Row wp134 g5 32 (Au.wc b p) ∧ Below w.heap.size w wp134 := ⟨hHeld.1.kept hgrow (fun e => by have := (HO58.out.lt _ e.symm).1; have := HG.out; omega), hHeld.2.1.kept hgrow (fun e => by have := (HO58.out.lt _ e.symm).1; have := HG.out; omega), hHeld.2.2.1.kept hgrow (fun e => by have := (HO58.out.lt _ e.symm).1; have := HG.out; omega), below_own hHeld.2.2.2 hgrow (fun k hk => by have := (HO58.out.lt _ hk).1; have := HG.out; omega)⟩
              have HO61 : Hid (OwnL wp134 B0 30 36 Bd.cells v61 L) := Lib.hid ⟨by rw [← HM.out]; simpa [Rw.flat_nil] using hown⟩
              have LEwp134 : Hid (B0 ≤ wp134.heap.size) := Lib.hid (Nat.le_trans LEwb132.out hgrow.size)
              clear hown hgrow
              refine hK1.out _ _ (hHeld2) (fun hHeld => ?_)
              clear hK1 K1
              try simp only [Act.put, List.getElem_toArray, List.getElem_cons_succ, List.getElem_cons_zero, List.setIfInBounds_toArray, List.set_cons_zero, List.set_cons_succ]
              clear hHeld2
              refine wpAnyH_ready (rs := [6]) (by kernel_rfl) (by simp) (AllReadyH.cons rfl (fun K1 hK1 => ?_) AllReadyH.nil)
              try simp only [Act.put, List.getElem_toArray, List.getElem_cons_succ, List.getElem_cons_zero, List.setIfInBounds_toArray, List.set_cons_zero, List.set_cons_succ]
              rw [if_pos (by rfl)]
              refine wp_append_own_wide _ _ _ 22 rfl B0 30 i0 (.agg ZB.toArray) 36 64 Tryd.underlying22 Hi.out Hz.out Hsz.out Hby.out (by rw [← HZ36.out]; rfl) (by decide) v61 _ _ rfl HO61.out.own ⟨gN, 0, none⟩ 1 1 CK rfl (by rw [HK36.out]) (row_news HN.out) HK1.out hk63.out.2 hk48.out.2 LEwp134.out ?_
              intro v64 wp135 hown hgrow _
              replace H8 := Lib.hid (H8.out.kept hgrow (fun e => HO61.out.ne_block H8.out (by decide) e.symm))
              have hHeld2 : Row wp135 w.heap.size 25 [.slice (some ⟨g, off, none⟩) m c, .slice A2 q c2, .int .i64 rd, .int .i64 fl] ∧ Row wp135 (w.heap.size + 1) 30 CK ∧ Row wp135 g5 32 (Au.wc b p) ∧ Below w.heap.size w wp135 := ⟨hHeld.1.kept hgrow (fun e => by have := (HO61.out.lt _ e.symm).1; have := HG.out; omega), hHeld.2.1.kept hgrow (fun e => by have := (HO61.out.lt _ e.symm).1; have := HG.out; omega), hHeld.2.2.1.kept hgrow (fun e => by have := (HO61.out.lt _ e.symm).1; have := HG.out; omega), below_own hHeld.2.2.2 hgrow (fun k hk => by have := (HO61.out.lt _ hk).1; have := HG.out; omega)⟩
              have HO64 : Hid (OwnL wp135 B0 30 36 Bd.cells v64 (L ++ [x])) := Lib.hid (OwnL.pushed (by rw [HCK.out]; exact hown))
              have LEwp135 : Hid (B0 ≤ wp135.heap.size) := Lib.hid (Nat.le_trans LEwp134.out hgrow.size)
              clear hown hgrow
              refine hK1.out _ _ (hHeld2) (fun hHeld => ?_)
              clear hK1 K1
              try simp only [Act.put, List.getElem_toArray, List.getElem_cons_succ, List.getElem_cons_zero, List.setIfInBounds_toArray, List.set_cons_zero, List.set_cons_succ]
              clear hHeld2
              refine wpAnyH_ready (rs := [13]) (by kernel_rfl) (by simp) (AllReadyH.cons rfl (fun K1 hK1 => ?_) AllReadyH.nil)
              try simp only [Act.put, List.getElem_toArray, List.getElem_cons_succ, List.getElem_cons_zero, List.setIfInBounds_toArray, List.set_cons_zero, List.set_cons_succ]
              go_simp
              refine Calls.mono (WT.out _ _ hHeld.2.2.2 HO64.out) ?_
              rintro e wv136 ⟨rfl, hc137⟩
              replace H8 := Lib.hid (H8.out.kept (grownBy_of_below hc137 none) (by simp))
              have LEwv136 : Hid (B0 ≤ wv136.heap.size) := Lib.hid (Nat.le_trans LEwp135.out hc137.size)
              refine hK1.out _ _ (⟨hHeld.1.kept (grownBy_of_below hc137 none) (by simp), hHeld.2.1.kept (grownBy_of_below hc137 none) (by simp), hHeld.2.2.1.kept (grownBy_of_below hc137 none) (by simp), two_below' hHeld.2.2.2 hc137⟩) (fun hHeld => ?_)
              clear hK1 K1
              try simp only [Act.put, List.getElem_toArray, List.getElem_cons_succ, List.getElem_cons_zero, List.setIfInBounds_toArray, List.set_cons_zero, List.set_cons_succ]
              refine wpAnyH_take (i := 14) (v := .tuple #[.agg (Au.wc b p2).toArray, .bool true]) rfl (by kernel_rfl) (by kernel_rfl) (by kernel_rfl) (fun _ _ _ h => h) (Or.inl ⟨by rfl, fun w' hSw => by go_simp⟩) hHeld ?_
              try simp only [Act.put, List.getElem_toArray, List.getElem_cons_succ, List.getElem_cons_zero, List.setIfInBounds_toArray, List.set_cons_zero, List.set_cons_succ]
              refine wpAnyH_take (i := 15) (v := .agg (Au.wc b p2).toArray) rfl (by kernel_rfl) (by kernel_rfl) (by kernel_rfl) (fun _ _ _ h => h) (Or.inl ⟨by rfl, fun w' hSw => by go_simp⟩) hHeld ?_
              try simp only [Act.put, List.getElem_toArray, List.getElem_cons_succ, List.getElem_cons_zero, List.setIfInBounds_toArray, List.set_cons_zero, List.set_cons_succ]
              refine wpAnyH_take (i := 16) (v := .bool true) rfl (by kernel_rfl) (by kernel_rfl) (by kernel_rfl) (fun _ _ _ h => h) (Or.inl ⟨by rfl, fun w' hSw => by go_simp⟩) hHeld ?_
              try simp only [Act.put, List.getElem_toArray, List.getElem_cons_succ, List.getElem_cons_zero, List.setIfInBounds_toArray, List.set_cons_zero, List.set_cons_succ]
              refine wpAnyH_ready (rs := [18]) (by kernel_rfl) (by simp) (AllReadyH.cons rfl (fun K1 hK1 => ?_) AllReadyH.nil)
              try simp only [Act.put, List.getElem_toArray, List.getElem_cons_succ, List.getElem_cons_zero, List.setIfInBounds_toArray, List.set_cons_zero, List.set_cons_succ]
              rw [if_pos (by rfl)]
              refine wp_store_at 32 (.tmp 8) (.tmp 72) rfl g8 0 (Au.wc b p2) ZW 32 rfl rfl H8.out (by rw [HX37.out, HZ37.out]; omega) (by rw [win_size, HX37.out]) (HX1.out p2) ?_
              have H8o := H8
              intro ws138 hrS hgS
              rw [splice_all ((HX37.out p2).trans HZ37.out.symm)] at hrS
              have H8 := Lib.hid hrS
              have hHeld2 : Row ws138 w.heap.size 25 [.slice (some ⟨g, off, none⟩) m c, .slice A2 q c2, .int .i64 rd, .int .i64 fl] ∧ Row ws138 (w.heap.size + 1) 30 CK ∧ Row ws138 g5 32 (Au.wc b p) ∧ Below w.heap.size w ws138 := ⟨hHeld.1.kept hgS (fun e => by injection e with e; exact row_ne_row hHeld.1 H8o.out (by decide) e), hHeld.2.1.kept hgS (fun e => by injection e with e; exact row_ne_row hHeld.2.1 H8o.out (by decide) e), hHeld.2.2.1.kept hgS (fun e => by injection e with e; exact N85.out.1 e.symm), below_own hHeld.2.2.2 hgS (fun k hk => by cases hk; exact N85.out.2)⟩
              clear hrS hgS
              refine hK1.out _ _ (hHeld2) (fun hHeld => ?_)
              clear hK1 K1
              try simp only [Act.put, List.getElem_toArray, List.getElem_cons_succ, List.getElem_cons_zero, List.setIfInBounds_toArray, List.set_cons_zero, List.set_cons_succ]
              clear hHeld2
              refine wpAnyH_take (i := 19) (v := .bool true) rfl (by kernel_rfl) (by kernel_rfl) (by kernel_rfl) (fun _ _ _ h => h) (Or.inl ⟨by rfl, fun w' hSw => by go_simp⟩) hHeld ?_
              try simp only [Act.put, List.getElem_toArray, List.getElem_cons_succ, List.getElem_cons_zero, List.setIfInBounds_toArray, List.set_cons_zero, List.set_cons_succ]
              refine wpAnyH_done (by kernel_rfl) ?_ _
              have R8 := HXb.out p2 _ _ H8.out
              have R5 := HXb.out p _ _ hHeld.2.2.1
              have c8 := R8.2
              have c5 := R5.2
              have HR8 := Lib.hid R8.1
              have HR5 := Lib.hid R5.1
              have HBz := Lib.hid hHeld.2.2.2
              clear hHeld R8 R5
              have hbe := HBE.out
              go_wp2_with (first
                | ((with_reducible show wpList _ _ _ (⟨_, .load 30 (.tmp 76), _, _, _, _⟩ :: _) _ _); refine wpList_load_tx rfl 30 (.tmp 76) rfl g8 0 (rfl) CB _ (HR8.out) Tryd.underlying30 rfl (by rw [bid_info, HB36.out]) ?_)
                | ((with_reducible show wpList _ _ _ (⟨_, .load 30 (.tmp 78), _, _, _, _⟩ :: _) _ _); refine wpList_load_tx rfl 30 (.tmp 78) rfl g5 0 (rfl) CB _ (HR5.out) Tryd.underlying30 rfl (by rw [bid_info, HB36.out]) ?_))
              go_ret
              exact ⟨by first | rfl | simp, HBz.out⟩
end Go.Proofs.YtlapmdgkcidhnaaDoor
