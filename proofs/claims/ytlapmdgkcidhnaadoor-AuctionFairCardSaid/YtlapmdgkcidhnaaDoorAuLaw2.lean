/- AuctionFair. -/
import Derived.Test.YtlapmdgkcidhnaaDoorAuOpen
namespace Go.Proofs.YtlapmdgkcidhnaaDoor
open Go.RowKit
set_option linter.unusedVariables false
set_option linter.unusedSimpArgs false
set_option maxRecDepth 100000

theorem Au.Won.le {fl : Int} {L : List Bd} {x y : Bd} {p : Int} (k : Au.Won Bd.amount Au.sum Au.txt fl L x p) (hy : y ∈ L) : y.amount ≤ x.amount := by
  have := k.ge y hy
  rw [Au.ge_iff] at this
  rcases this with h | ⟨h, _⟩ <;> omega
theorem Au.Won.price {fl : Int} {L : List Bd} {x : Bd} {p : Int} (k : Au.Won Bd.amount Au.sum Au.txt fl L x p) (hf : ∀ y ∈ L, fl ≤ y.amount) : p ≤ x.amount := by
  rcases k.is with e | ⟨y, hy, _, e⟩
  · have := hf x k.mem; omega
  · have := k.le hy; omega
def Au.seen (L : List Bd) (x : Bd) [DecidableEq Bd] (i : Nat) : Bool := (L.take i).any fun y => decide (y = x)
set_option maxHeartbeats 6400000 in
theorem auctionFair_any (hRS : RefSum) (A : Option Addr) (c : Nat) (l : List Bd) (A2 : Option Addr) (c2 : Nat) (F : List Int) (rd fl : Int) (w : World) (hC : CaseIn w A c l A2 F rd fl) (hT : Tab w) :
    Calls Tryd.prog 4 #[.agg #[.slice A l.length c, .slice A2 F.length c2, .int .i64 rd, .int .i64 fl]] w fun e w' => e = .returned (.bool true) ∧ Below w.heap.size w w' := by
  have hlt : (l.take 80).length ≤ 1000000 := by rw [List.length_take]; omega
  have HFit := Lib.hid (show ∀ b ∈ l.take 80, b.Fits from fun b hb => hC.fits b (List.mem_of_mem_take hb))
  have HP := Lib.hid hT.pos
  have HT := Lib.hid hT
  have FE : Hid (∀ W, Calls Tryd.prog 13 #[.slice A l.length c] W fun e w' => e = .returned (.slice A (l.take 80).length c) ∧ W = w') := Lib.hid (fun W => few15_any A c l W hC.len hC.cap)
  have WN : Hid (∀ W, Below w.heap.size w W → Calls Tryd.prog 14 #[.slice A (l.take 80).length c, .slice A2 F.length c2, .int .i64 rd, .int .i64 fl] W fun e w' => e = .returned (Au.winV (Au.winB F rd fl (l.take 80))) ∧ Below W.heap.size W w') :=
    Lib.hid (fun W hW => win_any (l.take 80) (fun b hb => (HFit.out b hb).tag) A c F A2 c2 rd fl W (((hC.bids.take 80).below hW).mono hW.size) hlt ((hC.funds.below hW).mono hW.size) hC.flen (HT.out.below hW HP.out))
  have RW : Hid (∀ W, Below w.heap.size w W → Calls Tryd.prog 15 #[.slice A (l.take 80).length c, .slice A2 F.length c2, .int .i64 rd, .int .i64 fl] W fun e w' => e = .returned (Au.winV (Au.winB F rd fl (l.take 80))) ∧ Below W.heap.size W w') :=
    Lib.hid (fun W hW => rwin_any hRS (l.take 80) HFit.out A c F A2 c2 rd fl W (((hC.bids.take 80).below hW).mono hW.size) hlt ((hC.funds.below hW).mono hW.size) hC.flen)
  have RC : Hid (∀ W, Below w.heap.size w W → Calls Tryd.prog 17 #[.slice A (l.take 80).length c, .slice A2 F.length c2, .int .i64 rd, .int .i64 fl] W fun e w' => ∃ v, e = .returned v ∧ OwnL w' W.heap.size 30 36 Bd.cells v (Au.cnt F rd fl (l.take 80)) ∧ Below W.heap.size W w') :=
    Lib.hid (fun W hW => rcounts_any hRS (l.take 80) HFit.out A c F A2 c2 rd fl W (((hC.bids.take 80).below hW).mono hW.size) hlt ((hC.funds.below hW).mono hW.size) hC.flen)
  have AWK : Hid (∀ W, Below w.heap.size w W → Calls Tryd.prog 16 #[] W fun e w' => e = .returned (.bool true) ∧ Below W.heap.size W w') := Lib.hid (fun W hW => awake15_any hRS W (HT.out.below hW HP.out))
  have HFR := Lib.hid (Au.winB_fits (F := F) (r := rd) (fl := fl) HFit.out hC.floor)
  have hR0 : Au.winB F rd fl (l.take 80) = Au.win Bd.amount Au.sum Au.txt Bd.zero fl (Au.cnt F rd fl (l.take 80)) := rfl
  have hGf : ∀ b ∈ Au.cnt F rd fl (l.take 80), b.Fits := fun b hb => HFit.out b (Au.counts_mem hb).1
  have hGl : ∀ b ∈ Au.cnt F rd fl (l.take 80), fl ≤ b.amount := fun b hb => (Au.okB_low (Au.cnt_ok hb)).2
  have hGn := Nat.le_trans (cnt_len F rd fl (l.take 80)) hlt
  have hGd := Au.nodup_of (Au.counts_apart (Au.okB F rd fl) Bd.who (l.take 80))
  change (Au.cnt F rd fl (l.take 80)).Nodup at hGd
  obtain ⟨R, hR⟩ : ∃ R, R = Au.winB F rd fl (l.take 80) := ⟨_, rfl⟩
  obtain ⟨G, hG⟩ : ∃ G, G = Au.cnt F rd fl (l.take 80) := ⟨_, rfl⟩
  rw [← hR] at WN HFR hR0
  rw [← hG] at RC hR0 hGf hGl hGn hGd
  unfold Au.winV at WN
  clear hR hG hlt RW
  have HR37 := Lib.hid (Au.winC_len HFR.out)
  have HR1 := Lib.hid (Au.winC_one HFR.out)
  have HWS := Lib.hid (fun W => win_same W R HFR.out)
  have HZ37 := Lib.hid (Au.wc_len (b := Bd.zero) (p := 0) rfl)
  have hzw := win_zv
  generalize Au.wc Bd.zero 0 = ZW at *
  obtain ⟨m, hm⟩ : ∃ m, m = (l.take 80).length := ⟨_, rfl⟩
  rw [← hm] at FE WN RC
  have HM := Lib.hid hm
  generalize l.length = n at *
  generalize F.length = q at *
  clear hC hT hRS hm
  have hr0 := Row.new w 25 [.slice A m c, .slice A2 q c2, .int .i64 rd, .int .i64 fl]
  have Hb1 : Hid (Below w.heap.size w (w.alloc (.cells #[.slice A m c, .slice A2 q c2, .int .i64 rd, .int .i64 fl] 25))) := Lib.hid ((Below.refl _ _).alloc (Nat.le_refl _) _)
  have Hr1 := Lib.hid hr0
  clear hr0
  cases R with
  | none =>
    have hG0 : G = [] := Au.win_none.1 hR0.symm
    have hws := HWS.out
    have HBt : Hid (Tryd.prog.built 32 [] = some (Au.winC none).toArray) := Lib.hid (by rw [win_built0]; rfl)
    clear hR0 hGf hGl hGn hGd HWS
    generalize Au.winC none = CR at *
    go_enter Tryd.func4, Tryd.ntmps4
    go_wp2_with fail
    refine (FE.out _).mono ?_
    rintro _ w1 ⟨rfl, rfl⟩
    clear FE
    go_wp2_with fail
    refine (WN.out _ Hb1.out).mono ?_
    rintro _ w2 ⟨rfl, hb2⟩
    have HB2 : Hid (Blocks w w2 [(w.heap.size, 25, [.slice A m c, .slice A2 q c2, .int .i64 rd, .int .i64 fl])]) := Lib.hid (((Blocks.nil Hb1.out).cons Hr1.out).step hb2)
    clear hb2
    have Hn2 := Lib.hid (Row.new w2 32 ZW)
    simp only [Option.isSome_none]
    go_wp2_with (first
      | (
         with_reducible show wpList _ _ _ (⟨_, .store 32 (.tmp 3) _, _, _, _, _⟩ :: _) _ _
         refine wpList_store_at rfl 32 (.tmp 3) (.tmp 22) rfl w2.heap.size 0 CR ZW _ rfl rfl (Hn2.out) (by have := HZ37.out; have := HR37.out; omega) (by rw [win_size, HR37.out]) HR1.out ?_
         intro w3 hr hg
         rw [splice_all (HR37.out.trans HZ37.out.symm)] at hr
         have HB3 := Lib.hid (((HB2.out.alloc (.cells ZW.toArray 32)).put hg HB2.out.size HB2.out.fresh).cons hr)
         have hrrc := HB3.out.tl.hd
         have e0c := hrrc.cell 0 (by simp)
         have e1c := hrrc.cell 1 (by simp)
         have e2c := hrrc.cell 2 (by simp)
         have e3c := hrrc.cell 3 (by simp)
         simp only [List.getElem_cons_zero, List.getElem_cons_succ] at e0c e1c e2c e3c
         clear hrrc
         clear hr hg))
    refine (RC.out _ HB3.out.1).mono ?_
    rintro _ w4 ⟨v, rfl, ho4, hb4⟩
    have HB4 := Lib.hid (HB3.out.step hb4)
    obtain ⟨A1, c1, rfl, hlc, hcm⟩ := ho4.form
    have hm0 : G.length = 0 := by rw [hG0]; rfl
    rw [hm0]
    clear hb4 ho4 hlc
    go_wp2_with fail
    refine (AWK.out _ HB4.out.1).mono ?_
    rintro _ w6 ⟨rfl, hb6⟩
    have HB6 := Lib.hid (HB4.out.step hb6)
    clear hb6
    go_wp2_with (first
      | ((with_reducible show wpList _ _ _ (⟨_, .load 32 (.tmp 3), _, _, _, _⟩ :: _) _ _); refine wpList_load_tx rfl 32 (.tmp 3) rfl w2.heap.size 0 (rfl) CR _ (row_range HB6.out.hd) Tryd.underlying32 rfl (by rw [win_size, HR37.out]) ?_)
      | ((with_reducible show wpList _ _ _ (⟨_, .build 32 _, _, _, _, _⟩ :: _) _ _); refine wpList_buildL rfl 32 [] rfl (some 45) rfl _ rfl CR.toArray HBt.out ?_))
    go_ret
    exact ⟨by first | rfl | simp, HB6.out.1⟩
  | some xp =>
    obtain ⟨x, p⟩ := xp
    have k := Au.win_won hGl hGd hR0.symm
    have hxF : x.Fits := hGf x k.mem
    obtain ⟨m1', hm1'⟩ : ∃ m1, m1 = G.length := ⟨_, rfl⟩
    have hpos : 0 < m1' := by rw [hm1']; exact List.length_pos_iff.2 (fun e => by have := k.mem; rw [e] at this; cases this)
    obtain ⟨X, hX⟩ : ∃ X : Nat → Bd, X = fun k => G.getD k Bd.zero := ⟨_, rfl⟩
    have hX2 : ∀ k, G.getD k Bd.zero = X k := fun k => by rw [hX]
    have hXm : ∀ i, i < m1' → X i ∈ G := fun i hi => by rw [← hX2]; exact Au.getD_mem (by omega)
    have HXF : Hid (∀ i, i < m1' → (X i).Fits) := Lib.hid (fun i hi => hGf _ (hXm i hi))
    have HXL : Hid (∀ i, i < m1' → (X i).amount ≤ x.amount) := Lib.hid (fun i hi => k.le (hXm i hi))
    have HXP : Hid (∀ i, i < m1' → (X i).who ≠ x.who → (X i).amount ≤ p) := Lib.hid (fun i hi hne => k.max _ (hXm i hi) (fun e => hne (by rw [e])))
    have HEL : Hid (∀ W base A1 c1, OwnL W base 30 36 Bd.cells (.slice A1 m1' c1) G → ∀ i, i < m1' → ∃ g, A1 = some ⟨g, 0, none⟩ ∧ g < W.heap.size ∧ W.rangeAt g (i * 36) (X i).cells) := Lib.hid (fun W base A1 c1 h i hi => by
      obtain ⟨g, c', e, _, hg⟩ := h.ne (fun e => by rw [e] at hm1'; simp at hm1'; omega)
      injection e with e1 e2 e3
      subst e1
      refine ⟨g, rfl, hg, ?_⟩
      have h1 := h.at (fun x hx => Bd.cells_len (hGf x hx).tag) i (by omega)
      rw [← hX2, List.getD_eq_getElem?_getD, List.getElem?_eq_getElem (by omega)]
      exact h1)
    obtain ⟨MN, hMN⟩ : ∃ MN : Nat → Bool, MN 0 = false ∧ (∀ i, i < m1' → ∀ d : Bool, (d = true ↔ X i = x) → MN (i + 1) = (MN i || d)) ∧ MN m1' = true := by
      classical
      refine ⟨fun i => (G.take i).any fun y => decide (y = x), rfl, fun i hi d hd => ?_, ?_⟩
      · show ((G.take (i + 1)).any _) = ((G.take i).any _ || d)
        rw [List.take_add_one, List.getElem?_eq_getElem (by omega), Option.toList_some, List.any_append]
        congr 1
        have e : G[i] = X i := by rw [← hX2, List.getD_eq_getElem?_getD, List.getElem?_eq_getElem (by omega)]; rfl
        simp only [List.any_cons, List.any_nil, Bool.or_false, e]
        rw [Bool.eq_iff_iff, decide_eq_true_eq, hd]
      · show ((G.take m1').any _) = true
        rw [hm1', List.take_length, List.any_eq_true]
        exact ⟨x, k.mem, by simp⟩
    have HMN0 := Lib.hid hMN.1
    have HMNS := Lib.hid hMN.2.1
    have HMNE := Lib.hid hMN.2.2
    have hlow := k.low
    have hpr := k.price hGl
    have dlow : decide (fl ≤ p) = true := by simpa using hlow
    have dpr : decide (p ≤ x.amount) = true := by simpa using hpr
    have HXx := Lib.hid hxF
    have hn1 : m1' ≤ 1000000 := by omega
    have hmi : (0 : Int) < (m1' : Int) := by omega
    have dmi : decide (0 < m1') = true := by simpa using hpos
    have dmj : decide ((0 : Int) < (m1' : Int)) = true := by simpa using hmi
    have hCR : Au.winC (some (x, p)) = Au.wc x p := rfl
    rw [hCR] at WN HR37 HR1
    have HX36 := Lib.hid (Bd.cells_len hxF.tag)
    have HBox : Hid (∀ W g, Row W g 32 (Au.wc x p) → W.rangeAt g 0 x.cells ∧ W.cell? ⟨g, 1, none⟩ = some (.int .i64 x.who) ∧ W.cell? ⟨g, 2, none⟩ = some (.int .i64 x.amount) ∧ W.cell? ⟨g, 36, none⟩ = some (.int .i64 p)) := Lib.hid (fun W g h => by
      have h1 := row_range h
      have h2 : W.rangeAt g 0 x.cells := range_head h1
      have h3 := h1 36 (.int .i64 p) (by unfold Au.wc; rw [List.getElem?_append_right (by rw [HX36.out]; omega), HX36.out]; rfl)
      have a1 := h2 1 _ rfl
      have a2 := h2 2 _ rfl
      rw [Nat.zero_add] at a1 a2 h3
      exact ⟨h2, a1, a2, h3⟩)
    obtain ⟨CX, hCX⟩ : ∃ CX, CX = x.cells := ⟨_, rfl⟩
    have HCX := Lib.hid hCX
    rw [← hCX] at HBox HX36
    generalize Au.wc x p = CR at *
    have HM1 := Lib.hid hm1'
    rw [← hm1'] at hGn
    clear hR0 hGf hGl hGd HWS k hxF hX hX2 hXm hMN hlow hpr hCR hCX hm1'
    go_enter Tryd.func4, Tryd.ntmps4
    go_wp2_with fail
    refine (FE.out _).mono ?_
    rintro _ w1 ⟨rfl, rfl⟩
    clear FE
    go_wp2_with fail
    refine (WN.out _ Hb1.out).mono ?_
    rintro _ w2 ⟨rfl, hb2⟩
    have HB2 : Hid (Blocks w w2 [(w.heap.size, 25, [.slice A m c, .slice A2 q c2, .int .i64 rd, .int .i64 fl])]) := Lib.hid (((Blocks.nil Hb1.out).cons Hr1.out).step hb2)
    clear hb2
    have Hn2 := Lib.hid (Row.new w2 32 ZW)
    simp only [Option.isSome_some]
    go_wp2_with (first
      | (
         with_reducible show wpList _ _ _ (⟨_, .store 32 (.tmp 3) _, _, _, _, _⟩ :: _) _ _
         refine wpList_store_at rfl 32 (.tmp 3) (.tmp 22) rfl w2.heap.size 0 CR ZW _ rfl rfl (Hn2.out) (by have := HZ37.out; have := HR37.out; omega) (by rw [win_size, HR37.out]) HR1.out ?_
         intro w3 hr hg
         rw [splice_all (HR37.out.trans HZ37.out.symm)] at hr
         have HB3 := Lib.hid (((HB2.out.alloc (.cells ZW.toArray 32)).put hg HB2.out.size HB2.out.fresh).cons hr)
         have hrrc := HB3.out.tl.hd
         have e0c := hrrc.cell 0 (by simp)
         have e1c := hrrc.cell 1 (by simp)
         have e2c := hrrc.cell 2 (by simp)
         have e3c := hrrc.cell 3 (by simp)
         simp only [List.getElem_cons_zero, List.getElem_cons_succ] at e0c e1c e2c e3c
         clear hrrc
         clear hr hg))
    refine (RC.out _ HB3.out.1).mono ?_
    rintro _ w4 ⟨v, rfl, ho4, hb4⟩
    have HB4 := Lib.hid (HB3.out.step hb4)
    obtain ⟨A1, c1, rfl, hlc, hcm⟩ := ho4.form
    rw [← HM1.out] at ho4 ⊢
    have HE4 := Lib.hid (HEL.out _ _ _ _ ho4)
    clear hb4 ho4 hlc
    go_wp2_with fail
    refine (AWK.out _ HB4.out.1).mono ?_
    rintro _ w6 ⟨rfl, hb6⟩
    have HB6 := Lib.hid (HB4.out.step hb6)
    have HE6 : Hid (∀ i, i < m1' → ∃ g, A1 = some ⟨g, 0, none⟩ ∧ g < w6.heap.size ∧ w6.rangeAt g (i * 36) (X i).cells) := Lib.hid (fun i hi => by
      obtain ⟨g, e, hg, ha⟩ := HE4.out i hi
      exact ⟨g, e, Nat.lt_of_lt_of_le hg hb6.size, fun j u hu => (hb6.cell (p := ⟨g, i * 36 + j, none⟩) hg).trans (ha j u hu)⟩)
    clear hb6 HE4
    go_wp2_with fail
    generalize m1' = m1 at *
    generalize w2.heap.size = g3 at *
    go_loopw [6, 7] (fun s6 s7 wr => ∃ i : Nat, i ≤ m1 ∧ s7 = .int .i64 i ∧ s6 = .bool (MN i) ∧ Below w6.heap.size w6 wr) (fun _ i _ => m1 - (intOf i).toNat)
    case atStart => exact ⟨0, Nat.zero_le _, rfl, (by rw [HMN0.out] <;> rfl), Below.refl _ _⟩
    case round =>
      obtain ⟨i, him, rfl, rfl, hbr⟩ := hrel
      have HBr := Lib.hid (HB6.out.step hbr)
      have Hbr := Lib.hid hbr
      clear hbr
      obtain ⟨x0, x1, x2, x36⟩ := HBox.out _ _ HBr.out.hd
      by_cases hin : i < m1
      · have hini : (i : Int) < (m1 : Int) := by omega
        have hi0 : (0 : Int) ≤ (i : Int) := by omega
        obtain ⟨g, rfl, hg, hat⟩ := HE6.out i hin
        have hb' : ∀ j u, (X i).cells[j]? = some u → wr.cell? ⟨g, i * 36 + j, none⟩ = some u := fun j u hu => (Hbr.out.cell (p := ⟨g, i * 36 + j, none⟩) hg).trans (hat j u hu)
        have y1 := hb' 1 _ rfl
        have y2 := hb' 2 _ rfl
        have q1 : decide (x.amount < (X i).amount) = false := by have := HXL.out i hin; simpa using this
        have HI36 := Lib.hid (Bd.cells_len (HXF.out i hin).tag)
        have hg2 : g < wr.heap.size := Nat.lt_of_lt_of_le hg Hbr.out.size
        have HRi : Hid (∀ W, Below wr.heap.size wr W → W.rangeAt g (i * 36) (X i).cells) := Lib.hid (fun W hW j u hu => (hW.cell (p := ⟨g, i * 36 + j, none⟩) hg2).trans (hb' j u hu))
        have HRx : Hid (∀ W, Below wr.heap.size wr W → W.rangeAt g3 0 CX) := Lib.hid (fun W hW => (HBox.out _ _ ((HBr.out.hd).below hW)).1)
        obtain ⟨dd, hdd⟩ : ∃ dd : Bool, (dd = true ↔ X i = x) := by classical exact ⟨decide (X i = x), by simp⟩
        have HEQ := Lib.hid (fun W => bid_eqD W (X i) x (HXF.out i hin) HXx.out hdd)
        rw [← HCX.out] at HEQ
        have HMS := Lib.hid (HMNS.out i hin dd hdd)
        have HQ : Hid (((X i).who != x.who) = true → decide (p < (X i).amount) = false) := Lib.hid (fun h => by have := HXP.out i hin (by simpa using h); simpa using this)
        obtain ⟨CI, hCI⟩ : ∃ CI, (X i).cells = CI := ⟨_, rfl⟩
        rw [hCI] at HI36 HRi HEQ
        clear hdd hat hb' hCI x0
        generalize (X i).amount = ya at *
        generalize (X i).who = yw at *
        cases hne : (yw != x.who) with
        | true =>
          have q2 := HQ.out hne
          clear HQ
          go_wp2_with fail
          go_quiet (fail)
          clear y1 y2 q1 q2 x1 x2 x36
          cases hmn : MN i with
          | true =>
            rw [hmn, Bool.true_or] at HMS
            go_wp2_with fail
            go_quiet (fail)
            go_wp2_with fail
            exact ⟨⟨i + 1, by omega, by go_num, (by rw [HMS.out]), below_drewN' Hbr.out _⟩, by simp [intOf]; omega⟩
          | false =>
            rw [hmn, Bool.false_or] at HMS
            go_wp2_with fail
            refine wp_region_held_drew (S := fun w' => Below wr.heap.size wr w') (by kernel_rfl) ((below_drewN' (Below.refl _ _) _).drew) (fun hHeld => ?_)
            generalize (wr.drewN nq).drew = wq at *
            refine wpAnyH_take (i := 0) (v := .bool false) rfl (by kernel_rfl) (by kernel_rfl) (by kernel_rfl) (fun _ _ _ h => h) (Or.inl ⟨by rfl, fun w' hSw => by go_simp⟩) hHeld ?_
            try simp only [Act.put, List.getElem_toArray, List.getElem_cons_succ, List.getElem_cons_zero, List.setIfInBounds_toArray, List.set_cons_zero, List.set_cons_succ]
            refine wpAnyH_take (i := 1) (v := .bool false) rfl (by kernel_rfl) (by kernel_rfl) (by kernel_rfl) (fun _ _ _ h => h) (Or.inl ⟨by rfl, fun w' hSw => by go_simp⟩) hHeld ?_
            try simp only [Act.put, List.getElem_toArray, List.getElem_cons_succ, List.getElem_cons_zero, List.setIfInBounds_toArray, List.set_cons_zero, List.set_cons_succ]
            refine wpAnyH_take (i := 2) (v := .slice (some ⟨g, 0, none⟩) m1 c1) rfl (by kernel_rfl) (by kernel_rfl) (by kernel_rfl) (fun _ _ _ h => h) (Or.inl ⟨by rfl, fun w' hSw => by go_simp⟩) hHeld ?_
            try simp only [Act.put, List.getElem_toArray, List.getElem_cons_succ, List.getElem_cons_zero, List.setIfInBounds_toArray, List.set_cons_zero, List.set_cons_succ]
            refine wpAnyH_take (i := 3) (v := .int .i64 i) rfl (by kernel_rfl) (by kernel_rfl) (by kernel_rfl) (fun _ _ _ h => h) (Or.inl ⟨by rfl, fun w' hSw => by go_simp⟩) hHeld ?_
            try simp only [Act.put, List.getElem_toArray, List.getElem_cons_succ, List.getElem_cons_zero, List.setIfInBounds_toArray, List.set_cons_zero, List.set_cons_succ]
            refine wpAnyH_take (i := 4) (v := .pointer (some ⟨g, (i * 36), none⟩)) rfl (by kernel_rfl) (by kernel_rfl) (by kernel_rfl) (fun _ _ _ h => h) (Or.inl ⟨by rfl, fun w' hSw => by go_simp⟩) hHeld ?_
            try simp only [Act.put, List.getElem_toArray, List.getElem_cons_succ, List.getElem_cons_zero, List.setIfInBounds_toArray, List.set_cons_zero, List.set_cons_succ]
            refine' wpAnyH_take (i := 5) (v := _) rfl (by kernel_rfl) (by kernel_rfl) (by kernel_rfl) (fun _ _ _ h => h) (yieldsIf_load_mid (by rfl) _ _ rfl g (i * 36) rfl CI _ (fun w' hSw => HRi.out _ hSw) Tryd.underlying30 rfl (by rw [bid_info, HI36.out])) hHeld ?_
            try simp only [Act.put, List.getElem_toArray, List.getElem_cons_succ, List.getElem_cons_zero, List.setIfInBounds_toArray, List.set_cons_zero, List.set_cons_succ]
            refine wpAnyH_take (i := 6) (v := .pointer (some ⟨g3, 0, none⟩)) rfl (by kernel_rfl) (by kernel_rfl) (by kernel_rfl) (fun _ _ _ h => h) (Or.inl ⟨by rfl, fun w' hSw => by go_simp⟩) hHeld ?_
            try simp only [Act.put, List.getElem_toArray, List.getElem_cons_succ, List.getElem_cons_zero, List.setIfInBounds_toArray, List.set_cons_zero, List.set_cons_succ]
            refine' wpAnyH_take (i := 7) (v := _) rfl (by kernel_rfl) (by kernel_rfl) (by kernel_rfl) (fun _ _ _ h => h) (yieldsIf_load_mid (by rfl) _ _ rfl g3 0 rfl CX _ (fun w' hSw => HRx.out _ hSw) Tryd.underlying30 rfl (by rw [bid_info, HX36.out])) hHeld ?_
            try simp only [Act.put, List.getElem_toArray, List.getElem_cons_succ, List.getElem_cons_zero, List.setIfInBounds_toArray, List.set_cons_zero, List.set_cons_succ]
            refine wpAnyH_take (i := 8) (v := .bool dd) rfl (by kernel_rfl) (by kernel_rfl) (by kernel_rfl) (fun _ _ _ h => h) (Or.inl ⟨by rfl, fun w' hSw => by have hq := hSw; have hd := HEQ.out; go_simp⟩) hHeld ?_
            try simp only [Act.put, List.getElem_toArray, List.getElem_cons_succ, List.getElem_cons_zero, List.setIfInBounds_toArray, List.set_cons_zero, List.set_cons_succ]
            refine wpAnyH_take (i := 9) (v := .bool dd) rfl (by kernel_rfl) (by kernel_rfl) (by kernel_rfl) (fun _ _ _ h => h) (Or.inl ⟨by rfl, fun w' hSw => by go_simp⟩) hHeld ?_
            try simp only [Act.put, List.getElem_toArray, List.getElem_cons_succ, List.getElem_cons_zero, List.setIfInBounds_toArray, List.set_cons_zero, List.set_cons_succ]
            refine wpAnyH_take (i := 10) (v := .bool dd) rfl (by kernel_rfl) (by kernel_rfl) (by kernel_rfl) (fun _ _ _ h => h) (Or.inl ⟨by rfl, fun w' hSw => by go_simp⟩) hHeld ?_
            try simp only [Act.put, List.getElem_toArray, List.getElem_cons_succ, List.getElem_cons_zero, List.setIfInBounds_toArray, List.set_cons_zero, List.set_cons_succ]
            refine wpAnyH_done (by kernel_rfl) ?_ _
            clear HEQ
            have HB9 := Lib.hid (two_below' Hbr.out hHeld)
            clear hHeld
            go_wp2_with fail
            exact ⟨⟨i + 1, by omega, by go_num, (by rw [HMS.out]), HB9.out⟩, by simp [intOf]; omega⟩
        | false =>
          clear HQ
          go_wp2_with fail
          go_quiet (fail)
          clear y1 y2 q1 x1 x2 x36
          cases hmn : MN i with
          | true =>
            rw [hmn, Bool.true_or] at HMS
            go_wp2_with fail
            go_quiet (fail)
            go_wp2_with fail
            exact ⟨⟨i + 1, by omega, by go_num, (by rw [HMS.out]), below_drewN' Hbr.out _⟩, by simp [intOf]; omega⟩
          | false =>
            rw [hmn, Bool.false_or] at HMS
            go_wp2_with fail
            refine wp_region_held_drew (S := fun w' => Below wr.heap.size wr w') (by kernel_rfl) ((below_drewN' (Below.refl _ _) _).drew) (fun hHeld => ?_)
            generalize (wr.drewN nq).drew = wq at *
            refine wpAnyH_take (i := 0) (v := .bool false) rfl (by kernel_rfl) (by kernel_rfl) (by kernel_rfl) (fun _ _ _ h => h) (Or.inl ⟨by rfl, fun w' hSw => by go_simp⟩) hHeld ?_
            try simp only [Act.put, List.getElem_toArray, List.getElem_cons_succ, List.getElem_cons_zero, List.setIfInBounds_toArray, List.set_cons_zero, List.set_cons_succ]
            refine wpAnyH_take (i := 1) (v := .bool false) rfl (by kernel_rfl) (by kernel_rfl) (by kernel_rfl) (fun _ _ _ h => h) (Or.inl ⟨by rfl, fun w' hSw => by go_simp⟩) hHeld ?_
            try simp only [Act.put, List.getElem_toArray, List.getElem_cons_succ, List.getElem_cons_zero, List.setIfInBounds_toArray, List.set_cons_zero, List.set_cons_succ]
            refine wpAnyH_take (i := 2) (v := .slice (some ⟨g, 0, none⟩) m1 c1) rfl (by kernel_rfl) (by kernel_rfl) (by kernel_rfl) (fun _ _ _ h => h) (Or.inl ⟨by rfl, fun w' hSw => by go_simp⟩) hHeld ?_
            try simp only [Act.put, List.getElem_toArray, List.getElem_cons_succ, List.getElem_cons_zero, List.setIfInBounds_toArray, List.set_cons_zero, List.set_cons_succ]
            refine wpAnyH_take (i := 3) (v := .int .i64 i) rfl (by kernel_rfl) (by kernel_rfl) (by kernel_rfl) (fun _ _ _ h => h) (Or.inl ⟨by rfl, fun w' hSw => by go_simp⟩) hHeld ?_
            try simp only [Act.put, List.getElem_toArray, List.getElem_cons_succ, List.getElem_cons_zero, List.setIfInBounds_toArray, List.set_cons_zero, List.set_cons_succ]
            refine wpAnyH_take (i := 4) (v := .pointer (some ⟨g, (i * 36), none⟩)) rfl (by kernel_rfl) (by kernel_rfl) (by kernel_rfl) (fun _ _ _ h => h) (Or.inl ⟨by rfl, fun w' hSw => by go_simp⟩) hHeld ?_
            try simp only [Act.put, List.getElem_toArray, List.getElem_cons_succ, List.getElem_cons_zero, List.setIfInBounds_toArray, List.set_cons_zero, List.set_cons_succ]
            refine' wpAnyH_take (i := 5) (v := _) rfl (by kernel_rfl) (by kernel_rfl) (by kernel_rfl) (fun _ _ _ h => h) (yieldsIf_load_mid (by rfl) _ _ rfl g (i * 36) rfl CI _ (fun w' hSw => HRi.out _ hSw) Tryd.underlying30 rfl (by rw [bid_info, HI36.out])) hHeld ?_
            try simp only [Act.put, List.getElem_toArray, List.getElem_cons_succ, List.getElem_cons_zero, List.setIfInBounds_toArray, List.set_cons_zero, List.set_cons_succ]
            refine wpAnyH_take (i := 6) (v := .pointer (some ⟨g3, 0, none⟩)) rfl (by kernel_rfl) (by kernel_rfl) (by kernel_rfl) (fun _ _ _ h => h) (Or.inl ⟨by rfl, fun w' hSw => by go_simp⟩) hHeld ?_
            try simp only [Act.put, List.getElem_toArray, List.getElem_cons_succ, List.getElem_cons_zero, List.setIfInBounds_toArray, List.set_cons_zero, List.set_cons_succ]
            refine' wpAnyH_take (i := 7) (v := _) rfl (by kernel_rfl) (by kernel_rfl) (by kernel_rfl) (fun _ _ _ h => h) (yieldsIf_load_mid (by rfl) _ _ rfl g3 0 rfl CX _ (fun w' hSw => HRx.out _ hSw) Tryd.underlying30 rfl (by rw [bid_info, HX36.out])) hHeld ?_
            try simp only [Act.put, List.getElem_toArray, List.getElem_cons_succ, List.getElem_cons_zero, List.setIfInBounds_toArray, List.set_cons_zero, List.set_cons_succ]
            refine wpAnyH_take (i := 8) (v := .bool dd) rfl (by kernel_rfl) (by kernel_rfl) (by kernel_rfl) (fun _ _ _ h => h) (Or.inl ⟨by rfl, fun w' hSw => by have hq := hSw; have hd := HEQ.out; go_simp⟩) hHeld ?_
            try simp only [Act.put, List.getElem_toArray, List.getElem_cons_succ, List.getElem_cons_zero, List.setIfInBounds_toArray, List.set_cons_zero, List.set_cons_succ]
            refine wpAnyH_take (i := 9) (v := .bool dd) rfl (by kernel_rfl) (by kernel_rfl) (by kernel_rfl) (fun _ _ _ h => h) (Or.inl ⟨by rfl, fun w' hSw => by go_simp⟩) hHeld ?_
            try simp only [Act.put, List.getElem_toArray, List.getElem_cons_succ, List.getElem_cons_zero, List.setIfInBounds_toArray, List.set_cons_zero, List.set_cons_succ]
            refine wpAnyH_take (i := 10) (v := .bool dd) rfl (by kernel_rfl) (by kernel_rfl) (by kernel_rfl) (fun _ _ _ h => h) (Or.inl ⟨by rfl, fun w' hSw => by go_simp⟩) hHeld ?_
            try simp only [Act.put, List.getElem_toArray, List.getElem_cons_succ, List.getElem_cons_zero, List.setIfInBounds_toArray, List.set_cons_zero, List.set_cons_succ]
            refine wpAnyH_done (by kernel_rfl) ?_ _
            clear HEQ
            have HB9 := Lib.hid (two_below' Hbr.out hHeld)
            clear hHeld
            go_wp2_with fail
            exact ⟨⟨i + 1, by omega, by go_num, (by rw [HMS.out]), HB9.out⟩, by simp [intOf]; omega⟩
      · have hini : ¬ (i : Int) < (m1 : Int) := by omega
        have e : i = m1 := by omega
        subst e
        have r3 := HBr.out.tl.hd.cell 3 (by simp)
        simp only [List.getElem_cons_zero, List.getElem_cons_succ] at r3
        rw [HMNE.out]
        go_wp2_with fail
        go_ret
        exact ⟨by first | rfl | simp, HBr.out.1⟩
end Go.Proofs.YtlapmdgkcidhnaaDoor
