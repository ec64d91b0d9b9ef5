/- AuctionWins. -/
import Derived.Test.YtlapmdgkcidhnaaDoorAuOpen
namespace Go.Proofs.YtlapmdgkcidhnaaDoor
open Go.RowKit
set_option linter.unusedVariables false
set_option linter.unusedSimpArgs false
set_option maxRecDepth 100000

set_option maxHeartbeats 6400000 in
theorem auctionWins_any (hRS : RefSum) (A : Option Addr) (c : Nat) (l : List Bd) (A2 : Option Addr) (c2 : Nat) (F : List Int) (rd fl : Int) (w : World) (hC : CaseIn w A c l A2 F rd fl) (hT : Tab w) :
    Calls Tryd.prog 3 #[.agg #[.slice A l.length c, .slice A2 F.length c2, .int .i64 rd, .int .i64 fl]] w fun e w' => e = .returned (.bool true) ∧ Below w.heap.size w w' := by
  have hlt : (l.take 80).length ≤ 1000000 := by rw [List.length_take]; omega
  have HFit := Lib.hid (show ∀ b ∈ l.take 80, b.Fits from fun b hb => hC.fits b (List.mem_of_mem_take hb))
  have HP := Lib.hid hT.pos
  have HT := Lib.hid hT
  have FE : Hid (∀ W, Calls Tryd.prog 13 #[.slice A l.length c] W fun e w' => e = .returned (.slice A (l.take 80).length c) ∧ W = w') := Lib.hid (fun W => few15_any A c l W hC.len hC.cap)
  have WN : Hid (∀ W, Below w.heap.size w W → Calls Tryd.prog 14 #[.slice A (l.take 80).length c, .slice A2 F.length c2, .int .i64 rd, .int .i64 fl] W fun e w' => e = .returned (Au.winV (Au.winB F rd fl (l.take 80))) ∧ Below W.heap.size W w') :=
    Lib.hid (fun W hW => win_any (l.take 80) (fun b hb => (HFit.out b hb).tag) A c F A2 c2 rd fl W (((hC.bids.take 80).below hW).mono hW.size) hlt ((hC.funds.below hW).mono hW.size) hC.flen (HT.out.below hW HP.out))
  have RW : Hid (∀ W, Below w.heap.size w W → Calls Tryd.prog 15 #[.slice A (l.take 80).length c, .slice A2 F.length c2, .int .i64 rd, .int .i64 fl] W fun e w' => e = .returned (Au.winV (Au.winB F rd fl (l.take 80))) ∧ Below W.heap.size W w') :=
    Lib.hid (fun W hW => rwin_any hRS (l.take 80) HFit.out A c F A2 c2 rd fl W (((hC.bids.take 80).below hW).mono hW.size) hlt ((hC.funds.below hW).mono hW.size) hC.flen)
  have RC : Hid (∀ W, Below w.heap.size w W → Calls Tryd.prog 17 #[.slice A (l.take 80).length c, .slice A2 F.length c2, .int .i64 rd, .int .i64 fl] W fun e w' => ∃ v, e = .returned v ∧ OwnL w' W.heap.size 30 36 Bd.cells v (Au.cnt F rd fl (l.take 80)) ∧ Below W.heap.size W w') :=
    Lib.hid (fun W hW => rcounts_any hRS (l.take 80) HFit.out A c F A2 c2 rd fl W (((hC.bids.take 80).below hW).mono hW.size) hlt ((hC.funds.below hW).mono hW.size) hC.flen)
  have AWK : Hid (∀ W, Below w.heap.size w W → Calls Tryd.prog 16 #[] W fun e w' => e = .returned (.bool true) ∧ Below W.heap.size W w') := Lib.hid (fun W hW => awake15_any hRS W (HT.out.below hW HP.out))
  have HFR := Lib.hid (Au.winB_fits (F := F) (r := rd) (fl := fl) HFit.out hC.floor)
  obtain ⟨R, hR⟩ : ∃ R, R = Au.winB F rd fl (l.take 80) := ⟨_, rfl⟩
  rw [← hR] at WN RW HFR
  unfold Au.winV at WN RW
  clear hR hlt RC
  have HR37 := Lib.hid (Au.winC_len HFR.out)
  have HR1 := Lib.hid (Au.winC_one HFR.out)
  have HWS := Lib.hid (fun W => win_same W R HFR.out)
  have HZ37 := Lib.hid (Au.wc_len (b := Bd.zero) (p := 0) rfl)
  have hzw := win_zv
  generalize Au.wc Bd.zero 0 = ZW at *
  obtain ⟨m, hm⟩ : ∃ m, m = (l.take 80).length := ⟨_, rfl⟩
  rw [← hm] at FE WN RW
  have HM := Lib.hid hm
  generalize l.length = n at *
  generalize F.length = q at *
  generalize Au.winC R = CR at *
  generalize hb : R.isSome = b at *
  clear hC hT hRS hm hb
  have hr0 := Row.new w 25 [.slice A m c, .slice A2 q c2, .int .i64 rd, .int .i64 fl]
  have Hb1 : Hid (Below w.heap.size w (w.alloc (.cells #[.slice A m c, .slice A2 q c2, .int .i64 rd, .int .i64 fl] 25))) := Lib.hid ((Below.refl _ _).alloc (Nat.le_refl _) _)
  have Hr1 := Lib.hid hr0
  clear hr0
  go_enter Tryd.func3, Tryd.ntmps3
  go_wp2_with fail
  refine (FE.out _).mono ?_
  rintro _ w1 ⟨rfl, rfl⟩
  clear FE
  go_wp2_with fail
  refine (WN.out _ Hb1.out).mono ?_
  rintro _ w2 ⟨rfl, hb2⟩
  have HB2 : Hid (Blocks w w2 [(w.heap.size, 25, [.slice A m c, .slice A2 q c2, .int .i64 rd, .int .i64 fl])]) := Lib.hid (((Blocks.nil Hb1.out).cons Hr1.out).step hb2)
  clear hb2
  have Hn2 := Lib.hid (Row.new w2 32 ZW)
  go_wp2_with (first
    | (
       with_reducible show wpList _ _ _ (⟨_, .store 32 (.tmp 3) _, _, _, _, _⟩ :: _) _ _
       refine wpList_store_at rfl 32 (.tmp 3) (.tmp 21) rfl w2.heap.size 0 CR ZW _ rfl rfl (Hn2.out) (by have := HZ37.out; have := HR37.out; omega) (by rw [win_size, HR37.out]) HR1.out ?_
       intro w3 hr hg
       rw [splice_all (HR37.out.trans HZ37.out.symm)] at hr
       have HB3 := Lib.hid (((HB2.out.alloc (.cells ZW.toArray 32)).put hg HB2.out.size HB2.out.fresh).cons hr)
       have hrrc := HB3.out.tl.hd
       have e0c := hrrc.cell 0 (by simp)
       have e1c := hrrc.cell 1 (by simp)
       have e2c := hrrc.cell 2 (by simp)
       have e3c := hrrc.cell 3 (by simp)
       simp only [List.getElem_cons_zero, List.getElem_cons_succ] at e0c e1c e2c e3c
       clear hrrc
       clear hr hg))
  refine (RW.out _ HB3.out.1).mono ?_
  rintro _ w4 ⟨rfl, hb4⟩
  have HB4 := Lib.hid (HB3.out.step hb4)
  clear hb4
  have Hn4 := Lib.hid (Row.new w4 32 ZW)
  go_wp2_with (first
    | (
       with_reducible show wpList _ _ _ (⟨_, .store 32 (.tmp 5) _, _, _, _, _⟩ :: _) _ _
       refine wpList_store_at rfl 32 (.tmp 5) (.tmp 33) rfl w4.heap.size 0 CR ZW _ rfl rfl (Hn4.out) (by have := HZ37.out; have := HR37.out; omega) (by rw [win_size, HR37.out]) HR1.out ?_
       intro w5 hr hg
       rw [splice_all (HR37.out.trans HZ37.out.symm)] at hr
       have HB5 := Lib.hid (((HB4.out.alloc (.cells ZW.toArray 32)).put hg HB4.out.size HB4.out.fresh).cons hr)
       clear hr hg))
  refine (AWK.out _ HB5.out.1).mono ?_
  rintro _ w6 ⟨rfl, hb6⟩
  have HB6 := Lib.hid (HB5.out.step hb6)
  clear hb6
  have hws := HWS.out
  go_wp2_with (first
    | ((with_reducible show wpList _ _ _ (⟨_, .load 32 (.tmp 3), _, _, _, _⟩ :: _) _ _); refine wpList_load_tx rfl 32 (.tmp 3) rfl w2.heap.size 0 (rfl) CR _ (row_range HB6.out.tl.hd) Tryd.underlying32 rfl (by rw [win_size, HR37.out]) ?_)
    | ((with_reducible show wpList _ _ _ (⟨_, .load 32 (.tmp 5), _, _, _, _⟩ :: _) _ _); refine wpList_load_tx rfl 32 (.tmp 5) rfl w4.heap.size 0 (rfl) CR _ (row_range HB6.out.hd) Tryd.underlying32 rfl (by rw [win_size, HR37.out]) ?_))
  go_ret
  exact ⟨by first | rfl | simp, HB6.out.1⟩
end Go.Proofs.YtlapmdgkcidhnaaDoor
