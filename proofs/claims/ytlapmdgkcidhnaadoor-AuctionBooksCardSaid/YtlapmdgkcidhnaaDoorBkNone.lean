/- AuctionNone. -/
import Derived.Test.YtlapmdgkcidhnaaDoorBkSame
import Derived.Test.YtlapmdgkcidhnaaDoorBnA
namespace Go.Proofs.YtlapmdgkcidhnaaDoor
open Go.RowKit Go.Maps
set_option linter.unusedVariables false
set_option linter.unusedSimpArgs false
set_option maxRecDepth 100000

theorem Blocks.stepB {w0 W W' : World} {l : List (Nat × TypeId × List Value)} {b : Nat} (h : Blocks w0 W l) (hb : Below b W W') (hl : ∀ x ∈ l, x.1 < b) (hw : w0.heap.size ≤ b) : Blocks w0 W' l :=
  ⟨h.1.trans (hb.mono hw), fun x hx => (hb.block x.1 (hl x hx)).trans (h.2 x hx)⟩
theorem below_of_alloc_store {w w' : World} {o : Obj} (hg : (w.alloc o).grownBy w' (some w.heap.size)) : Below w.heap.size w w' :=
  below_own ((Below.refl _ _).alloc (Nat.le_refl _) o) hg (fun k hk => by cases hk; exact Nat.le_refl _)
set_option maxHeartbeats 6400000 in
theorem auctionNone_any (hRS : RefSum) (x : Bd) (hx : x.Fits) (w : World) (hT : Tab w) :
    Calls Tryd.prog 8 #[x.v] w fun e w' => e = .returned (.bool true) ∧ Below w.heap.size w w' := by
  have HX := Lib.hid hx
  have HT := Lib.hid hT
  have HP := Lib.hid hT.pos
  have AWK : Hid (∀ W, Below w.heap.size w W → Calls Tryd.prog 16 #[] W fun e w' => e = .returned (.bool true) ∧ Below W.heap.size W w') := Lib.hid (fun W hW => awake15_any hRS W (HT.out.below hW HP.out))
  have NEW := Lib.hid (fun W => bookNew_yes 0 W (by omega) (by omega))
  have BN := Lib.hid (fun W => bookBid_nil x 0 W)
  have HWS := Lib.hid (fun W => win_same W none trivial)
  have HCN : Hid (∀ (r : Int) (kp : Value) (W : World), Calls Tryd.prog 25 #[.pointer none, .int .i64 r, kp] W fun e w' => e = .returned (.tuple #[.agg (Au.winC none).toArray, .bool false]) ∧ Below W.heap.size W w') := Lib.hid (fun r kp W => close_nilB r kp W)
  have HZ37 : Hid ((Au.winC none).length = 37) := Lib.hid (Au.winC_len (R := none) trivial)
  have HZ1 : Hid (∀ v ∈ Au.winC none, v.oneCell' = true) := Lib.hid (Au.winC_one (R := none) trivial)
  have HBt : Hid (Tryd.prog.built 32 [] = some (Au.winC none).toArray) := Lib.hid (by rw [win_built0]; rfl)
  have hzw : ∀ W : World, (zeroValue 32).run Tryd.prog W = .ok (.agg (Au.winC none).toArray) W := win_zv
  have HK36 := Lib.hid (Bd.cells_len hx.tag)
  have hxv : x.v = .agg x.cells.toArray := rfl
  rw [hxv]
  have Hr0 := Lib.hid (Row.new w 30 x.cells)
  have Hb0 := Lib.hid ((Below.refl w.heap.size w).alloc (Nat.le_refl _) (.cells x.cells.toArray 30))
  have HRd : Hid (∀ W, Row W w.heap.size 30 x.cells → W.cell? ⟨w.heap.size, 0, none⟩ = some (.int .i64 x.round)) := Lib.hid (fun W h => (bid_box h).1)
  have hCKx : x.cells = x.cells := rfl
  clear hx hT hxv hRS hCKx
  go_enter Tryd.func8, Tryd.ntmps8
  go_wp2_with fail
  refine wp_region_held_drew (S := fun w' => Row w' w.heap.size 30 x.cells ∧ Below w.heap.size w w') (by kernel_rfl) (⟨Hr0.out.kept (grownBy_drew _ none) (by simp), Hb0.out.drew⟩) (fun hHeld => ?_)
  generalize (w.alloc (.cells x.cells.toArray 30)).drew = wq at *
  refine wpAnyH_take (i := 0) (v := .pointer none) rfl (by kernel_rfl) (by kernel_rfl) (by kernel_rfl) (fun _ _ _ h => h) (Or.inl ⟨by rfl, fun w' hSw => by go_simp⟩) hHeld ?_
  try simp only [Act.put, List.getElem_toArray, List.getElem_cons_succ, List.getElem_cons_zero, List.setIfInBounds_toArray, List.set_cons_zero, List.set_cons_succ]
  refine wpAnyH_take (i := 1) (v := .pointer (some ⟨w.heap.size, 0, none⟩)) rfl (by kernel_rfl) (by kernel_rfl) (by kernel_rfl) (fun _ _ _ h => h) (Or.inl ⟨by rfl, fun w' hSw => by go_simp⟩) hHeld ?_
  try simp only [Act.put, List.getElem_toArray, List.getElem_cons_succ, List.getElem_cons_zero, List.setIfInBounds_toArray, List.set_cons_zero, List.set_cons_succ]
  refine wpAnyH_take (i := 2) (v := .int .i64 x.round) rfl (by kernel_rfl) (by kernel_rfl) (by kernel_rfl) (fun _ _ _ h => h) (Or.inl ⟨by rfl, fun w' hSw => by have hq := hSw; have q := HRd.out _ hq.1; go_simp⟩) hHeld ?_
  try simp only [Act.put, List.getElem_toArray, List.getElem_cons_succ, List.getElem_cons_zero, List.setIfInBounds_toArray, List.set_cons_zero, List.set_cons_succ]
  refine wpAnyH_ready (rs := [3, 8]) (by kernel_rfl) (by simp) (AllReadyH.cons rfl (fun K1 hK1 => ?_) (AllReadyH.cons rfl (fun K1 hK1 => ?_) AllReadyH.nil))
  · skip
    try simp only [Act.put, List.getElem_toArray, List.getElem_cons_succ, List.getElem_cons_zero, List.setIfInBounds_toArray, List.set_cons_zero, List.set_cons_succ]
    go_simp
    refine Calls.mono (Bn.bankNew_any _) ?_
    rintro e wn1 ⟨rfl, _, hgN⟩
    have hc2 : Below wq.heap.size wq wn1 := ⟨hgN.os, hgN.tape, hgN.output, hgN.size, fun k hk => hgN.block k hk (by simp)⟩
    clear hgN
    refine hK1.out _ _ (⟨hHeld.1.kept (grownBy_of_below hc2 none) (by simp), two_below' hHeld.2 hc2⟩) (fun hHeld => ?_)
    clear hK1 K1
    try simp only [Act.put, List.getElem_toArray, List.getElem_cons_succ, List.getElem_cons_zero, List.setIfInBounds_toArray, List.set_cons_zero, List.set_cons_succ]
    refine wpAnyH_ready (rs := [4, 8]) (by kernel_rfl) (by simp) (AllReadyH.cons rfl (fun K1 hK1 => ?_) (AllReadyH.cons rfl (fun K1 hK1 => ?_) AllReadyH.nil))
    · skip
      try simp only [Act.put, List.getElem_toArray, List.getElem_cons_succ, List.getElem_cons_zero, List.setIfInBounds_toArray, List.set_cons_zero, List.set_cons_succ]
      go_simp
      refine Calls.mono (HCN.out _ _ _) ?_
      rintro e wk3 ⟨rfl, hc4⟩
      refine hK1.out _ _ (⟨hHeld.1.kept (grownBy_of_below hc4 none) (by simp), two_below' hHeld.2 hc4⟩) (fun hHeld => ?_)
      clear hK1 K1
      try simp only [Act.put, List.getElem_toArray, List.getElem_cons_succ, List.getElem_cons_zero, List.setIfInBounds_toArray, List.set_cons_zero, List.set_cons_succ]
      refine wpAnyH_take (i := 5) (v := .tuple #[.agg (Au.winC none).toArray, .bool false]) rfl (by kernel_rfl) (by kernel_rfl) (by kernel_rfl) (fun _ _ _ h => h) (Or.inl ⟨by rfl, fun w' hSw => by go_simp⟩) hHeld ?_
      try simp only [Act.put, List.getElem_toArray, List.getElem_cons_succ, List.getElem_cons_zero, List.setIfInBounds_toArray, List.set_cons_zero, List.set_cons_succ]
      refine wpAnyH_take (i := 6) (v := .agg (Au.winC none).toArray) rfl (by kernel_rfl) (by kernel_rfl) (by kernel_rfl) (fun _ _ _ h => h) (Or.inl ⟨by rfl, fun w' hSw => by go_simp⟩) hHeld ?_
      try simp only [Act.put, List.getElem_toArray, List.getElem_cons_succ, List.getElem_cons_zero, List.setIfInBounds_toArray, List.set_cons_zero, List.set_cons_succ]
      refine wpAnyH_take (i := 7) (v := .bool false) rfl (by kernel_rfl) (by kernel_rfl) (by kernel_rfl) (fun _ _ _ h => h) (Or.inl ⟨by rfl, fun w' hSw => by go_simp⟩) hHeld ?_
      try simp only [Act.put, List.getElem_toArray, List.getElem_cons_succ, List.getElem_cons_zero, List.setIfInBounds_toArray, List.set_cons_zero, List.set_cons_succ]
      refine wpAnyH_ready (rs := [8]) (by kernel_rfl) (by simp) (AllReadyH.cons rfl (fun K1 hK1 => ?_) AllReadyH.nil)
      try simp only [Act.put, List.getElem_toArray, List.getElem_cons_succ, List.getElem_cons_zero, List.setIfInBounds_toArray, List.set_cons_zero, List.set_cons_succ]
      go_simp
      have hd6 := (Below.refl wk3.heap.size wk3).alloc (Nat.le_refl _) (.cells (Au.winC none).toArray 32)
      have hHeld2 : Row (wk3.alloc (.cells (Au.winC none).toArray 32)) w.heap.size 30 x.cells ∧ Below w.heap.size w (wk3.alloc (.cells (Au.winC none).toArray 32)) := ⟨hHeld.1.kept (grownBy_of_below hd6 none) (by simp), two_below' hHeld.2 hd6⟩
      have H4 : Hid (Row (wk3.alloc (.cells (Au.winC none).toArray 32)) wk3.heap.size 32 (Au.winC none)) := Lib.hid (Row.new wk3 32 _)
      have N4 : Hid (w.heap.size ≠ wk3.heap.size ∧ w.heap.size ≤ wk3.heap.size) := Lib.hid ⟨by have := hHeld.1.lt; omega, hHeld.2.size⟩
      generalize wk3.alloc (.cells (Au.winC none).toArray 32) = wz5 at *
      generalize hg4 : wk3.heap.size = g4 at *
      clear hg4
      refine hK1.out _ _ (hHeld2) (fun hHeld => ?_)
      clear hK1 K1
      try simp only [Act.put, List.getElem_toArray, List.getElem_cons_succ, List.getElem_cons_zero, List.setIfInBounds_toArray, List.set_cons_zero, List.set_cons_succ]
      clear hHeld2
      refine wpAnyH_ready (rs := [9]) (by kernel_rfl) (by simp) (AllReadyH.cons rfl (fun K1 hK1 => ?_) AllReadyH.nil)
      try simp only [Act.put, List.getElem_toArray, List.getElem_cons_succ, List.getElem_cons_zero, List.setIfInBounds_toArray, List.set_cons_zero, List.set_cons_succ]
      rw [if_pos (by rfl)]
      refine wp_store_at 32 (.tmp 4) (.tmp 17) rfl g4 0 (Au.winC none) (Au.winC none) 32 rfl rfl H4.out (by rw [HZ37.out]; omega) (by rw [win_size, HZ37.out]) HZ1.out ?_
      intro ws7 hrS hgS
      rw [splice_all rfl] at hrS
      have hHeld2 : Row ws7 w.heap.size 30 x.cells ∧ Below w.heap.size w ws7 := ⟨hHeld.1.kept hgS (fun e => by injection e with e; exact N4.out.1 e), below_own hHeld.2 hgS (fun k hk => by cases hk; exact N4.out.2)⟩
      have HBl : Hid (Blocks w ws7 [(g4, 32, Au.winC none), (w.heap.size, 30, x.cells)]) := Lib.hid (((Blocks.nil hHeld2.2).cons hHeld2.1).cons hrS)
      clear hrS hgS
      refine hK1.out _ _ (hHeld2) (fun hHeld => ?_)
      clear hK1 K1
      try simp only [Act.put, List.getElem_toArray, List.getElem_cons_succ, List.getElem_cons_zero, List.setIfInBounds_toArray, List.set_cons_zero, List.set_cons_succ]
      clear hHeld2
      refine wpAnyH_take (i := 10) (v := .bool false) rfl (by kernel_rfl) (by kernel_rfl) (by kernel_rfl) (fun _ _ _ h => h) (Or.inl ⟨by rfl, fun w' hSw => by go_simp⟩) hHeld ?_
      try simp only [Act.put, List.getElem_toArray, List.getElem_cons_succ, List.getElem_cons_zero, List.setIfInBounds_toArray, List.set_cons_zero, List.set_cons_succ]
      refine wpAnyH_done (by kernel_rfl) ?_ _
      clear hHeld H4
      have Hlt : Hid (g4 < ws7.heap.size ∧ w.heap.size < ws7.heap.size) := Lib.hid ⟨HBl.out.hd.lt, HBl.out.tl.hd.lt⟩
      go_wp2_with fail
      refine (NEW.out ws7).mono ?_
      rintro _ wN ⟨rfl, hbk, hbN⟩
      have HBk := Lib.hid hbk
      have HBN := Lib.hid (HBl.out.step hbN)
      have HbsN := Lib.hid hbN.size
      have Hbs0 := Lib.hid HBl.out.size
      clear hbk hbN HBl
      generalize ws7.heap.size = bs at *
      go_wp2_with ((with_reducible show wpList _ _ _ (⟨_, .load 30 (.tmp 1), _, _, _, _⟩ :: _) _ _); refine wpList_load_tx rfl 30 (.tmp 1) rfl w.heap.size 0 (rfl) x.cells _ (row_range HBN.out.tl.hd) Tryd.underlying30 rfl (by rw [bid_info, HK36.out]) ?_)
      refine (bookBid_any x HX.out (-1) HBk.out (by omega) HbsN.out (HT.out.below HBN.out.1 HP.out)).mono ?_
      rintro _ w6 ⟨rfl, V6, hbk6, hc6, hS6⟩
      have HB6 := Lib.hid (HBN.out.stepB (hc6.below HbsN.out (fun k hk => (HBk.out.ltS k hk).1)) (by
        intro y hy
        simp only [List.mem_cons, List.not_mem_nil, or_false] at hy
        rcases hy with rfl | rfl
        · exact Hlt.out.1
        · exact Hlt.out.2) Hbs0.out)
      have HBk6 := Lib.hid hbk6
      obtain ⟨L6, hL6⟩ : ∃ L6, L6 = Au.bidL 0 [] x (-1) := ⟨_, rfl⟩
      rw [← hL6] at HBk6
      clear hbk6 hc6 hS6 hL6 HBk HBN
      have r6 := (HRd.out _ HB6.out.tl.hd)
      go_wp2_with fail
      refine (bids_any x.round HX.out.round HBk6.out).mono ?_
      rintro _ w7 ⟨⟨v7, rfl, ho7⟩, hb7⟩
      have HB7 := Lib.hid (HB6.out.step hb7)
      have HBk7 := Lib.hid (HBk6.out.below hb7)
      obtain ⟨A7, c7, rfl, _, _⟩ := ho7.form
      have HS7 := Lib.hid (ho7.slB (HBk6.out.fitsR x.round) (by have := HBk6.out.ok.few x.round; omega))
      clear hb7 ho7 r6
      have r7 := (HRd.out _ HB7.out.tl.hd)
      go_wp2_with fail
      refine (close_nilK _ _ _).mono ?_
      rintro _ w8 ⟨rfl, hb8⟩
      have HB8 := Lib.hid (HB7.out.step hb8)
      have HBk8 := Lib.hid (HBk7.out.below hb8)
      have HS8 := Lib.hid ((HS7.out.below hb8).mono hb8.size)
      have Hn8 := Lib.hid (Row.new w8 32 (Au.winC none))
      clear hb8 r7
      unfold Au.winV
      simp only [Option.isSome_none]
      go_wp2_with (first
        | (
           with_reducible show wpList _ _ _ (⟨_, .store 32 (.tmp 9) _, _, _, _, _⟩ :: _) _ _
           refine wpList_store_at rfl 32 (.tmp 9) (.tmp 37) rfl w8.heap.size 0 (Au.winC none) (Au.winC none) _ rfl rfl (Hn8.out) (by have := HZ37.out; have := HZ37.out; omega) (by rw [win_size, HZ37.out]) HZ1.out ?_
           intro w9 hr hg
           rw [splice_all rfl] at hr
           have HB9 := Lib.hid (((HB8.out.alloc (.cells (Au.winC none).toArray 32)).put hg HB8.out.size HB8.out.fresh).cons hr)
           have hb9 := below_of_alloc_store (w := w8) hg
           have HBk9 := Lib.hid (HBk8.out.below hb9)
           have HS9 := Lib.hid ((HS8.out.below hb9).mono hb9.size)
           clear hb9
           clear hr hg))
      refine (AWK.out _ HB9.out.1).mono ?_
      rintro _ w10 ⟨rfl, hb10⟩
      have HB10 := Lib.hid (HB9.out.step hb10)
      have HBk10 := Lib.hid (HBk9.out.below hb10)
      have HS10 := Lib.hid ((HS9.out.below hb10).mono hb10.size)
      clear hb10
      go_wp2_with ((with_reducible show wpList _ _ _ (⟨_, .load 30 (.tmp 1), _, _, _, _⟩ :: _) _ _); refine wpList_load_tx rfl 30 (.tmp 1) rfl w.heap.size 0 (rfl) x.cells _ (row_range HB10.out.tl.tl.hd) Tryd.underlying30 rfl (by rw [bid_info, HK36.out]) ?_)
      refine (BN.out _).mono ?_
      rintro _ w11 ⟨rfl, hb11⟩
      have HB11 := Lib.hid (HB10.out.step hb11)
      have HBk11 := Lib.hid (HBk10.out.below hb11)
      have HS11 := Lib.hid ((HS10.out.below hb11).mono hb11.size)
      clear hb11
      have r11 := (HRd.out _ HB11.out.tl.tl.hd)
      go_wp2_with fail
      refine (bids_nil _ _).mono ?_
      rintro _ w12 ⟨rfl, rfl⟩
      have hws := HWS.out
      go_wp2_with (first
        | ((with_reducible show wpList _ _ _ (⟨_, .load 32 (.tmp 4), _, _, _, _⟩ :: _) _ _); refine wpList_load_tx rfl 32 (.tmp 4) rfl g4 0 (rfl) (Au.winC none) _ (row_range HB11.out.tl.hd) Tryd.underlying32 rfl (by rw [win_size, HZ37.out]) ?_)
        | ((with_reducible show wpList _ _ _ (⟨_, .load 32 (.tmp 9), _, _, _, _⟩ :: _) _ _); refine wpList_load_tx rfl 32 (.tmp 9) rfl w8.heap.size 0 (rfl) (Au.winC none) _ (row_range HB11.out.hd) Tryd.underlying32 rfl (by rw [win_size, HZ37.out]) ?_)
        | ((with_reducible show wpList _ _ _ (⟨_, .build 32 _, _, _, _, _⟩ :: _) _ _); refine wpList_buildL rfl 32 [] rfl (some 56) rfl _ rfl (Au.winC none).toArray HBt.out ?_)
        | ((with_reducible show wpList _ _ _ (⟨_, .build 32 _, _, _, _, _⟩ :: _) _ _); refine wpList_buildL rfl 32 [] rfl (some 65) rfl _ rfl (Au.winC none).toArray HBt.out ?_))
      refine (bids_any x.round HX.out.round HBk11.out).mono ?_
      rintro _ w13 ⟨⟨v13, rfl, ho13⟩, hb13⟩
      have HB13 := Lib.hid (HB11.out.step hb13)
      have HS13 := Lib.hid ((HS11.out.below hb13).mono hb13.size)
      obtain ⟨A13, c13, rfl, _, _⟩ := ho13.form
      have HT13 := Lib.hid (ho13.slB (HBk11.out.fitsR x.round) (by have := HBk11.out.ok.few x.round; omega))
      clear hb13 ho13 r11
      go_wp2_with fail
      refine (same15_any true A7 A13 c7 c13 _ _ _ HS13.out HT13.out (by simp)).mono ?_
      rintro _ w14 ⟨rfl, hb14⟩
      have HB14 := Lib.hid (HB13.out.step hb14)
      clear hb14
      go_wp2_with fail
      go_ret
      exact ⟨by first | rfl | simp, HB14.out.1⟩
    · skip
      try simp only [Act.put, List.getElem_toArray, List.getElem_cons_succ, List.getElem_cons_zero, List.setIfInBounds_toArray, List.set_cons_zero, List.set_cons_succ]
      go_simp
      have hd9 := (Below.refl wn1.heap.size wn1).alloc (Nat.le_refl _) (.cells (Au.winC none).toArray 32)
      have hHeld2 : Row (wn1.alloc (.cells (Au.winC none).toArray 32)) w.heap.size 30 x.cells ∧ Below w.heap.size w (wn1.alloc (.cells (Au.winC none).toArray 32)) := ⟨hHeld.1.kept (grownBy_of_below hd9 none) (by simp), two_below' hHeld.2 hd9⟩
      have H4 : Hid (Row (wn1.alloc (.cells (Au.winC none).toArray 32)) wn1.heap.size 32 (Au.winC none)) := Lib.hid (Row.new wn1 32 _)
      have N4 : Hid (w.heap.size ≠ wn1.heap.size ∧ w.heap.size ≤ wn1.heap.size) := Lib.hid ⟨by have := hHeld.1.lt; omega, hHeld.2.size⟩
      generalize wn1.alloc (.cells (Au.winC none).toArray 32) = wz8 at *
      generalize hg4 : wn1.heap.size = g4 at *
      clear hg4
      refine hK1.out _ _ (hHeld2) (fun hHeld => ?_)
      clear hK1 K1
      try simp only [Act.put, List.getElem_toArray, List.getElem_cons_succ, List.getElem_cons_zero, List.setIfInBounds_toArray, List.set_cons_zero, List.set_cons_succ]
      clear hHeld2
      refine wpAnyH_ready (rs := [4]) (by kernel_rfl) (by simp) (AllReadyH.cons rfl (fun K1 hK1 => ?_) AllReadyH.nil)
      try simp only [Act.put, List.getElem_toArray, List.getElem_cons_succ, List.getElem_cons_zero, List.setIfInBounds_toArray, List.set_cons_zero, List.set_cons_succ]
      go_simp
      refine Calls.mono (HCN.out _ _ _) ?_
      rintro e wk10 ⟨rfl, hc11⟩
      replace H4 := Lib.hid (H4.out.kept (grownBy_of_below hc11 none) (by simp))
      refine hK1.out _ _ (⟨hHeld.1.kept (grownBy_of_below hc11 none) (by simp), two_below' hHeld.2 hc11⟩) (fun hHeld => ?_)
      clear hK1 K1
      try simp only [Act.put, List.getElem_toArray, List.getElem_cons_succ, List.getElem_cons_zero, List.setIfInBounds_toArray, List.set_cons_zero, List.set_cons_succ]
      refine wpAnyH_take (i := 5) (v := .tuple #[.agg (Au.winC none).toArray, .bool false]) rfl (by kernel_rfl) (by kernel_rfl) (by kernel_rfl) (fun _ _ _ h => h) (Or.inl ⟨by rfl, fun w' hSw => by go_simp⟩) hHeld ?_
      try simp only [Act.put, List.getElem_toArray, List.getElem_cons_succ, List.getElem_cons_zero, List.setIfInBounds_toArray, List.set_cons_zero, List.set_cons_succ]
      refine wpAnyH_take (i := 6) (v := .agg (Au.winC none).toArray) rfl (by kernel_rfl) (by kernel_rfl) (by kernel_rfl) (fun _ _ _ h => h) (Or.inl ⟨by rfl, fun w' hSw => by go_simp⟩) hHeld ?_
      try simp only [Act.put, List.getElem_toArray, List.getElem_cons_succ, List.getElem_cons_zero, List.setIfInBounds_toArray, List.set_cons_zero, List.set_cons_succ]
      refine wpAnyH_take (i := 7) (v := .bool false) rfl (by kernel_rfl) (by kernel_rfl) (by kernel_rfl) (fun _ _ _ h => h) (Or.inl ⟨by rfl, fun w' hSw => by go_simp⟩) hHeld ?_
      try simp only [Act.put, List.getElem_toArray, List.getElem_cons_succ, List.getElem_cons_zero, List.setIfInBounds_toArray, List.set_cons_zero, List.set_cons_succ]
      refine wpAnyH_ready (rs := [9]) (by kernel_rfl) (by simp) (AllReadyH.cons rfl (fun K1 hK1 => ?_) AllReadyH.nil)
      try simp only [Act.put, List.getElem_toArray, List.getElem_cons_succ, List.getElem_cons_zero, List.setIfInBounds_toArray, List.set_cons_zero, List.set_cons_succ]
      rw [if_pos (by rfl)]
      refine wp_store_at 32 (.tmp 4) (.tmp 17) rfl g4 0 (Au.winC none) (Au.winC none) 32 rfl rfl H4.out (by rw [HZ37.out]; omega) (by rw [win_size, HZ37.out]) HZ1.out ?_
      intro ws12 hrS hgS
      rw [splice_all rfl] at hrS
      have hHeld2 : Row ws12 w.heap.size 30 x.cells ∧ Below w.heap.size w ws12 := ⟨hHeld.1.kept hgS (fun e => by injection e with e; exact N4.out.1 e), below_own hHeld.2 hgS (fun k hk => by cases hk; exact N4.out.2)⟩
      have HBl : Hid (Blocks w ws12 [(g4, 32, Au.winC none), (w.heap.size, 30, x.cells)]) := Lib.hid (((Blocks.nil hHeld2.2).cons hHeld2.1).cons hrS)
      clear hrS hgS
      refine hK1.out _ _ (hHeld2) (fun hHeld => ?_)
      clear hK1 K1
      try simp only [Act.put, List.getElem_toArray, List.getElem_cons_succ, List.getElem_cons_zero, List.setIfInBounds_toArray, List.set_cons_zero, List.set_cons_succ]
      clear hHeld2
      refine wpAnyH_take (i := 10) (v := .bool false) rfl (by kernel_rfl) (by kernel_rfl) (by kernel_rfl) (fun _ _ _ h => h) (Or.inl ⟨by rfl, fun w' hSw => by go_simp⟩) hHeld ?_
      try simp only [Act.put, List.getElem_toArray, List.getElem_cons_succ, List.getElem_cons_zero, List.setIfInBounds_toArray, List.set_cons_zero, List.set_cons_succ]
      refine wpAnyH_done (by kernel_rfl) ?_ _
      clear hHeld H4
      have Hlt : Hid (g4 < ws12.heap.size ∧ w.heap.size < ws12.heap.size) := Lib.hid ⟨HBl.out.hd.lt, HBl.out.tl.hd.lt⟩
      go_wp2_with fail
      refine (NEW.out ws12).mono ?_
      rintro _ wN ⟨rfl, hbk, hbN⟩
      have HBk := Lib.hid hbk
      have HBN := Lib.hid (HBl.out.step hbN)
      have HbsN := Lib.hid hbN.size
      have Hbs0 := Lib.hid HBl.out.size
      clear hbk hbN HBl
      generalize ws12.heap.size = bs at *
      go_wp2_with ((with_reducible show wpList _ _ _ (⟨_, .load 30 (.tmp 1), _, _, _, _⟩ :: _) _ _); refine wpList_load_tx rfl 30 (.tmp 1) rfl w.heap.size 0 (rfl) x.cells _ (row_range HBN.out.tl.hd) Tryd.underlying30 rfl (by rw [bid_info, HK36.out]) ?_)
      refine (bookBid_any x HX.out (-1) HBk.out (by omega) HbsN.out (HT.out.below HBN.out.1 HP.out)).mono ?_
      rintro _ w6 ⟨rfl, V6, hbk6, hc6, hS6⟩
      have HB6 := Lib.hid (HBN.out.stepB (hc6.below HbsN.out (fun k hk => (HBk.out.ltS k hk).1)) (by
        intro y hy
        simp only [List.mem_cons, List.not_mem_nil, or_false] at hy
        rcases hy with rfl | rfl
        · exact Hlt.out.1
        · exact Hlt.out.2) Hbs0.out)
      have HBk6 := Lib.hid hbk6
      obtain ⟨L6, hL6⟩ : ∃ L6, L6 = Au.bidL 0 [] x (-1) := ⟨_, rfl⟩
      rw [← hL6] at HBk6
      clear hbk6 hc6 hS6 hL6 HBk HBN
      have r6 := (HRd.out _ HB6.out.tl.hd)
      go_wp2_with fail
      refine (bids_any x.round HX.out.round HBk6.out).mono ?_
      rintro _ w7 ⟨⟨v7, rfl, ho7⟩, hb7⟩
      have HB7 := Lib.hid (HB6.out.step hb7)
      have HBk7 := Lib.hid (HBk6.out.below hb7)
      obtain ⟨A7, c7, rfl, _, _⟩ := ho7.form
      have HS7 := Lib.hid (ho7.slB (HBk6.out.fitsR x.round) (by have := HBk6.out.ok.few x.round; omega))
      clear hb7 ho7 r6
      have r7 := (HRd.out _ HB7.out.tl.hd)
      go_wp2_with fail
      refine (close_nilK _ _ _).mono ?_
      rintro _ w8 ⟨rfl, hb8⟩
      have HB8 := Lib.hid (HB7.out.step hb8)
      have HBk8 := Lib.hid (HBk7.out.below hb8)
      have HS8 := Lib.hid ((HS7.out.below hb8).mono hb8.size)
      have Hn8 := Lib.hid (Row.new w8 32 (Au.winC none))
      clear hb8 r7
      unfold Au.winV
      simp only [Option.isSome_none]
      go_wp2_with (first
        | (
           with_reducible show wpList _ _ _ (⟨_, .store 32 (.tmp 9) _, _, _, _, _⟩ :: _) _ _
           refine wpList_store_at rfl 32 (.tmp 9) (.tmp 37) rfl w8.heap.size 0 (Au.winC none) (Au.winC none) _ rfl rfl (Hn8.out) (by have := HZ37.out; have := HZ37.out; omega) (by rw [win_size, HZ37.out]) HZ1.out ?_
           intro w9 hr hg
           rw [splice_all rfl] at hr
           have HB9 := Lib.hid (((HB8.out.alloc (.cells (Au.winC none).toArray 32)).put hg HB8.out.size HB8.out.fresh).cons hr)
           have hb9 := below_of_alloc_store (w := w8) hg
           have HBk9 := Lib.hid (HBk8.out.below hb9)
           have HS9 := Lib.hid ((HS8.out.below hb9).mono hb9.size)
           clear hb9
           clear hr hg))
      refine (AWK.out _ HB9.out.1).mono ?_
      rintro _ w10 ⟨rfl, hb10⟩
      have HB10 := Lib.hid (HB9.out.step hb10)
      have HBk10 := Lib.hid (HBk9.out.below hb10)
      have HS10 := Lib.hid ((HS9.out.below hb10).mono hb10.size)
      clear hb10
      go_wp2_with ((with_reducible show wpList _ _ _ (⟨_, .load 30 (.tmp 1), _, _, _, _⟩ :: _) _ _); refine wpList_load_tx rfl 30 (.tmp 1) rfl w.heap.size 0 (rfl) x.cells _ (row_range HB10.out.tl.tl.hd) Tryd.underlying30 rfl (by rw [bid_info, HK36.out]) ?_)
      refine (BN.out _).mono ?_
      rintro _ w11 ⟨rfl, hb11⟩
      have HB11 := Lib.hid (HB10.out.step hb11)
      have HBk11 := Lib.hid (HBk10.out.below hb11)
      have HS11 := Lib.hid ((HS10.out.below hb11).mono hb11.size)
      clear hb11
      have r11 := (HRd.out _ HB11.out.tl.tl.hd)
      go_wp2_with fail
      refine (bids_nil _ _).mono ?_
      rintro _ w12 ⟨rfl, rfl⟩
      have hws := HWS.out
      go_wp2_with (first
        | ((with_reducible show wpList _ _ _ (⟨_, .load 32 (.tmp 4), _, _, _, _⟩ :: _) _ _); refine wpList_load_tx rfl 32 (.tmp 4) rfl g4 0 (rfl) (Au.winC none) _ (row_range HB11.out.tl.hd) Tryd.underlying32 rfl (by rw [win_size, HZ37.out]) ?_)
        | ((with_reducible show wpList _ _ _ (⟨_, .load 32 (.tmp 9), _, _, _, _⟩ :: _) _ _); refine wpList_load_tx rfl 32 (.tmp 9) rfl w8.heap.size 0 (rfl) (Au.winC none) _ (row_range HB11.out.hd) Tryd.underlying32 rfl (by rw [win_size, HZ37.out]) ?_)
        | ((with_reducible show wpList _ _ _ (⟨_, .build 32 _, _, _, _, _⟩ :: _) _ _); refine wpList_buildL rfl 32 [] rfl (some 56) rfl _ rfl (Au.winC none).toArray HBt.out ?_)
        | ((with_reducible show wpList _ _ _ (⟨_, .build 32 _, _, _, _, _⟩ :: _) _ _); refine wpList_buildL rfl 32 [] rfl (some 65) rfl _ rfl (Au.winC none).toArray HBt.out ?_))
      refine (bids_any x.round HX.out.round HBk11.out).mono ?_
      rintro _ w13 ⟨⟨v13, rfl, ho13⟩, hb13⟩
      have HB13 := Lib.hid (HB11.out.step hb13)
      have HS13 := Lib.hid ((HS11.out.below hb13).mono hb13.size)
      obtain ⟨A13, c13, rfl, _, _⟩ := ho13.form
      have HT13 := Lib.hid (ho13.slB (HBk11.out.fitsR x.round) (by have := HBk11.out.ok.few x.round; omega))
      clear hb13 ho13 r11
      go_wp2_with fail
      refine (same15_any true A7 A13 c7 c13 _ _ _ HS13.out HT13.out (by simp)).mono ?_
      rintro _ w14 ⟨rfl, hb14⟩
      have HB14 := Lib.hid (HB13.out.step hb14)
      clear hb14
      go_wp2_with fail
      go_ret
      exact ⟨by first | rfl | simp, HB14.out.1⟩
  · skip
    try simp only [Act.put, List.getElem_toArray, List.getElem_cons_succ, List.getElem_cons_zero, List.setIfInBounds_toArray, List.set_cons_zero, List.set_cons_succ]
    go_simp
    have hd14 := (Below.refl wq.heap.size wq).alloc (Nat.le_refl _) (.cells (Au.winC none).toArray 32)
    have hHeld2 : Row (wq.alloc (.cells (Au.winC none).toArray 32)) w.heap.size 30 x.cells ∧ Below w.heap.size w (wq.alloc (.cells (Au.winC none).toArray 32)) := ⟨hHeld.1.kept (grownBy_of_below hd14 none) (by simp), two_below' hHeld.2 hd14⟩
    have H4 : Hid (Row (wq.alloc (.cells (Au.winC none).toArray 32)) wq.heap.size 32 (Au.winC none)) := Lib.hid (Row.new wq 32 _)
    have N4 : Hid (w.heap.size ≠ wq.heap.size ∧ w.heap.size ≤ wq.heap.size) := Lib.hid ⟨by have := hHeld.1.lt; omega, hHeld.2.size⟩
    generalize wq.alloc (.cells (Au.winC none).toArray 32) = wz13 at *
    generalize hg4 : wq.heap.size = g4 at *
    clear hg4
    refine hK1.out _ _ (hHeld2) (fun hHeld => ?_)
    clear hK1 K1
    try simp only [Act.put, List.getElem_toArray, List.getElem_cons_succ, List.getElem_cons_zero, List.setIfInBounds_toArray, List.set_cons_zero, List.set_cons_succ]
    clear hHeld2
    refine wpAnyH_ready (rs := [3]) (by kernel_rfl) (by simp) (AllReadyH.cons rfl (fun K1 hK1 => ?_) AllReadyH.nil)
    try simp only [Act.put, List.getElem_toArray, List.getElem_cons_succ, List.getElem_cons_zero, List.setIfInBounds_toArray, List.set_cons_zero, List.set_cons_succ]
    go_simp
    refine Calls.mono (Bn.bankNew_any _) ?_
    rintro e wn15 ⟨rfl, _, hgN⟩
    have hc16 : Below wz13.heap.size wz13 wn15 := ⟨hgN.os, hgN.tape, hgN.output, hgN.size, fun k hk => hgN.block k hk (by simp)⟩
    clear hgN
    replace H4 := Lib.hid (H4.out.kept (grownBy_of_below hc16 none) (by simp))
    refine hK1.out _ _ (⟨hHeld.1.kept (grownBy_of_below hc16 none) (by simp), two_below' hHeld.2 hc16⟩) (fun hHeld => ?_)
    clear hK1 K1
    try simp only [Act.put, List.getElem_toArray, List.getElem_cons_succ, List.getElem_cons_zero, List.setIfInBounds_toArray, List.set_cons_zero, List.set_cons_succ]
    refine wpAnyH_ready (rs := [4]) (by kernel_rfl) (by simp) (AllReadyH.cons rfl (fun K1 hK1 => ?_) AllReadyH.nil)
    try simp only [Act.put, List.getElem_toArray, List.getElem_cons_succ, List.getElem_cons_zero, List.setIfInBounds_toArray, List.set_cons_zero, List.set_cons_succ]
    go_simp
    refine Calls.mono (HCN.out _ _ _) ?_
    rintro e wk17 ⟨rfl, hc18⟩
    replace H4 := Lib.hid (H4.out.kept (grownBy_of_below hc18 none) (by simp))
    refine hK1.out _ _ (⟨hHeld.1.kept (grownBy_of_below hc18 none) (by simp), two_below' hHeld.2 hc18⟩) (fun hHeld => ?_)
    clear hK1 K1
    try simp only [Act.put, List.getElem_toArray, List.getElem_cons_succ, List.getElem_cons_zero, List.setIfInBounds_toArray, List.set_cons_zero, List.set_cons_succ]
    refine wpAnyH_take (i := 5) (v := .tuple #[.agg (Au.winC none).toArray, .bool false]) rfl (by kernel_rfl) (by kernel_rfl) (by kernel_rfl) (fun _ _ _ h => h) (Or.inl ⟨by rfl, fun w' hSw => by go_simp⟩) hHeld ?_
    try simp only [Act.put, List.getElem_toArray, List.getElem_cons_succ, List.getElem_cons_zero, List.setIfInBounds_toArray, List.set_cons_zero, List.set_cons_succ]
    refine wpAnyH_take (i := 6) (v := .agg (Au.winC none).toArray) rfl (by kernel_rfl) (by kernel_rfl) (by kernel_rfl) (fun _ _ _ h => h) (Or.inl ⟨by rfl, fun w' hSw => by go_simp⟩) hHeld ?_
    try simp only [Act.put, List.getElem_toArray, List.getElem_cons_succ, List.getElem_cons_zero, List.setIfInBounds_toArray, List.set_cons_zero, List.set_cons_succ]
    refine wpAnyH_take (i := 7) (v := .bool false) rfl (by kernel_rfl) (by kernel_rfl) (by kernel_rfl) (fun _ _ _ h => h) (Or.inl ⟨by rfl, fun w' hSw => by go_simp⟩) hHeld ?_
    try simp only [Act.put, List.getElem_toArray, List.getElem_cons_succ, List.getElem_cons_zero, List.setIfInBounds_toArray, List.set_cons_zero, List.set_cons_succ]
    refine wpAnyH_ready (rs := [9]) (by kernel_rfl) (by simp) (AllReadyH.cons rfl (fun K1 hK1 => ?_) AllReadyH.nil)
    try simp only [Act.put, List.getElem_toArray, List.getElem_cons_succ, List.getElem_cons_zero, List.setIfInBounds_toArray, List.set_cons_zero, List.set_cons_succ]
    rw [if_pos (by rfl)]
    refine wp_store_at 32 (.tmp 4) (.tmp 17) rfl g4 0 (Au.winC none) (Au.winC none) 32 rfl rfl H4.out (by rw [HZ37.out]; omega) (by rw [win_size, HZ37.out]) HZ1.out ?_
    intro ws19 hrS hgS
    rw [splice_all rfl] at hrS
    have hHeld2 : Row ws19 w.heap.size 30 x.cells ∧ Below w.heap.size w ws19 := ⟨hHeld.1.kept hgS (fun e => by injection e with e; exact N4.out.1 e), below_own hHeld.2 hgS (fun k hk => by cases hk; exact N4.out.2)⟩
    have HBl : Hid (Blocks w ws19 [(g4, 32, Au.winC none), (w.heap.size, 30, x.cells)]) := Lib.hid (((Blocks.nil hHeld2.2).cons hHeld2.1).cons hrS)
    clear hrS hgS
    refine hK1.out _ _ (hHeld2) (fun hHeld => ?_)
    clear hK1 K1
    try simp only [Act.put, List.getElem_toArray, List.getElem_cons_succ, List.getElem_cons_zero, List.setIfInBounds_toArray, List.set_cons_zero, List.set_cons_succ]
    clear hHeld2
    refine wpAnyH_take (i := 10) (v := .bool false) rfl (by kernel_rfl) (by kernel_rfl) (by kernel_rfl) (fun _ _ _ h => h) (Or.inl ⟨by rfl, fun w' hSw => by go_simp⟩) hHeld ?_
    try simp only [Act.put, List.getElem_toArray, List.getElem_cons_succ, List.getElem_cons_zero, List.setIfInBounds_toArray, List.set_cons_zero, List.set_cons_succ]
    refine wpAnyH_done (by kernel_rfl) ?_ _
    clear hHeld H4
    have Hlt : Hid (g4 < ws19.heap.size ∧ w.heap.size < ws19.heap.size) := Lib.hid ⟨HBl.out.hd.lt, HBl.out.tl.hd.lt⟩
    go_wp2_with fail
    refine (NEW.out ws19).mono ?_
    rintro _ wN ⟨rfl, hbk, hbN⟩
    have HBk := Lib.hid hbk
    have HBN := Lib.hid (HBl.out.step hbN)
    have HbsN := Lib.hid hbN.size
    have Hbs0 := Lib.hid HBl.out.size
    clear hbk hbN HBl
    generalize ws19.heap.size = bs at *
    go_wp2_with ((with_reducible show wpList _ _ _ (⟨_, .load 30 (.tmp 1), _, _, _, _⟩ :: _) _ _); refine wpList_load_tx rfl 30 (.tmp 1) rfl w.heap.size 0 (rfl) x.cells _ (row_range HBN.out.tl.hd) Tryd.underlying30 rfl (by rw [bid_info, HK36.out]) ?_)
    refine (bookBid_any x HX.out (-1) HBk.out (by omega) HbsN.out (HT.out.below HBN.out.1 HP.out)).mono ?_
    rintro _ w6 ⟨rfl, V6, hbk6, hc6, hS6⟩
    have HB6 := Lib.hid (HBN.out.stepB (hc6.below HbsN.out (fun k hk => (HBk.out.ltS k hk).1)) (by
      intro y hy
      simp only [List.mem_cons, List.not_mem_nil, or_false] at hy
      rcases hy with rfl | rfl
      · exact Hlt.out.1
      · exact Hlt.out.2) Hbs0.out)
    have HBk6 := Lib.hid hbk6
    obtain ⟨L6, hL6⟩ : ∃ L6, L6 = Au.bidL 0 [] x (-1) := ⟨_, rfl⟩
    rw [← hL6] at HBk6
    clear hbk6 hc6 hS6 hL6 HBk HBN
    have r6 := (HRd.out _ HB6.out.tl.hd)
    go_wp2_with fail
    refine (bids_any x.round HX.out.round HBk6.out).mono ?_
    rintro _ w7 ⟨⟨v7, rfl, ho7⟩, hb7⟩
    have HB7 := Lib.hid (HB6.out.step hb7)
    have HBk7 := Lib.hid (HBk6.out.below hb7)
    obtain ⟨A7, c7, rfl, _, _⟩ := ho7.form
    have HS7 := Lib.hid (ho7.slB (HBk6.out.fitsR x.round) (by have := HBk6.out.ok.few x.round; omega))
    clear hb7 ho7 r6
    have r7 := (HRd.out _ HB7.out.tl.hd)
    go_wp2_with fail
    refine (close_nilK _ _ _).mono ?_
    rintro _ w8 ⟨rfl, hb8⟩
    have HB8 := Lib.hid (HB7.out.step hb8)
    have HBk8 := Lib.hid (HBk7.out.below hb8)
    have HS8 := Lib.hid ((HS7.out.below hb8).mono hb8.size)
    have Hn8 := Lib.hid (Row.new w8 32 (Au.winC none))
    clear hb8 r7
    unfold Au.winV
    simp only [Option.isSome_none]
    go_wp2_with (first
      | (
         with_reducible show wpList _ _ _ (⟨_, .store 32 (.tmp 9) _, _, _, _, _⟩ :: _) _ _
         refine wpList_store_at rfl 32 (.tmp 9) (.tmp 37) rfl w8.heap.size 0 (Au.winC none) (Au.winC none) _ rfl rfl (Hn8.out) (by have := HZ37.out; have := HZ37.out; omega) (by rw [win_size, HZ37.out]) HZ1.out ?_
         intro w9 hr hg
         rw [splice_all rfl] at hr
         have HB9 := Lib.hid (((HB8.out.alloc (.cells (Au.winC none).toArray 32)).put hg HB8.out.size HB8.out.fresh).cons hr)
         have hb9 := below_of_alloc_store (w := w8) hg
         have HBk9 := Lib.hid (HBk8.out.below hb9)
         have HS9 := Lib.hid ((HS8.out.below hb9).mono hb9.size)
         clear hb9
         clear hr hg))
    refine (AWK.out _ HB9.out.1).mono ?_
    rintro _ w10 ⟨rfl, hb10⟩
    have HB10 := Lib.hid (HB9.out.step hb10)
    have HBk10 := Lib.hid (HBk9.out.below hb10)
    have HS10 := Lib.hid ((HS9.out.below hb10).mono hb10.size)
    clear hb10
    go_wp2_with ((with_reducible show wpList _ _ _ (⟨_, .load 30 (.tmp 1), _, _, _, _⟩ :: _) _ _); refine wpList_load_tx rfl 30 (.tmp 1) rfl w.heap.size 0 (rfl) x.cells _ (row_range HB10.out.tl.tl.hd) Tryd.underlying30 rfl (by rw [bid_info, HK36.out]) ?_)
    refine (BN.out _).mono ?_
    rintro _ w11 ⟨rfl, hb11⟩
    have HB11 := Lib.hid (HB10.out.step hb11)
    have HBk11 := Lib.hid (HBk10.out.below hb11)
    have HS11 := Lib.hid ((HS10.out.below hb11).mono hb11.size)
    clear hb11
    have r11 := (HRd.out _ HB11.out.tl.tl.hd)
    go_wp2_with fail
    refine (bids_nil _ _).mono ?_
    rintro _ w12 ⟨rfl, rfl⟩
    have hws := HWS.out
    go_wp2_with (first
      | ((with_reducible show wpList _ _ _ (⟨_, .load 32 (.tmp 4), _, _, _, _⟩ :: _) _ _); refine wpList_load_tx rfl 32 (.tmp 4) rfl g4 0 (rfl) (Au.winC none) _ (row_range HB11.out.tl.hd) Tryd.underlying32 rfl (by rw [win_size, HZ37.out]) ?_)
      | ((with_reducible show wpList _ _ _ (⟨_, .load 32 (.tmp 9), _, _, _, _⟩ :: _) _ _); refine wpList_load_tx rfl 32 (.tmp 9) rfl w8.heap.size 0 (rfl) (Au.winC none) _ (row_range HB11.out.hd) Tryd.underlying32 rfl (by rw [win_size, HZ37.out]) ?_)
      | ((with_reducible show wpList _ _ _ (⟨_, .build 32 _, _, _, _, _⟩ :: _) _ _); refine wpList_buildL rfl 32 [] rfl (some 56) rfl _ rfl (Au.winC none).toArray HBt.out ?_)
      | ((with_reducible show wpList _ _ _ (⟨_, .build 32 _, _, _, _, _⟩ :: _) _ _); refine wpList_buildL rfl 32 [] rfl (some 65) rfl _ rfl (Au.winC none).toArray HBt.out ?_))
    refine (bids_any x.round HX.out.round HBk11.out).mono ?_
    rintro _ w13 ⟨⟨v13, rfl, ho13⟩, hb13⟩
    have HB13 := Lib.hid (HB11.out.step hb13)
    have HS13 := Lib.hid ((HS11.out.below hb13).mono hb13.size)
    obtain ⟨A13, c13, rfl, _, _⟩ := ho13.form
    have HT13 := Lib.hid (ho13.slB (HBk11.out.fitsR x.round) (by have := HBk11.out.ok.few x.round; omega))
    clear hb13 ho13 r11
    go_wp2_with fail
    refine (same15_any true A7 A13 c7 c13 _ _ _ HS13.out HT13.out (by simp)).mono ?_
    rintro _ w14 ⟨rfl, hb14⟩
    have HB14 := Lib.hid (HB13.out.step hb14)
    clear hb14
    go_wp2_with fail
    go_ret
    exact ⟨by first | rfl | simp, HB14.out.1⟩
end Go.Proofs.YtlapmdgkcidhnaaDoor
