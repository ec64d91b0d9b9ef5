/- The reference's book: Bids, Bid. -/
import Derived.Test.YtlapmdgkcidhnaaDoorBkClose
import Derived.Test.YtlapmdgkcidhnaaDoorAuRwin
namespace Go.Proofs.YtlapmdgkcidhnaaDoor
open Go.RowKit Go.Maps
set_option linter.unusedVariables false
set_option linter.unusedSimpArgs false
set_option maxRecDepth 100000

/-- the reference's book: its block X, its list v above base -/
structure RBookAt (w : World) (base X : Nat) (v : Value) (fl : Int) (L : List Bd) (n : Nat) : Prop where
  row : Row w X 47 [.int .i64 fl, v]
  own : OwnL w base 30 36 Bd.cells v L
  ok : Au.BkOk L n
  lo : base ≤ X
def RBkS (X : Nat) (v : Value) (k : Nat) : Prop := k = X ∨ v.ownBlock = some k
theorem RBookAt.chg {S : Nat → Prop} {w w' : World} {base X n : Nat} {v : Value} {fl : Int} {L : List Bd} (h : RBookAt w base X v fl L n) (hc : Chg S w w') (hS : ∀ k, RBkS X v k → ¬ S k) : RBookAt w' base X v fl L n :=
  ⟨hc.row h.row (hS _ (.inl rfl)), h.own.chg hc (fun k hk => hS k (.inr hk)), h.ok, h.lo⟩
theorem RBookAt.below {w w' : World} {base X n : Nat} {v : Value} {fl : Int} {L : List Bd} (h : RBookAt w base X v fl L n) (hb : Below w.heap.size w w') : RBookAt w' base X v fl L n :=
  h.chg (S := fun _ => False) (Chg.of_below hb) (fun _ _ h => h)
theorem RBookAt.mono {w : World} {base X n m : Nat} {v : Value} {fl : Int} {L : List Bd} (h : RBookAt w base X v fl L n) (hm : n ≤ m) : RBookAt w base X v fl L m :=
  ⟨h.row, h.own, h.ok.mono hm, h.lo⟩
theorem RBookAt.lt {w : World} {base X n : Nat} {v : Value} {fl : Int} {L : List Bd} (h : RBookAt w base X v fl L n) : ∀ k, RBkS X v k → base ≤ k ∧ k < w.heap.size := by
  rintro k (rfl | hk)
  · exact ⟨h.lo, h.row.lt⟩
  · exact h.own.lt k hk
theorem RBookAt.c0 {w : World} {base X n : Nat} {v : Value} {fl : Int} {L : List Bd} (h : RBookAt w base X v fl L n) : w.cell? ⟨X, 0, none⟩ = some (.int .i64 fl) := h.row.cell 0 (by simp)
theorem RBookAt.c1 {w : World} {base X n : Nat} {v : Value} {fl : Int} {L : List Bd} (h : RBookAt w base X v fl L n) : w.cell? ⟨X, 1, none⟩ = some v := h.row.cell 1 (by simp)
/-- what a call makes of it -/
def RBkTo (w w' : World) (base X : Nat) (v : Value) (fl : Int) (L : List Bd) (n : Nat) : Prop :=
  ∃ v', RBookAt w' base X v' fl L n ∧ Chg (RBkS X v) w w' ∧ ∀ k, RBkS X v' k → RBkS X v k ∨ w.heap.size ≤ k
theorem RBkTo.same {w w' : World} {base X n : Nat} {v : Value} {fl : Int} {L : List Bd} (h : RBookAt w base X v fl L n) (hb : Below w.heap.size w w') : RBkTo w w' base X v fl L (n + 1) :=
  ⟨v, (h.below hb).mono (by omega), Chg.of_below hb, fun k hk => .inl hk⟩
theorem RBookAt.pushed {w w1 w2 : World} {base X n : Nat} {v v' : Value} {fl : Int} {L : List Bd} {x : Bd} (h : RBookAt w base X v fl L n) (hx : x.Fits) (hl : (Au.ofR x.round L).length < 32) (hb : Below w.heap.size w w1)
    (ho : OwnL w2 base 30 36 Bd.cells v' (L ++ [x])) (hg : w1.grownBy w2 v.ownBlock) (hwh : v'.ownBlock = v.ownBlock ∨ v'.ownBlock = some w1.heap.size) (hr : Row w2 X 47 [.int .i64 fl, v]) : RBkTo w (w2.setCell ⟨X, 1, none⟩ v') base X v fl (L ++ [x]) (n + 1) := by
  refine ⟨v', ⟨hr.set 1 v' (by simp), ho.kept (grownBy_set w2 X 1 v') (.inr (ho.ne_block hr (by decide))), h.ok.push hx hl, h.lo⟩, ?_, ?_⟩
  · refine (Chg.of_below (S := RBkS X v) hb).trans (S2 := RBkS X v) ?_ (fun i hi => .inl hi)
    exact (Chg.of_grown (S := RBkS X v) hg (fun k hk => .inl (.inr hk))).trans (S2 := RBkS X v) (Chg.of_grown (grownBy_set w2 X 1 v') (fun k hk => by cases hk; exact .inl (.inl rfl))) (fun i hi => .inl hi)
  · rintro k (rfl | hk)
    · exact .inl (.inl rfl)
    · rcases hwh with e | e
      · exact .inl (.inr (e.symm.trans hk))
      · rw [hk] at e
        injection e with e
        right; rw [e]; exact hb.size
theorem rbookNew (f : Int) (w : World) : RBookAt (w.alloc (.cells #[.int .i64 f, .slice none 0 0] 47)) w.heap.size w.heap.size (.slice none 0 0) f [] 0 :=
  ⟨Row.new w 47 [.int .i64 f, .slice none 0 0], OwnL.nil _ _ _ _ _, Au.BkOk.nil 0, Nat.le_refl _⟩
namespace Au
theorem ofR_take_succ (r : Int) (L : List Bd) (k : Nat) (hk : k < L.length) : ofR r (L.take (k + 1)) = if (L.getD k Bd.zero).round = r then ofR r (L.take k) ++ [L.getD k Bd.zero] else ofR r (L.take k) := by
  rw [List.take_add_one, List.getElem?_eq_getElem hk, Option.toList_some, List.getD_eq_getElem?_getD, List.getElem?_eq_getElem hk]
  exact ofR_push r _ _
theorem ofR_take_len (r : Int) (L : List Bd) (k : Nat) : (ofR r (L.take k)).length ≤ k := by
  refine Nat.le_trans (List.length_filter_le _ _) ?_
  rw [List.length_take]; omega
end Au
set_option maxHeartbeats 3200000 in
theorem rbids_any {w : World} {base X n : Nat} {v : Value} {fl : Int} {L : List Bd} (r : Int) (h : RBookAt w base X v fl L n) (hn : n ≤ 1000) :
    Calls Tryd.prog 29 #[.pointer (some ⟨X, 0, none⟩), .int .i64 r] w fun e w' => ∃ v', e = .returned v' ∧ OwnL w' w.heap.size 30 36 Bd.cells v' (Au.ofR r L) ∧ Below w.heap.size w w' := by
  obtain ⟨i0, hi, h2⟩ := Option.map_eq_some_iff.1 bd_info15
  simp only [Prod.mk.injEq] at h2
  have Hi := Lib.hid hi
  have Hz := Lib.hid h2.1
  have Hsz := Lib.hid h2.2.1
  have Hby := Lib.hid h2.2.2
  clear hi h2
  have HH := Lib.hid h
  obtain ⟨A, c, rfl, _, _⟩ := h.own.form
  obtain ⟨m, hm⟩ : ∃ m, m = L.length := ⟨_, rfl⟩
  have hmn : m ≤ 1000 := by have := h.ok.len; omega
  obtain ⟨T, hTT⟩ : ∃ T : Nat → List Bd, T = fun k => Au.ofR r (L.take k) := ⟨_, rfl⟩
  obtain ⟨Y, hY⟩ : ∃ Y : Nat → Bd, Y = fun k => L.getD k Bd.zero := ⟨_, rfl⟩
  have HT0 : Hid (T 0 = []) := Lib.hid (by rw [hTT]; rfl)
  have HTM : Hid (T m = Au.ofR r L) := Lib.hid (by rw [hTT, hm]; exact congrArg (Au.ofR r) (List.take_length))
  have HSS : Hid (∀ k, k < m → T (k + 1) = if (Y k).round = r then T k ++ [Y k] else T k) := Lib.hid (fun k hk => by rw [hTT, hY]; exact Au.ofR_take_succ r L k (by omega))
  have HTL : Hid (∀ k, (T k).length ≤ k) := Lib.hid (fun k => by rw [hTT]; exact Au.ofR_take_len r L k)
  have HYF : Hid (∀ k, k < m → (Y k).Fits) := Lib.hid (fun k hk => by rw [hY]; exact h.ok.fits _ (Au.getD_mem (by omega)))
  have HAt : Hid (∀ k, k < m → ∃ g, A = some ⟨g, 0, none⟩ ∧ g < w.heap.size ∧ w.rangeAt g (k * 36) (Y k).cells) := Lib.hid (fun k hk => by
    obtain ⟨g, c', e, _, hg⟩ := h.own.ne (by intro e; rw [e] at hm; simp at hm; omega)
    injection e with e1 e2 e3
    subst e1
    refine ⟨g, rfl, hg, ?_⟩
    have h1 := h.own.at (fun x hx => Bd.cells_len (h.ok.fits x hx).tag) k (by omega)
    rw [hY]
    show w.rangeAt g (k * 36) (L.getD k Bd.zero).cells
    rw [List.getD_eq_getElem?_getD, List.getElem?_eq_getElem (by omega)]
    exact h1)
  have HC1 : Hid (∀ W, Below w.heap.size w W → W.cell? ⟨X, 1, none⟩ = some (.slice A m c)) := Lib.hid (fun W hW => by rw [hm]; exact (h.below hW).c1)
  have HZ36 := Lib.hid (Bd.cells_len (b := Bd.zero) rfl)
  rw [← HTM.out]
  clear h hn hm hTT hY HH HTM
  generalize Bd.zero.cells = ZB at *
  go_enter Tryd.func29, Tryd.ntmps29
  go_wp2_with fail
  go_loopw [5, 6] (fun s5 s6 wr => ∃ (v : Value) (k : Nat), k ≤ m ∧ v = s5 ∧ s6 = .int .i64 k ∧ RcAt w wr v (T k)) (fun _ i _ => m - (intOf i).toNat)
  case atStart => exact ⟨_, 0, Nat.zero_le _, rfl, rfl, by rw [HT0.out]; exact ⟨Below.refl _ _, OwnL.nil _ _ _ _ _⟩⟩
  case round =>
    obtain ⟨v, k, hk, rfl, rfl, hC⟩ := hrel
    have HC := Lib.hid hC
    have c1 := HC1.out wr hC.below
    clear hC
    by_cases hkm : k < m
    · have hki : (k : Int) < (m : Int) := by omega
      have hk0 : (0 : Int) ≤ (k : Int) := by omega
      obtain ⟨g, rfl, hg, hat⟩ := HAt.out k hkm
      have HRr : Hid (wr.rangeAt g (k * 36) (Y k).cells) := Lib.hid (fun j u hu => (HC.out.below.cell (p := ⟨g, k * 36 + j, none⟩) hg).trans (hat j u hu))
      have HFt := Lib.hid (HYF.out k hkm)
      have HK36 := Lib.hid (Bd.cells_len HFt.out.tag)
      have HK1 := Lib.hid (Bd.cells_one HFt.out.tag)
      have HS := Lib.hid (HSS.out k hkm)
      have hTLk := HTL.out k
      have e0 : wr.cell? ⟨g, k * 36, none⟩ = some (.int .i64 (Y k).round) := by have := HRr.out 0 (.int .i64 (Y k).round) rfl; simpa using this
      obtain ⟨A1, c1', rfl, hlc, hcm⟩ := HC.out.own.form
      obtain ⟨q, hq⟩ : ∃ q, q = (T k).length := ⟨_, rfl⟩
      have hqk : q ≤ k := by rw [hq]; exact hTLk
      have hk63 : q + 1 ≤ maxLen := by unfold maxLen; omega
      have hk48 : ((q + 1) + (q + 1) / 4 + 192) * 64 ≤ 281474976710656 := by omega
      rw [← hq] at hlc HC ⊢
      have HQ := Lib.hid hq
      clear hq hat HAt HSS HTL HYF hTLk
      obtain ⟨CK, hCK⟩ : ∃ CK, (Y k).cells = CK := ⟨_, rfl⟩
      rw [hCK] at HRr HK36 HK1
      have HCK := Lib.hid hCK
      clear hCK
      obtain ⟨yr, hyr⟩ : ∃ yr, (Y k).round = yr := ⟨_, rfl⟩
      rw [hyr] at e0 HS
      clear hyr
      by_cases hr : yr = r
      · have hrb : (yr == r) = true := by simpa using hr
        have HS1 : Hid (T (k + 1) = T k ++ [Y k]) := Lib.hid (by rw [HS.out, if_pos hr])
        clear hr HS
        have hbn := (Below.refl wr.heap.size wr).alloc (Nat.le_refl _) (.cells CK.toArray 30)
        have HNew := Lib.hid (row_news (Row.new wr 30 CK))
        have HO7 := Lib.hid (HC.out.own.own.alloc (.cells CK.toArray 30))
        rw [← HQ.out] at HO7
        have HB7 := Lib.hid (two_below' HC.out.below hbn)
        have HBs7 := Lib.hid HB7.out.size
        clear hbn
        go_wp2_with (first
          | ((with_reducible show wpList _ _ _ (⟨_, .load 30 (.tmp 32), _, _, _, _⟩ :: _) _ _); refine wpList_load_tx rfl 30 (.tmp 32) rfl g (k * 36) (by first | rfl | simp) CK _ (HRr.out) Tryd.underlying30 rfl (by rw [bid_info, HK36.out]) ?_)
          | ((with_reducible show wpList _ _ _ (⟨_, .buildSlice 22 _ _, _, _, _, _⟩ :: _) _ _); refine wpList_buildSliceL rfl 22 30 1 [(0, .tmp 33)] rfl (some 34) rfl [(0, .agg CK.toArray)] rfl CK.toArray i0 (.agg ZB.toArray) 36 Tryd.underlying22 Hi.out Hz.out Hsz.out (by decide) (by decide) (fill_one15 36 _ CK HK36.out) ?_)
          | (at_builtin
             refine wpList_append_own_wide _ rfl (.tmp 26) (.tmp 34) 22 rfl w.heap.size 30 i0 (.agg ZB.toArray) 36 64 Tryd.underlying22 Hi.out Hz.out Hsz.out Hby.out (by rw [← HZ36.out]; rfl) (by decide) _ _ _ rfl HO7.out ⟨wr.heap.size, 0, none⟩ 1 1 CK rfl (by rw [HK36.out]) HNew.out HK1.out hk63 hk48 HBs7.out ?_
             intro v8 w8 hown8 hgrow8 _
             have HC8 : Hid (RcAt w w8 v8 (T k ++ [Y k])) := Lib.hid ⟨below_row HB7.out HBs7.out HO7.out hgrow8, OwnL.pushed (by rw [HCK.out, ← HQ.out]; exact hown8)⟩
             clear hown8 hgrow8))
        exact ⟨⟨_, k + 1, by omega, rfl, by go_num, by rw [HS1.out]; exact HC8.out⟩, by simp [intOf]; omega⟩
      · have hrb : (yr == r) = false := by simpa using hr
        have HS1 : Hid (T (k + 1) = T k) := Lib.hid (by rw [HS.out, if_neg hr])
        clear hr HS
        go_wp2_with fail
        exact ⟨⟨_, k + 1, by omega, rfl, by go_num, by rw [HS1.out]; exact HC.out⟩, by simp [intOf]; omega⟩
    · have hki : ¬ (k : Int) < (m : Int) := by omega
      have e : k = m := by omega
      subst e
      go_wp2_with fail
      go_ret
      exact ⟨_, rfl, HC.out.own, HC.out.below⟩
set_option maxHeartbeats 6400000 in
theorem rbookBid_any (hRS : RefSum) {w : World} {base X n : Nat} {v : Value} {fl : Int} {L : List Bd} (x : Bd) (hx : x.Fits) (now : Int) (h : RBookAt w base X v fl L n) (hn : n ≤ 1000) (hbs : base ≤ w.heap.size) :
    Calls Tryd.prog 22 #[.pointer (some ⟨X, 0, none⟩), .agg x.cells.toArray, .int .i64 now] w fun e w' => e = .returned (.int .i64 (Au.bidE fl L x now)) ∧ RBkTo w w' base X v fl (Au.bidL fl L x now) (n + 1) := by
  obtain ⟨i0, hi, h2⟩ := Option.map_eq_some_iff.1 bd_info15
  simp only [Prod.mk.injEq] at h2
  have Hi := Lib.hid hi
  have Hz := Lib.hid h2.1
  have Hsz := Lib.hid h2.2.1
  have Hby := Lib.hid h2.2.2
  clear hi h2
  have HH := Lib.hid h
  have HX := Lib.hid hx
  have Hbs := Lib.hid hbs
  have CB : Hid (∀ W, Calls Tryd.prog 52 #[.agg x.cells.toArray] W fun e w' => e = .returned (.int .i64 x.check) ∧ Below W.heap.size W w') := Lib.hid (fun W => rcheckBid_any hRS x HX.out W)
  have HK36 := Lib.hid (Bd.cells_len HX.out.tag)
  have HK1 := Lib.hid (Bd.cells_one HX.out.tag)
  have HZ36 := Lib.hid (Bd.cells_len (b := Bd.zero) rfl)
  have HBox : Hid (∀ W, Row W w.heap.size 30 x.cells → W.cell? ⟨w.heap.size, 0, none⟩ = some (.int .i64 x.round) ∧ W.cell? ⟨w.heap.size, 1, none⟩ = some (.int .i64 x.who) ∧ W.cell? ⟨w.heap.size, 2, none⟩ = some (.int .i64 x.amount)) := Lib.hid (fun W h => ⟨(bid_box h).1, (bid_box h).2.1, (bid_box h).2.2.1⟩)
  have Hr0 := Lib.hid (Row.new w 30 x.cells)
  have Hb0 := Lib.hid ((Below.refl w.heap.size w).alloc (Nat.le_refl _) (.cells x.cells.toArray 30))
  obtain ⟨l0, hl0⟩ : ∃ l0, l0 = L.length := ⟨_, rfl⟩
  have hl0n : l0 ≤ 1000 := by have := h.ok.len; omega
  have HL0n := Lib.hid hl0
  obtain ⟨m, hm⟩ : ∃ m, m = (Au.ofR x.round L).length := ⟨_, rfl⟩
  have HBi : Hid (∀ W, Below w.heap.size w W → Calls Tryd.prog 29 #[.pointer (some ⟨X, 0, none⟩), .int .i64 x.round] W fun e w' => ∃ v', e = .returned v' ∧ OwnL w' W.heap.size 30 36 Bd.cells v' (Au.ofR x.round L) ∧ Below W.heap.size W w') := Lib.hid (fun W hW => rbids_any x.round (HH.out.below hW) hn)
  have hE : Au.bidE fl L x now = if x.check ≠ 0 then x.check else if x.round ≤ now then 26 else if x.amount < fl then 24 else if ((Au.ofR x.round L).any fun y => y.who == x.who) = true then 23 else if 32 ≤ m then 25 else 0 := by rw [hm]; rfl
  have HSame : Hid (∀ W, Below w.heap.size w W → ∀ E, E ≠ 0 → Au.bidE fl L x now = E → RBkTo w W base X v fl (Au.bidL fl L x now) (n + 1)) := Lib.hid (fun W hW E hE0 hE1 => by rw [Au.bidL_no (by rw [hE1]; exact hE0)]; exact RBkTo.same HH.out hW)
  have hm32 : m ≤ 32 := by rw [hm]; exact HH.out.ok.few _
  have HM := Lib.hid hm
  have HYF : Hid (∀ y ∈ Au.ofR x.round L, y.Fits) := Lib.hid (fun b hb => h.ok.fits b (Au.ofR_round hb).2)
  obtain ⟨CK, hCK⟩ : ∃ CK, x.cells = CK := ⟨_, rfl⟩
  have HCK := Lib.hid hCK
  rw [hCK] at CB HK36 HK1 HBox Hr0 Hb0 ⊢
  have hltX := HH.out.row.lt
  clear h hx hbs hCK hm hRS hl0
  go_enter Tryd.func22, Tryd.ntmps22
  go_wp2_with ((with_reducible show wpList _ _ _ (⟨_, .load 30 (.tmp 4), _, _, _, _⟩ :: _) _ _); refine wpList_load_tx rfl 30 (.tmp 4) rfl w.heap.size 0 (rfl) CK _ (row_range Hr0.out) Tryd.underlying30 rfl (by rw [bid_info, HK36.out]) ?_)
  refine (CB.out _).mono ?_
  rintro _ w5 ⟨rfl, hb5⟩
  have Hr5 := Lib.hid (Hr0.out.kept (grownBy_of_below hb5 none) (by simp))
  have Hb5 := Lib.hid (two_below' Hb0.out hb5)
  clear hb5
  by_cases q0 : x.check = 0
  rotate_left
  · rw [if_pos q0] at hE
    have HE := Lib.hid hE
    have Q0 := Lib.hid q0
    have e0 : (x.check != 0) = true := by simpa using q0
    clear hE q0
    go_wp2_with fail
    go_ret
    rw [HE.out]
    exact ⟨rfl, HSame.out _ Hb5.out _ Q0.out HE.out⟩
  rw [if_neg (by simpa using q0)] at hE
  rw [q0]
  have Q0 := Lib.hid q0
  clear q0
  obtain ⟨c0, cw, c2⟩ := HBox.out _ Hr5.out
  clear cw
  by_cases q1 : x.round ≤ now
  · rw [if_pos q1] at hE
    have HE := Lib.hid hE
    have e1 : decide (x.round ≤ now) = true := by simpa using q1
    clear hE q1
    generalize x.round = xr at *
    go_wp2_with fail
    go_ret
    rw [HE.out]
    exact ⟨rfl, HSame.out _ Hb5.out _ (by decide) HE.out⟩
  rw [if_neg q1] at hE
  have e1 : decide (x.round ≤ now) = false := by simpa using q1
  clear q1
  have H6 := Lib.hid (HH.out.below Hb5.out)
  have d0 := H6.out.c0
  have HDr := Lib.hid (fun k => below_drewN' Hb5.out k)
  have HRr := Lib.hid (fun k => Hr5.out.kept (grownBy_drewN w5 k none) (by simp))
  by_cases q2 : x.amount < fl
  · rw [if_pos q2] at hE
    have HE := Lib.hid hE
    have e2 : decide (x.amount < fl) = true := by simpa using q2
    clear hE q2
    generalize x.round = xr at *
    generalize x.amount = xa at *
    go_wp2_with fail
    go_quiet (fail)
    go_wp2_with fail
    go_ret
    rw [HE.out]
    exact ⟨rfl, HSame.out _ (HDr.out _) _ (by decide) HE.out⟩
  rw [if_neg q2] at hE
  have e2 : decide (x.amount < fl) = false := by simpa using q2
  clear q2
  obtain ⟨an, han⟩ : ∃ an, an = ((Au.ofR x.round L).any fun y => y.who == x.who) := ⟨_, rfl⟩
  rw [← han] at hE
  have HAn := Lib.hid han
  clear han
  obtain ⟨xr, hxr⟩ : ∃ xr, xr = x.round := ⟨_, rfl⟩
  obtain ⟨xa, hxa⟩ : ∃ xa, xa = x.amount := ⟨_, rfl⟩
  rw [← hxr] at c0 e1 HBi
  rw [← hxa] at c2 e2
  have HXr := Lib.hid hxr
  clear hxr hxa
  go_wp2_with fail
  go_quiet (fail)
  have Hb6 := Lib.hid (HDr.out nq)
  have Hr6 := Lib.hid (HRr.out nq)
  clear HDr HRr c2 d0 H6
  have c0 : (w5.drewN nq).cell? ⟨w.heap.size, 0, none⟩ = some (.int .i64 xr) := by rw [HXr.out]; exact (HBox.out _ Hr6.out).1
  generalize w5.drewN nq = w6 at *
  go_wp2_with fail
  refine (HBi.out _ Hb6.out).mono ?_
  rintro _ w7 ⟨vb, rfl, hob, hb7⟩
  have Hb7 := Lib.hid (two_below' Hb6.out hb7)
  have Hr7 := Lib.hid (Hr6.out.kept (grownBy_of_below hb7 none) (by simp))
  have cw := (HBox.out _ Hr7.out).2.1
  obtain ⟨Ab, cb, rfl, _, _⟩ := hob.form
  have HOb := Lib.hid hob
  clear hb7 hob HBi Hb6 Hr6 c0
  obtain ⟨Y, hY⟩ : ∃ Y : Nat → Bd, Y = fun k => (Au.ofR x.round L).getD k Bd.zero := ⟨_, rfl⟩
  have HAt : Hid (∀ i, i < m → ∃ g, Ab = some ⟨g, 0, none⟩ ∧ g < w7.heap.size ∧ w7.cell? ⟨g, i * 36 + 1, none⟩ = some (.int .i64 (Y i).who)) := Lib.hid (fun i hi => by
    have ho := HOb.out
    rw [HXr.out] at ho
    have hme := HM.out
    obtain ⟨g, c', e, _, hg⟩ := ho.ne (by intro e; rw [e] at hme; simp at hme; omega)
    injection e with e1 e2 e3
    subst e1
    refine ⟨g, rfl, hg, ?_⟩
    rw [hY]
    show w7.cell? _ = some (.int .i64 ((Au.ofR x.round L).getD i Bd.zero).who)
    rw [List.getD_eq_getElem?_getD, List.getElem?_eq_getElem (by omega)]
    exact ho.cell (fun x hx => Bd.cells_len (HYF.out x hx).tag) i (by omega) 1 _ rfl)
  have HYes : Hid (∀ i, i < m → (Y i).who = x.who → an = true) := Lib.hid (fun i hi e => by
    rw [HAn.out, List.any_eq_true]
    exact ⟨Y i, by rw [hY]; exact Au.getD_mem (by have := HM.out; omega), by simp [e]⟩)
  have HNo : Hid ((∀ i, i < m → (Y i).who ≠ x.who) → an = false) := Lib.hid (fun h => by
    rw [HAn.out, List.any_eq_false]
    intro y hy
    obtain ⟨i, hi, rfl⟩ := List.getElem_of_mem hy
    have := h i (by have := HM.out; omega)
    rw [hY] at this
    simp only [List.getD_eq_getElem?_getD, List.getElem?_eq_getElem hi] at this
    simpa using this)
  obtain ⟨lb, hlb⟩ : ∃ lb, lb = (Au.ofR xr L).length := ⟨_, rfl⟩
  have hlm : lb = m := by rw [hlb, HXr.out, HM.out]
  rw [← hlb, hlm]
  clear hlb hlm hY
  obtain ⟨xw, hxw⟩ : ∃ xw, xw = x.who := ⟨_, rfl⟩
  rw [← hxw] at cw HYes HNo
  have hltg := Hr7.out.lt
  have HE := Lib.hid hE
  clear hxw hE
  go_wp2_with fail
  go_loopw [9] (fun s9 wr => ∃ k : Nat, k ≤ m ∧ s9 = .int .i64 k ∧ Hid (∀ i, i < k → (Y i).who ≠ xw) ∧ Hid (Below w7.heap.size w7 wr)) (fun i _ => m - (intOf i).toNat)
  case atStart => exact ⟨0, Nat.zero_le _, rfl, Lib.hid (fun i hi => by omega), Lib.hid (Below.refl _ _)⟩
  case round =>
    obtain ⟨k, hk, rfl, HD, Hbr⟩ := hrel
    by_cases hkm : k < m
    · have hki : (k : Int) < (m : Int) := by omega
      have hk0 : (0 : Int) ≤ (k : Int) := by omega
      obtain ⟨g, rfl, hg, hat⟩ := HAt.out k hkm
      have c6 := (Hbr.out.cell (p := ⟨g, k * 36 + 1, none⟩) hg).trans hat
      have c7 := (Hbr.out.cell (p := ⟨w.heap.size, 1, none⟩) hltg).trans cw
      have HY := Lib.hid (HYes.out k hkm)
      have HBr2 := Lib.hid (fun n => below_drewN' Hbr.out n)
      clear hat
      by_cases hee : (Y k).who = xw
      · have e0 : ((Y k).who == xw) = true := by simpa using hee
        have HY2 := Lib.hid (HY.out hee)
        clear hee
        generalize (Y k).who = yw at *
        go_wp2_with fail
        go_quiet (fail)
        go_wp2_with fail
        go_ret
        have hE := HE.out
        rw [HY2.out, if_pos rfl] at hE
        rw [hE]
        exact ⟨rfl, HSame.out _ (two_below' Hb7.out (HBr2.out _)) _ (by decide) hE⟩
      · have e0 : ((Y k).who == xw) = false := by simpa using hee
        have HDn : Hid (∀ i, i < k + 1 → (Y i).who ≠ xw) := Lib.hid (fun i hi => by
          by_cases e : i = k
          · subst e; exact hee
          · exact HD.out i (by omega))
        clear hee
        generalize (Y k).who = yw at c6 e0
        go_wp2_with fail
        go_quiet (fail)
        go_wp2_with fail
        exact ⟨⟨k + 1, by omega, by go_num, HDn, Lib.hid (HBr2.out _)⟩, by simp [intOf]; omega⟩
    · have hki : ¬ (k : Int) < (m : Int) := by omega
      have e : k = m := by omega
      have hE := HE.out
      rw [HNo.out (by rw [← e]; exact HD.out), if_neg (by simp)] at hE
      have Hb8 := Lib.hid (two_below' Hb7.out Hbr.out)
      have Hr8 := Lib.hid (Hr7.out.kept (grownBy_of_below Hbr.out none) (by simp))
      clear HE HD HYes HNo HAt hltg cw
      subst e
      by_cases q4 : 32 ≤ k
      · rw [if_pos q4] at hE
        have HE := Lib.hid hE
        have q4i : (32 : Int) ≤ (k : Int) := by omega
        clear hE
        go_wp2_with fail
        go_ret
        rw [HE.out]
        exact ⟨rfl, HSame.out _ Hb8.out _ (by decide) HE.out⟩
      · rw [if_neg q4] at hE
        have HE := Lib.hid hE
        have q4i : ¬ (32 : Int) ≤ (k : Int) := by omega
        have q4l : k < 32 := by omega
        have hL : Au.bidL fl L x now = L ++ [x] := if_pos hE
        have HE0 := Lib.hid hE
        have HL0 := Lib.hid hL
        clear hE q4 hL
        have H8 := Lib.hid (HH.out.below Hb8.out)
        have hk63 : Hid (l0 + 1 ≤ maxLen) := Lib.hid (by unfold maxLen; omega)
        have hk48 : Hid (((l0 + 1) + (l0 + 1) / 4 + 192) * 64 ≤ 281474976710656) := Lib.hid (by omega)
        generalize wr = w8 at *
        go_wp2_with fail
        refine wp_region_held_drew (S := fun w' => Row w' w.heap.size 30 CK) (by kernel_rfl) (Hr8.out.kept (grownBy_drew _ none) (by simp)) (fun hHeld => ?_)
        have HOq := Lib.hid (H8.out.own.below ((Below.refl w8.heap.size w8).drew))
        have HRx := Lib.hid (H8.out.row.below ((Below.refl w8.heap.size w8).drew))
        have Hbq := Lib.hid (Hb8.out.drew)
        generalize w8.drew = wq at *
        have hbn := (Below.refl wq.heap.size wq).alloc (Nat.le_refl _) (.cells CK.toArray 30)
        have HNew := Lib.hid (row_news (Row.new wq 30 CK))
        have HOn := Lib.hid (HOq.out.below hbn)
        have HRn := Lib.hid (HRx.out.below hbn)
        have Hbn := Lib.hid (two_below' Hbq.out hbn)
        have HHn : Hid (Row wq w.heap.size 30 CK → Row (wq.alloc (.cells CK.toArray 30)) w.heap.size 30 CK) := Lib.hid (fun h => h.kept (grownBy_of_below hbn none) (by simp))
        clear hbn
        refine wpAnyH_take (i := 0) (v := .pointer (some ⟨X, 0, none⟩)) rfl (by kernel_rfl) (by kernel_rfl) (by kernel_rfl) (fun _ _ _ h => h) (Or.inl ⟨by rfl, fun w' hSw => by go_simp⟩) hHeld ?_
        try simp only [Act.put, List.getElem_toArray, List.getElem_cons_succ, List.getElem_cons_zero, List.setIfInBounds_toArray, List.set_cons_zero, List.set_cons_succ]
        refine wpAnyH_take (i := 1) (v := .pointer (some ⟨X, 0, none⟩)) rfl (by kernel_rfl) (by kernel_rfl) (by kernel_rfl) (fun _ _ _ h => h) (Or.inl ⟨by rfl, fun w' hSw => by go_simp⟩) hHeld ?_
        try simp only [Act.put, List.getElem_toArray, List.getElem_cons_succ, List.getElem_cons_zero, List.setIfInBounds_toArray, List.set_cons_zero, List.set_cons_succ]
        refine wpAnyH_take (i := 2) (v := .pointer (some ⟨X, 0, none⟩)) rfl (by kernel_rfl) (by kernel_rfl) (by kernel_rfl) (fun _ _ _ h => h) (Or.inl ⟨by rfl, fun w' hSw => by go_simp⟩) hHeld ?_
        try simp only [Act.put, List.getElem_toArray, List.getElem_cons_succ, List.getElem_cons_zero, List.setIfInBounds_toArray, List.set_cons_zero, List.set_cons_succ]
        refine wpAnyH_take (i := 3) (v := .pointer (some ⟨X, 1, none⟩)) rfl (by kernel_rfl) (by kernel_rfl) (by kernel_rfl) (fun _ _ _ h => h) (Or.inl ⟨by rfl, fun w' hSw => by go_simp⟩) hHeld ?_
        try simp only [Act.put, List.getElem_toArray, List.getElem_cons_succ, List.getElem_cons_zero, List.setIfInBounds_toArray, List.set_cons_zero, List.set_cons_succ]
        refine' wpAnyH_take (i := 5) (v := _) rfl (by kernel_rfl) (by kernel_rfl) (by kernel_rfl) (fun _ _ _ h => h) (yieldsIf_load_mid (by rfl) _ _ rfl w.heap.size 0 rfl CK _ (fun w' hSw => row_range hSw) Tryd.underlying30 rfl (by rw [bid_info, HK36.out])) hHeld ?_
        try simp only [Act.put, List.getElem_toArray, List.getElem_cons_succ, List.getElem_cons_zero, List.setIfInBounds_toArray, List.set_cons_zero, List.set_cons_succ]
        refine wpAnyH_ready (rs := [4, 6]) (by kernel_rfl) (by simp) (AllReadyH.cons rfl (fun K1 hK1 => ?_) (AllReadyH.cons rfl (fun K1 hK1 => ?_) AllReadyH.nil))
        · try simp only [Act.put, List.getElem_toArray, List.getElem_cons_succ, List.getElem_cons_zero, List.setIfInBounds_toArray, List.set_cons_zero, List.set_cons_succ]
          rw [if_pos (by rfl)]
          have hcx := HRx.out.cell 1 (by simp)
          simp only [List.getElem_cons_zero, List.getElem_cons_succ] at hcx
          go_simp
          refine hK1.out _ _ (hHeld) (fun hHeld => ?_)
          clear hK1 K1
          try simp only [Act.put, List.getElem_toArray, List.getElem_cons_succ, List.getElem_cons_zero, List.setIfInBounds_toArray, List.set_cons_zero, List.set_cons_succ]
          clear hcx
          refine wpAnyH_ready (rs := [6]) (by kernel_rfl) (by simp) (AllReadyH.cons rfl (fun K1 hK1 => ?_) AllReadyH.nil)
          try simp only [Act.put, List.getElem_toArray, List.getElem_cons_succ, List.getElem_cons_zero, List.setIfInBounds_toArray, List.set_cons_zero, List.set_cons_succ]
          rw [if_pos (by rfl)]
          refine wp_buildSlice 22 30 1 _ rfl CK.toArray i0 (.agg Bd.zero.cells.toArray) Tryd.underlying22 Hi.out Hz.out (by rw [Hsz.out]; decide) (by rw [Hsz.out]; decide) (by rw [Hsz.out, Array.toList_map]; exact fill_one15 36 (.agg Bd.zero.cells.toArray) CK HK36.out) ?_
          refine hK1.out _ _ (HHn.out hHeld) (fun hHeld => ?_)
          clear hK1 K1
          try simp only [Act.put, List.getElem_toArray, List.getElem_cons_succ, List.getElem_cons_zero, List.setIfInBounds_toArray, List.set_cons_zero, List.set_cons_succ]
          refine wpAnyH_ready (rs := [7]) (by kernel_rfl) (by simp) (AllReadyH.cons rfl (fun K1 hK1 => ?_) AllReadyH.nil)
          try simp only [Act.put, List.getElem_toArray, List.getElem_cons_succ, List.getElem_cons_zero, List.setIfInBounds_toArray, List.set_cons_zero, List.set_cons_succ]
          rw [if_pos (by rfl)]
          refine wp_append_own_at _ _ 22 rfl base 30 i0 (.agg Bd.zero.cells.toArray) 36 64 Tryd.underlying22 Hi.out Hz.out Hsz.out Hby.out (by rw [← HZ36.out]; rfl) (by decide) v l0 (Rw.flat Bd.cells L) rfl (by have := HOn.out.own; rw [← HL0n.out] at this; exact this) ⟨wq.heap.size, 0, none⟩ 1 1 CK rfl (by rw [HK36.out]) HNew.out HK1.out (by decide) hk63.out hk48.out (Nat.le_trans Hbs.out Hbn.out.size) ?_
          intro v' wc hownc hgrowc hwhere
          have HOc : Hid (OwnL wc base 30 36 Bd.cells v' (L ++ [x])) := Lib.hid (OwnL.pushed (by rw [HCK.out, ← HL0n.out]; exact hownc))
          have hOwn0 : ∀ k, v.ownBlock = some k → k < w.heap.size := fun k hk => (HH.out.own.lt k hk).2
          have hr1c := hHeld.kept hgrowc (fun e => by have := hOwn0 _ e.symm; omega)
          have hr2c := HRn.out.kept hgrowc (fun e => HOn.out.ne_block HRn.out (by decide) e.symm)
          have HEnd := Lib.hid (RBookAt.pushed HH.out HX.out (by rw [← HM.out]; exact q4l) Hbn.out HOc.out hgrowc hwhere hr2c)
          have hfz := hr2c.free 1
          have hce := hr2c.cell 1 (by simp)
          simp only [List.getElem_cons_zero, List.getElem_cons_succ] at hce
          obtain ⟨A9, c9, rfl, _, _⟩ := HOc.out.form
          have hst : Row (wc.setCell ⟨X, 1, none⟩ (.slice A9 (L ++ [x]).length c9)) w.heap.size 30 CK := hr1c.kept (grownBy_set wc X 1 _) (fun e => by injection e with e; omega)
          have HSt := Lib.hid hst
          clear hownc hgrowc hwhere hOwn0 hr2c hst HOc
          generalize (L ++ [x]).length = l9 at *
          refine hK1.out _ _ (hr1c) (fun hHeld => ?_)
          clear hK1 K1
          try simp only [Act.put, List.getElem_toArray, List.getElem_cons_succ, List.getElem_cons_zero, List.setIfInBounds_toArray, List.set_cons_zero, List.set_cons_succ]
          clear hr1c
          refine wpAnyH_take (i := 8) (v := .pointer (some ⟨X, 0, none⟩)) rfl (by kernel_rfl) (by kernel_rfl) (by kernel_rfl) (fun _ _ _ h => h) (Or.inl ⟨by rfl, fun w' hSw => by go_simp⟩) hHeld ?_
          try simp only [Act.put, List.getElem_toArray, List.getElem_cons_succ, List.getElem_cons_zero, List.setIfInBounds_toArray, List.set_cons_zero, List.set_cons_succ]
          refine wpAnyH_take (i := 9) (v := .pointer (some ⟨X, 1, none⟩)) rfl (by kernel_rfl) (by kernel_rfl) (by kernel_rfl) (fun _ _ _ h => h) (Or.inl ⟨by rfl, fun w' hSw => by go_simp⟩) hHeld ?_
          try simp only [Act.put, List.getElem_toArray, List.getElem_cons_succ, List.getElem_cons_zero, List.setIfInBounds_toArray, List.set_cons_zero, List.set_cons_succ]
          refine wpAnyH_ready (rs := [10]) (by kernel_rfl) (by simp) (AllReadyH.cons rfl (fun K1 hK1 => ?_) AllReadyH.nil)
          try simp only [Act.put, List.getElem_toArray, List.getElem_cons_succ, List.getElem_cons_zero, List.setIfInBounds_toArray, List.set_cons_zero, List.set_cons_succ]
          rw [if_pos (by rfl)]
          go_simp
          refine hK1.out _ _ (HSt.out) (fun hHeld => ?_)
          clear hK1 K1
          try simp only [Act.put, List.getElem_toArray, List.getElem_cons_succ, List.getElem_cons_zero, List.setIfInBounds_toArray, List.set_cons_zero, List.set_cons_succ]
          clear HSt hfz hce
          refine wpAnyH_done (by kernel_rfl) ?_ _
          clear hHeld
          go_wp2_with fail
          go_ret
          rw [HE0.out, HL0.out]
          exact ⟨rfl, HEnd.out⟩
        · try simp only [Act.put, List.getElem_toArray, List.getElem_cons_succ, List.getElem_cons_zero, List.setIfInBounds_toArray, List.set_cons_zero, List.set_cons_succ]
          rw [if_pos (by rfl)]
          refine wp_buildSlice 22 30 1 _ rfl CK.toArray i0 (.agg Bd.zero.cells.toArray) Tryd.underlying22 Hi.out Hz.out (by rw [Hsz.out]; decide) (by rw [Hsz.out]; decide) (by rw [Hsz.out, Array.toList_map]; exact fill_one15 36 (.agg Bd.zero.cells.toArray) CK HK36.out) ?_
          refine hK1.out _ _ (HHn.out hHeld) (fun hHeld => ?_)
          clear hK1 K1
          try simp only [Act.put, List.getElem_toArray, List.getElem_cons_succ, List.getElem_cons_zero, List.setIfInBounds_toArray, List.set_cons_zero, List.set_cons_succ]
          refine wpAnyH_ready (rs := [4]) (by kernel_rfl) (by simp) (AllReadyH.cons rfl (fun K1 hK1 => ?_) AllReadyH.nil)
          try simp only [Act.put, List.getElem_toArray, List.getElem_cons_succ, List.getElem_cons_zero, List.setIfInBounds_toArray, List.set_cons_zero, List.set_cons_succ]
          rw [if_pos (by rfl)]
          have hcx := HRn.out.cell 1 (by simp)
          simp only [List.getElem_cons_zero, List.getElem_cons_succ] at hcx
          go_simp
          refine hK1.out _ _ (hHeld) (fun hHeld => ?_)
          clear hK1 K1
          try simp only [Act.put, List.getElem_toArray, List.getElem_cons_succ, List.getElem_cons_zero, List.setIfInBounds_toArray, List.set_cons_zero, List.set_cons_succ]
          clear hcx
          refine wpAnyH_ready (rs := [7]) (by kernel_rfl) (by simp) (AllReadyH.cons rfl (fun K1 hK1 => ?_) AllReadyH.nil)
          try simp only [Act.put, List.getElem_toArray, List.getElem_cons_succ, List.getElem_cons_zero, List.setIfInBounds_toArray, List.set_cons_zero, List.set_cons_succ]
          rw [if_pos (by rfl)]
          refine wp_append_own_at _ _ 22 rfl base 30 i0 (.agg Bd.zero.cells.toArray) 36 64 Tryd.underlying22 Hi.out Hz.out Hsz.out Hby.out (by rw [← HZ36.out]; rfl) (by decide) v l0 (Rw.flat Bd.cells L) rfl (by have := HOn.out.own; rw [← HL0n.out] at this; exact this) ⟨wq.heap.size, 0, none⟩ 1 1 CK rfl (by rw [HK36.out]) HNew.out HK1.out (by decide) hk63.out hk48.out (Nat.le_trans Hbs.out Hbn.out.size) ?_
          intro v' wc hownc hgrowc hwhere
          have HOc : Hid (OwnL wc base 30 36 Bd.cells v' (L ++ [x])) := Lib.hid (OwnL.pushed (by rw [HCK.out, ← HL0n.out]; exact hownc))
          have hOwn0 : ∀ k, v.ownBlock = some k → k < w.heap.size := fun k hk => (HH.out.own.lt k hk).2
          have hr1c := hHeld.kept hgrowc (fun e => by have := hOwn0 _ e.symm; omega)
          have hr2c := HRn.out.kept hgrowc (fun e => HOn.out.ne_block HRn.out (by decide) e.symm)
          have HEnd := Lib.hid (RBookAt.pushed HH.out HX.out (by rw [← HM.out]; exact q4l) Hbn.out HOc.out hgrowc hwhere hr2c)
          have hfz := hr2c.free 1
          have hce := hr2c.cell 1 (by simp)
          simp only [List.getElem_cons_zero, List.getElem_cons_succ] at hce
          obtain ⟨A9, c9, rfl, _, _⟩ := HOc.out.form
          have hst : Row (wc.setCell ⟨X, 1, none⟩ (.slice A9 (L ++ [x]).length c9)) w.heap.size 30 CK := hr1c.kept (grownBy_set wc X 1 _) (fun e => by injection e with e; omega)
          have HSt := Lib.hid hst
          clear hownc hgrowc hwhere hOwn0 hr2c hst HOc
          generalize (L ++ [x]).length = l9 at *
          refine hK1.out _ _ (hr1c) (fun hHeld => ?_)
          clear hK1 K1
          try simp only [Act.put, List.getElem_toArray, List.getElem_cons_succ, List.getElem_cons_zero, List.setIfInBounds_toArray, List.set_cons_zero, List.set_cons_succ]
          clear hr1c
          refine wpAnyH_take (i := 8) (v := .pointer (some ⟨X, 0, none⟩)) rfl (by kernel_rfl) (by kernel_rfl) (by kernel_rfl) (fun _ _ _ h => h) (Or.inl ⟨by rfl, fun w' hSw => by go_simp⟩) hHeld ?_
          try simp only [Act.put, List.getElem_toArray, List.getElem_cons_succ, List.getElem_cons_zero, List.setIfInBounds_toArray, List.set_cons_zero, List.set_cons_succ]
          refine wpAnyH_take (i := 9) (v := .pointer (some ⟨X, 1, none⟩)) rfl (by kernel_rfl) (by kernel_rfl) (by kernel_rfl) (fun _ _ _ h => h) (Or.inl ⟨by rfl, fun w' hSw => by go_simp⟩) hHeld ?_
          try simp only [Act.put, List.getElem_toArray, List.getElem_cons_succ, List.getElem_cons_zero, List.setIfInBounds_toArray, List.set_cons_zero, List.set_cons_succ]
          refine wpAnyH_ready (rs := [10]) (by kernel_rfl) (by simp) (AllReadyH.cons rfl (fun K1 hK1 => ?_) AllReadyH.nil)
          try simp only [Act.put, List.getElem_toArray, List.getElem_cons_succ, List.getElem_cons_zero, List.setIfInBounds_toArray, List.set_cons_zero, List.set_cons_succ]
          rw [if_pos (by rfl)]
          go_simp
          refine hK1.out _ _ (HSt.out) (fun hHeld => ?_)
          clear hK1 K1
          try simp only [Act.put, List.getElem_toArray, List.getElem_cons_succ, List.getElem_cons_zero, List.setIfInBounds_toArray, List.set_cons_zero, List.set_cons_succ]
          clear HSt hfz hce
          refine wpAnyH_done (by kernel_rfl) ?_ _
          clear hHeld
          go_wp2_with fail
          go_ret
          rw [HE0.out, HL0.out]
          exact ⟨rfl, HEnd.out⟩
end Go.Proofs.YtlapmdgkcidhnaaDoor
