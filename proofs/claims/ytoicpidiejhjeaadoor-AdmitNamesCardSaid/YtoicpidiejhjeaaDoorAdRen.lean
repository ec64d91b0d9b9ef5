/- The reference's gate: Enter. -/
import Derived.Test.YtoicpidiejhjeaaDoorAdRask
import Derived.Test.YtoicpidiejhjeaaDoorAppAt
namespace Go.Proofs.YtoicpidiejhjeaaDoor
open Go.RowKit
set_option linter.unusedVariables false
set_option linter.unusedSimpArgs false
set_option maxRecDepth 100000

theorem fill_tx (ZA : Array Value) (CT : List Value) (h : CT.length = 72) : Instr.fill (fun i => some (i * 72, 72)) ((Array.range (1 * 72)).map (ZA[· % ZA.size]!)) [(0, .agg CT.toArray)] = some CT.toArray := by
  have e : ((Array.range (1 * 72)).map (ZA[· % ZA.size]!)) = ((List.range 72).map (ZA[· % ZA.size]!)).toArray := by rw [← Array.toList_inj]; simp
  rw [e, fill_step _ _ 0 _ CT _ 0 72 rfl (by simp [Value.cells]) h (by simp), fill_end]
  simp [List.drop_of_length_le]
theorem tx_whole : (Tryd.prog.info? 35).map (fun i => (i.zero, i.size, i.bytes)) = some (some (.agg Tx.none.cells.toArray), 72, 136) := by kernel_rfl
/-- what Enter makes of it -/
def RGTo (w w' : World) (base B K : Nat) (v : Value) (fl : Int) (N : List Int) (n : Nat) : Prop :=
  ∃ v' L', RGAt w' base B K v' fl N L' n ∧ Chg (RGS B K v) w w' ∧ ∀ k, RGS B K v' k → RGS B K v k ∨ w.heap.size ≤ k
theorem RGAt.pushed {w w1 w2 : World} {base B K n : Nat} {v v' : Value} {fl : Int} {N : List Int} {L : List Tx} {t : Tx} (h : RGAt w base B K v fl N L n) (hb : Below w.heap.size w w1) (hlt : w.heap.size < w1.heap.size) (ht : t.Ok ∧ 0 ≤ t.frm ∧ t.frm ≤ 63)
    (ho : OwnL w2 base 35 72 Tx.cells v' (L ++ [t])) (hg : w1.grownBy w2 v.ownBlock) (hwh : v'.ownBlock = v.ownBlock ∨ v'.ownBlock = some w1.heap.size) (hr : Row w2 B 57 [.int .i64 fl, .slice (some ⟨K, 0, none⟩) 64 64, v]) (hn : Row w2 K 3 (Is N)) :
    RGAt (w2.setCell ⟨B, 2, none⟩ v') base B K v' fl N (L ++ [t]) (n + 1) ∧ Chg (RGS B K v) w (w2.setCell ⟨B, 2, none⟩ v') ∧ ∀ k, RGS B K v' k → RGS B K v k ∨ w.heap.size < k := by
  refine ⟨⟨hr.set 2 v' (by simp), hn.kept (grownBy_set w2 B 2 v') (fun e => by injection e with e; exact row_ne_row hn hr (by decide) e), ho.kept (grownBy_set w2 B 2 v') (.inr (ho.ne_block hr (by decide))), ⟨h.len.1, fun x hx => by have := h.len.2 x hx; omega⟩, ⟨fun u hu => ?_, by rw [List.length_append]; have := h.txs.2; simp; omega⟩, h.lo⟩, ?_, ?_⟩
  · rcases List.mem_append.1 hu with hu | hu
    · exact h.txs.1 u hu
    · simp only [List.mem_singleton] at hu; subst hu; exact ht
  · refine (Chg.of_below (S := RGS B K v) hb).trans (S2 := RGS B K v) ?_ (fun i hi => .inl hi)
    exact (Chg.of_grown (S := RGS B K v) hg (fun k hk => .inl (.inr (.inr hk)))).trans (S2 := RGS B K v) (Chg.of_grown (grownBy_set w2 B 2 v') (fun k hk => by cases hk; exact .inl (.inl rfl))) (fun i hi => .inl hi)
  · rintro k (rfl | rfl | hk)
    · exact .inl (.inl rfl)
    · exact .inl (.inr (.inl rfl))
    · rcases hwh with e | e
      · exact .inl (.inr (.inr (e.symm.trans hk)))
      · rw [hk] at e
        injection e with e
        right; omega
theorem RGAt.ended {w wS wf : World} {base B K n m : Nat} {v v' : Value} {fl : Int} {N : List Int} {L L' : List Tx} (h : RGAt w base B K v fl N L n) (hp : RGAt wS base B K v' fl N L' m ∧ Chg (RGS B K v) w wS ∧ ∀ k, RGS B K v' k → RGS B K v k ∨ w.heap.size < k) (hg : wS.grownBy wf (some w.heap.size)) : RGTo w wf base B K v fl N m := by
  obtain ⟨h1, h2, h3⟩ := hp
  have hc : Chg (fun k => k = w.heap.size) wS wf := Chg.of_grown hg (fun k hk => by cases hk; exact .inl rfl)
  refine ⟨v', L', h1.chg hc (fun k hk e => ?_), h2.trans hc (fun i hi => .inr (Nat.le_of_eq hi.symm)), fun k hk => ?_⟩
  · subst e
    rcases h3 _ hk with e | e
    · have := (h.lt _ e).2; omega
    · omega
  · rcases h3 k hk with e | e
    · exact .inl e
    · exact .inr (Nat.le_of_lt e)
set_option maxHeartbeats 3200000 in
theorem rgEnter_any (hRS : RefSum) {w : World} {base B K n : Nat} {v : Value} {fl : Int} {N : List Int} {L : List Tx} (s : ByteArray) (hs : s.size ≤ 140737488351232) (h : RGAt w base B K v fl N L n) (hn : n ≤ 900) (hbs : base ≤ w.heap.size) :
    Calls Tryd.prog 15 #[.pointer (some ⟨B, 0, none⟩), .string s] w fun e w' => (∃ (t : Tx) (n : Int), t.Ok ∧ e = .returned (.tuple #[.agg t.cells.toArray, .int .i64 n])) ∧ RGTo w w' base B K v fl N (n + 1) := by
  obtain ⟨i0, hi, h2⟩ := Option.map_eq_some_iff.1 tx_whole
  simp only [Prod.mk.injEq] at h2
  obtain ⟨hz, hsi, hby⟩ := h2
  have Hi := Lib.hid hi
  have Hz := Lib.hid hz
  have Hs := Lib.hid hsi
  have Hby := Lib.hid hby
  clear hi hz hsi hby
  obtain ⟨m, hm⟩ : ∃ m, m = L.length := ⟨_, rfl⟩
  have HM := Lib.hid hm
  have hl := h.txs.2
  rw [← hm] at hl
  have hk63 : m + 1 ≤ maxLen := by unfold maxLen; omega
  have hk48 : ((m + 1) + (m + 1) / 4 + 192) * 136 ≤ 281474976710656 := by omega
  clear hm
  have hzv : ∀ W : World, (zeroValue 35).run Tryd.prog W = .ok (.agg Tx.none.cells.toArray) W := tx_zv
  have HZ72 := Lib.hid (Tx.cells_length Tx.none_ok)
  have AK := Lib.hid (fun W (hW : Below w.heap.size w W) => rgAsk_any hRS s hs (h.below hW) (by omega))
  have HH := Lib.hid h
  generalize Tx.none.cells = ZT at *
  have b1 : Blocks w (w.alloc (.cells ZT.toArray 35)) [(w.heap.size, 35, ZT)] := (Blocks.nil ((Below.refl w.heap.size w).alloc (Nat.le_refl _) _)).cons (Row.new w _ _)
  have HB1 := Lib.hid b1
  clear b1 h
  go_enter Tryd.func15, Tryd.ntmps15
  go_wp2_with fail
  refine (AK.out _ HB1.out.1).mono ?_
  rintro _ w2 ⟨⟨t, en, ht, hfr, rfl⟩, hb2⟩
  have HB2 := Lib.hid (HB1.out.step hb2)
  have HT72 := Lib.hid (Tx.cells_length ht)
  have HT1 := Lib.hid (Tx.cells_one ht)
  have HTok := Lib.hid ht
  have Hfr := Lib.hid hfr
  clear hb2 ht hfr
  obtain ⟨CT, hCT⟩ : ∃ CT, t.cells = CT := ⟨_, rfl⟩
  have HCT := Lib.hid hCT
  rw [hCT] at HT72 HT1 ⊢
  clear hCT
  have HFl := Lib.hid (fill_tx ZT.toArray CT HT72.out)
  by_cases he : en = 0
  rotate_left
  · have heb : (en == 0) = false := by simpa using he
    clear he
    go_wp2_with (first
    | (
       with_reducible show wpList _ _ _ (⟨_, .store 35 (.tmp 6) _, _, _, _, _⟩ :: _) _ _
       refine wpList_store_at rfl 35 (.tmp 6) (.tmp 12) rfl w2.heap.size 0 CT ZT _ rfl rfl (Row.new w2 35 ZT) (by have := HZ72.out; have := HT72.out; omega) (by rw [tx_info, HT72.out]) HT1.out ?_
       intro w4 hr hg
       rw [splice_all (HT72.out.trans HZ72.out.symm)] at hr
       have hbn := ((HB2.out.alloc (.cells ZT.toArray 35)).put hg HB2.out.size HB2.out.fresh).cons hr
       have HB4 := Lib.hid hbn
       clear hbn
       clear hr hg)
    | ((with_reducible show wpList _ _ _ (⟨_, .load 35 (.tmp 6), _, _, _, _⟩ :: _) _ _); refine wpList_load_tx rfl 35 (.tmp 6) rfl w2.heap.size 0 rfl CT _ (row_range (HB4.out.hd)) Tryd.underlying35 rfl (by rw [tx_info, HT72.out]) ?_)
    | (
       with_reducible show wpList _ _ _ (⟨_, .store 35 (.tmp 4) _, _, _, _, _⟩ :: _) _ _
       refine wpList_store_at rfl 35 (.tmp 4) (.tmp 26) rfl w.heap.size 0 CT ZT _ rfl rfl (HB4.out.tl.hd) (by have := HZ72.out; have := HT72.out; omega) (by rw [tx_info, HT72.out]) HT1.out ?_
       intro wf hr hg
       rw [splice_all (HT72.out.trans HZ72.out.symm)] at hr
       have HR9 := Lib.hid hr
       have HB9 := Lib.hid (below_own HB4.out.1 hg (fun k hk => by cases hk; exact Nat.le_refl _))
       clear hr hg))
    refine bodyPost_ret (results_rowL rfl _ _ w.heap.size 35 CT _ rfl HR9.out Tryd.underlying35 rfl (by rw [tx_info]; simp [HT72.out]) (.int .i64 en) rfl) rfl ⟨⟨t, en, HTok.out, by rw [HCT.out]⟩, v, L, (HH.out.below HB9.out).mono (Nat.le_succ n), Chg.of_below HB9.out, fun k hk => .inl hk⟩
  subst he
  have Hfr2 := Lib.hid (Hfr.out rfl)
  clear Hfr
  go_wp2_with (first
  | (
     with_reducible show wpList _ _ _ (⟨_, .store 35 (.tmp 6) _, _, _, _, _⟩ :: _) _ _
     refine wpList_store_at rfl 35 (.tmp 6) (.tmp 12) rfl w2.heap.size 0 CT ZT _ rfl rfl (Row.new w2 35 ZT) (by have := HZ72.out; have := HT72.out; omega) (by rw [tx_info, HT72.out]) HT1.out ?_
     intro w4 hr hg
     rw [splice_all (HT72.out.trans HZ72.out.symm)] at hr
     have hbn := ((HB2.out.alloc (.cells ZT.toArray 35)).put hg HB2.out.size HB2.out.fresh).cons hr
     have HB4 := Lib.hid hbn
     clear hbn
     clear hr hg))
  have HG := Lib.hid (HH.out.below (HB4.out.drew).1)
  have HBq := Lib.hid HB4.out.drew
  have Hg6 := Lib.hid HB2.out.size
  generalize w2.heap.size = g6 at *
  refine wp_region_held_drew (S := fun w' => Row w' g6 35 CT) (by kernel_rfl) (HB4.out.drew.hd) (fun hHeld => ?_)
  generalize w4.drew = wq at *
  have hbn := (Below.refl wq.heap.size wq).alloc (Nat.le_refl _) (.cells CT.toArray 35)
  have HNew := Lib.hid (Row.new wq 35 CT)
  have HGn := Lib.hid (HG.out.below hbn)
  have HBn := Lib.hid (HBq.out.step hbn)
  have HHn : Hid (Row wq g6 35 CT → Row (wq.alloc (.cells CT.toArray 35)) g6 35 CT) := Lib.hid (fun h => h.kept (grownBy_of_below hbn none) (by simp))
  have Hlt : Hid (w.heap.size < wq.heap.size) := Lib.hid HBq.out.tl.hd.lt
  have hbs9 : base ≤ wq.heap.size := by have := Hlt.out; omega
  clear hbn
  refine wpAnyH_take (i := 0) (v := .pointer (some ⟨B, 0, none⟩)) rfl (by kernel_rfl) (by kernel_rfl) (by kernel_rfl) (fun _ _ _ h => h) (Or.inl ⟨by rfl, fun w' hSw => by go_simp⟩) hHeld ?_
  try simp only [Act.put, List.getElem_toArray, List.getElem_cons_succ, List.getElem_cons_zero, List.setIfInBounds_toArray, List.set_cons_zero, List.set_cons_succ]
  refine wpAnyH_take (i := 1) (v := .pointer (some ⟨B, 0, none⟩)) rfl (by kernel_rfl) (by kernel_rfl) (by kernel_rfl) (fun _ _ _ h => h) (Or.inl ⟨by rfl, fun w' hSw => by go_simp⟩) hHeld ?_
  try simp only [Act.put, List.getElem_toArray, List.getElem_cons_succ, List.getElem_cons_zero, List.setIfInBounds_toArray, List.set_cons_zero, List.set_cons_succ]
  refine wpAnyH_take (i := 2) (v := .pointer (some ⟨B, 0, none⟩)) rfl (by kernel_rfl) (by kernel_rfl) (by kernel_rfl) (fun _ _ _ h => h) (Or.inl ⟨by rfl, fun w' hSw => by go_simp⟩) hHeld ?_
  try simp only [Act.put, List.getElem_toArray, List.getElem_cons_succ, List.getElem_cons_zero, List.setIfInBounds_toArray, List.set_cons_zero, List.set_cons_succ]
  refine wpAnyH_take (i := 3) (v := .pointer (some ⟨B, 2, none⟩)) rfl (by kernel_rfl) (by kernel_rfl) (by kernel_rfl) (fun _ _ _ h => h) (Or.inl ⟨by rfl, fun w' hSw => by go_simp⟩) hHeld ?_
  try simp only [Act.put, List.getElem_toArray, List.getElem_cons_succ, List.getElem_cons_zero, List.setIfInBounds_toArray, List.set_cons_zero, List.set_cons_succ]
  refine' wpAnyH_take (i := 5) (v := _) rfl (by kernel_rfl) (by kernel_rfl) (by kernel_rfl) (fun _ _ _ h => h) (yieldsIf_load_mid (by rfl) _ _ rfl g6 0 rfl CT _ (fun w' hSw => row_range hSw) Tryd.underlying35 rfl (by rw [tx_info, HT72.out])) hHeld ?_
  try simp only [Act.put, List.getElem_toArray, List.getElem_cons_succ, List.getElem_cons_zero, List.setIfInBounds_toArray, List.set_cons_zero, List.set_cons_succ]
  refine wpAnyH_ready (rs := [4, 6]) (by kernel_rfl) (by simp) (AllReadyH.cons rfl (fun K1 hK1 => ?_) (AllReadyH.cons rfl (fun K1 hK1 => ?_) AllReadyH.nil))
  · try simp only [Act.put, List.getElem_toArray, List.getElem_cons_succ, List.getElem_cons_zero, List.setIfInBounds_toArray, List.set_cons_zero, List.set_cons_succ]
    rw [if_pos (by rfl)]
    have hcx := HG.out.c2
    go_simp
    refine hK1.out _ _ (hHeld) (fun hHeld => ?_)
    clear hK1 K1
    try simp only [Act.put, List.getElem_toArray, List.getElem_cons_succ, List.getElem_cons_zero, List.setIfInBounds_toArray, List.set_cons_zero, List.set_cons_succ]
    clear hcx
    refine wpAnyH_ready (rs := [6]) (by kernel_rfl) (by simp) (AllReadyH.cons rfl (fun K1 hK1 => ?_) AllReadyH.nil)
    try simp only [Act.put, List.getElem_toArray, List.getElem_cons_succ, List.getElem_cons_zero, List.setIfInBounds_toArray, List.set_cons_zero, List.set_cons_succ]
    rw [if_pos (by rfl)]
    refine wp_buildSlice 55 35 1 _ rfl CT.toArray i0 (.agg ZT.toArray) Tryd.underlying55 Hi.out Hz.out (by rw [Hs.out]; decide) (by rw [Hs.out]; decide) (by rw [Hs.out]; have := HFl.out; simpa [Value.cells, Act.eval] using this) ?_
    refine hK1.out _ _ (HHn.out hHeld) (fun hHeld => ?_)
    clear hK1 K1
    try simp only [Act.put, List.getElem_toArray, List.getElem_cons_succ, List.getElem_cons_zero, List.setIfInBounds_toArray, List.set_cons_zero, List.set_cons_succ]
    refine wpAnyH_ready (rs := [7]) (by kernel_rfl) (by simp) (AllReadyH.cons rfl (fun K1 hK1 => ?_) AllReadyH.nil)
    try simp only [Act.put, List.getElem_toArray, List.getElem_cons_succ, List.getElem_cons_zero, List.setIfInBounds_toArray, List.set_cons_zero, List.set_cons_succ]
    rw [if_pos (by rfl)]
    refine wp_append_own_at _ _ 55 rfl base 35 i0 (.agg ZT.toArray) 72 136 Tryd.underlying55 Hi.out Hz.out Hs.out Hby.out (by have := HZ72.out; simpa [Value.cells] using this) (by decide) v m (Rw.flat Tx.cells L) rfl (by have := HGn.out.own.own; rw [← HM.out] at this; exact this) ⟨wq.heap.size, 0, none⟩ 1 1 CT rfl (by rw [HT72.out]) (fun j u hu => by have := row_range HNew.out j u hu; rw [Nat.zero_add] at this; have hadd : (⟨wq.heap.size, 0, none⟩ : Addr).add j = ⟨wq.heap.size, j, none⟩ := (by unfold Addr.add; split <;> simp_all); rw [hadd]; exact this) HT1.out (by decide) hk63 hk48 (by have h9 := HBn.out.1.size; omega) ?_
    intro v' wc hownc hgrowc hwhere
    have HOc : Hid (OwnL wc base 35 72 Tx.cells v' (L ++ [t])) := Lib.hid (OwnL.pushed (by rw [HCT.out, ← HM.out]; exact hownc))
    have hOwn0 : ∀ k, v.ownBlock = some k → k < w.heap.size := fun k hk => (HH.out.own.lt k hk).2
    have hr1c := hHeld.kept hgrowc (fun e => by have := hOwn0 _ e.symm; have := Hg6.out; omega)
    have hr2c := HGn.out.row.kept hgrowc (fun e => HGn.out.own.ne_block HGn.out.row (by decide) e.symm)
    have hr3c := HGn.out.nx.kept hgrowc (fun e => HGn.out.own.ne_block HGn.out.nx (by decide) e.symm)
    have hr4c := HBn.out.tl.hd.kept hgrowc (fun e => by have := hOwn0 _ e.symm; omega)
    have HPu := Lib.hid (RGAt.pushed HH.out HBn.out.1 HBn.out.tl.hd.lt ⟨HTok.out, Hfr2.out⟩ HOc.out hgrowc hwhere hr2c hr3c)
    have hfz := hr2c.free 2
    have hce := hr2c.cell 2 (by simp)
    simp only [List.getElem_cons_zero, List.getElem_cons_succ] at hce
    obtain ⟨A9, c9, rfl, _, _⟩ := HOc.out.form
    have HSt := Lib.hid (hr1c.kept (grownBy_set wc B 2 (.slice A9 (L ++ [t]).length c9)) (fun e => by injection e with e; have := HH.out.row.lt; have := Hg6.out; omega))
    have HZ4 := Lib.hid (hr4c.kept (grownBy_set wc B 2 (.slice A9 (L ++ [t]).length c9)) (fun e => by injection e with e; have := HH.out.row.lt; omega))
    clear hownc hgrowc hwhere hOwn0 hr2c hr3c hr4c HOc
    generalize (L ++ [t]).length = l9 at *
    refine hK1.out _ _ (hr1c) (fun hHeld => ?_)
    clear hK1 K1
    try simp only [Act.put, List.getElem_toArray, List.getElem_cons_succ, List.getElem_cons_zero, List.setIfInBounds_toArray, List.set_cons_zero, List.set_cons_succ]
    clear hr1c
    refine wpAnyH_take (i := 8) (v := .pointer (some ⟨B, 0, none⟩)) rfl (by kernel_rfl) (by kernel_rfl) (by kernel_rfl) (fun _ _ _ h => h) (Or.inl ⟨by rfl, fun w' hSw => by go_simp⟩) hHeld ?_
    try simp only [Act.put, List.getElem_toArray, List.getElem_cons_succ, List.getElem_cons_zero, List.setIfInBounds_toArray, List.set_cons_zero, List.set_cons_succ]
    refine wpAnyH_take (i := 9) (v := .pointer (some ⟨B, 2, none⟩)) rfl (by kernel_rfl) (by kernel_rfl) (by kernel_rfl) (fun _ _ _ h => h) (Or.inl ⟨by rfl, fun w' hSw => by go_simp⟩) hHeld ?_
    try simp only [Act.put, List.getElem_toArray, List.getElem_cons_succ, List.getElem_cons_zero, List.setIfInBounds_toArray, List.set_cons_zero, List.set_cons_succ]
    refine wpAnyH_ready (rs := [10]) (by kernel_rfl) (by simp) (AllReadyH.cons rfl (fun K1 hK1 => ?_) AllReadyH.nil)
    try simp only [Act.put, List.getElem_toArray, List.getElem_cons_succ, List.getElem_cons_zero, List.setIfInBounds_toArray, List.set_cons_zero, List.set_cons_succ]
    rw [if_pos (by rfl)]
    go_simp
    refine hK1.out _ _ (HSt.out) (fun hHeld => ?_)
    clear hK1 K1
    try simp only [Act.put, List.getElem_toArray, List.getElem_cons_succ, List.getElem_cons_zero, List.setIfInBounds_toArray, List.set_cons_zero, List.set_cons_succ]
    clear hfz hce
    refine wpAnyH_done (by kernel_rfl) ?_ _
    clear hHeld
    generalize wc.setCell ⟨B, 2, none⟩ (.slice A9 l9 c9) = wS at *
    go_wp2_with (first
      | ((with_reducible show wpList _ _ _ (⟨_, .load 35 (.tmp 6), _, _, _, _⟩ :: _) _ _); refine wpList_load_tx rfl 35 (.tmp 6) rfl g6 0 rfl CT _ (row_range (HSt.out)) Tryd.underlying35 rfl (by rw [tx_info, HT72.out]) ?_)
      | (
         with_reducible show wpList _ _ _ (⟨_, .store 35 (.tmp 4) _, _, _, _, _⟩ :: _) _ _
         refine wpList_store_at rfl 35 (.tmp 4) (.tmp 26) rfl w.heap.size 0 CT ZT _ rfl rfl (HZ4.out) (by have := HZ72.out; have := HT72.out; omega) (by rw [tx_info, HT72.out]) HT1.out ?_
         intro wf hr hg
         rw [splice_all (HT72.out.trans HZ72.out.symm)] at hr
         have HR9 := Lib.hid hr
         have HFin := Lib.hid (RGAt.ended HH.out HPu.out hg)
         clear hr hg))
    refine bodyPost_ret (results_rowL rfl _ _ w.heap.size 35 CT _ rfl HR9.out Tryd.underlying35 rfl (by rw [tx_info]; simp [HT72.out]) (.int .i64 0) rfl) rfl ⟨⟨t, 0, HTok.out, by rw [HCT.out]⟩, HFin.out⟩
  · try simp only [Act.put, List.getElem_toArray, List.getElem_cons_succ, List.getElem_cons_zero, List.setIfInBounds_toArray, List.set_cons_zero, List.set_cons_succ]
    rw [if_pos (by rfl)]
    refine wp_buildSlice 55 35 1 _ rfl CT.toArray i0 (.agg ZT.toArray) Tryd.underlying55 Hi.out Hz.out (by rw [Hs.out]; decide) (by rw [Hs.out]; decide) (by rw [Hs.out]; have := HFl.out; simpa [Value.cells, Act.eval] using this) ?_
    refine hK1.out _ _ (HHn.out hHeld) (fun hHeld => ?_)
    clear hK1 K1
    try simp only [Act.put, List.getElem_toArray, List.getElem_cons_succ, List.getElem_cons_zero, List.setIfInBounds_toArray, List.set_cons_zero, List.set_cons_succ]
    refine wpAnyH_ready (rs := [4]) (by kernel_rfl) (by simp) (AllReadyH.cons rfl (fun K1 hK1 => ?_) AllReadyH.nil)
    try simp only [Act.put, List.getElem_toArray, List.getElem_cons_succ, List.getElem_cons_zero, List.setIfInBounds_toArray, List.set_cons_zero, List.set_cons_succ]
    rw [if_pos (by rfl)]
    have hcx := HGn.out.c2
    go_simp
    refine hK1.out _ _ (hHeld) (fun hHeld => ?_)
    clear hK1 K1
    try simp only [Act.put, List.getElem_toArray, List.getElem_cons_succ, List.getElem_cons_zero, List.setIfInBounds_toArray, List.set_cons_zero, List.set_cons_succ]
    clear hcx
    refine wpAnyH_ready (rs := [7]) (by kernel_rfl) (by simp) (AllReadyH.cons rfl (fun K1 hK1 => ?_) AllReadyH.nil)
    try simp only [Act.put, List.getElem_toArray, List.getElem_cons_succ, List.getElem_cons_zero, List.setIfInBounds_toArray, List.set_cons_zero, List.set_cons_succ]
    rw [if_pos (by rfl)]
    refine wp_append_own_at _ _ 55 rfl base 35 i0 (.agg ZT.toArray) 72 136 Tryd.underlying55 Hi.out Hz.out Hs.out Hby.out (by have := HZ72.out; simpa [Value.cells] using this) (by decide) v m (Rw.flat Tx.cells L) rfl (by have := HGn.out.own.own; rw [← HM.out] at this; exact this) ⟨wq.heap.size, 0, none⟩ 1 1 CT rfl (by rw [HT72.out]) (fun j u hu => by have := row_range HNew.out j u hu; rw [Nat.zero_add] at this; have hadd : (⟨wq.heap.size, 0, none⟩ : Addr).add j = ⟨wq.heap.size, j, none⟩ := (by unfold Addr.add; split <;> simp_all); rw [hadd]; exact this) HT1.out (by decide) hk63 hk48 (by have h9 := HBn.out.1.size; omega) ?_
    intro v' wc hownc hgrowc hwhere
    have HOc : Hid (OwnL wc base 35 72 Tx.cells v' (L ++ [t])) := Lib.hid (OwnL.pushed (by rw [HCT.out, ← HM.out]; exact hownc))
    have hOwn0 : ∀ k, v.ownBlock = some k → k < w.heap.size := fun k hk => (HH.out.own.lt k hk).2
    have hr1c := hHeld.kept hgrowc (fun e => by have := hOwn0 _ e.symm; have := Hg6.out; omega)
    have hr2c := HGn.out.row.kept hgrowc (fun e => HGn.out.own.ne_block HGn.out.row (by decide) e.symm)
    have hr3c := HGn.out.nx.kept hgrowc (fun e => HGn.out.own.ne_block HGn.out.nx (by decide) e.symm)
    have hr4c := HBn.out.tl.hd.kept hgrowc (fun e => by have := hOwn0 _ e.symm; omega)
    have HPu := Lib.hid (RGAt.pushed HH.out HBn.out.1 HBn.out.tl.hd.lt ⟨HTok.out, Hfr2.out⟩ HOc.out hgrowc hwhere hr2c hr3c)
    have hfz := hr2c.free 2
    have hce := hr2c.cell 2 (by simp)
    simp only [List.getElem_cons_zero, List.getElem_cons_succ] at hce
    obtain ⟨A9, c9, rfl, _, _⟩ := HOc.out.form
    have HSt := Lib.hid (hr1c.kept (grownBy_set wc B 2 (.slice A9 (L ++ [t]).length c9)) (fun e => by injection e with e; have := HH.out.row.lt; have := Hg6.out; omega))
    have HZ4 := Lib.hid (hr4c.kept (grownBy_set wc B 2 (.slice A9 (L ++ [t]).length c9)) (fun e => by injection e with e; have := HH.out.row.lt; omega))
    clear hownc hgrowc hwhere hOwn0 hr2c hr3c hr4c HOc
    generalize (L ++ [t]).length = l9 at *
    refine hK1.out _ _ (hr1c) (fun hHeld => ?_)
    clear hK1 K1
    try simp only [Act.put, List.getElem_toArray, List.getElem_cons_succ, List.getElem_cons_zero, List.setIfInBounds_toArray, List.set_cons_zero, List.set_cons_succ]
    clear hr1c
    refine wpAnyH_take (i := 8) (v := .pointer (some ⟨B, 0, none⟩)) rfl (by kernel_rfl) (by kernel_rfl) (by kernel_rfl) (fun _ _ _ h => h) (Or.inl ⟨by rfl, fun w' hSw => by go_simp⟩) hHeld ?_
    try simp only [Act.put, List.getElem_toArray, List.getElem_cons_succ, List.getElem_cons_zero, List.setIfInBounds_toArray, List.set_cons_zero, List.set_cons_succ]
    refine wpAnyH_take (i := 9) (v := .pointer (some ⟨B, 2, none⟩)) rfl (by kernel_rfl) (by kernel_rfl) (by kernel_rfl) (fun _ _ _ h => h) (Or.inl ⟨by rfl, fun w' hSw => by go_simp⟩) hHeld ?_
    try simp only [Act.put, List.getElem_toArray, List.getElem_cons_succ, List.getElem_cons_zero, List.setIfInBounds_toArray, List.set_cons_zero, List.set_cons_succ]
    refine wpAnyH_ready (rs := [10]) (by kernel_rfl) (by simp) (AllReadyH.cons rfl (fun K1 hK1 => ?_) AllReadyH.nil)
    try simp only [Act.put, List.getElem_toArray, List.getElem_cons_succ, List.getElem_cons_zero, List.setIfInBounds_toArray, List.set_cons_zero, List.set_cons_succ]
    rw [if_pos (by rfl)]
    go_simp
    refine hK1.out _ _ (HSt.out) (fun hHeld => ?_)
    clear hK1 K1
    try simp only [Act.put, List.getElem_toArray, List.getElem_cons_succ, List.getElem_cons_zero, List.setIfInBounds_toArray, List.set_cons_zero, List.set_cons_succ]
    clear hfz hce
    refine wpAnyH_done (by kernel_rfl) ?_ _
    clear hHeld
    generalize wc.setCell ⟨B, 2, none⟩ (.slice A9 l9 c9) = wS at *
    go_wp2_with (first
      | ((with_reducible show wpList _ _ _ (⟨_, .load 35 (.tmp 6), _, _, _, _⟩ :: _) _ _); refine wpList_load_tx rfl 35 (.tmp 6) rfl g6 0 rfl CT _ (row_range (HSt.out)) Tryd.underlying35 rfl (by rw [tx_info, HT72.out]) ?_)
      | (
         with_reducible show wpList _ _ _ (⟨_, .store 35 (.tmp 4) _, _, _, _, _⟩ :: _) _ _
         refine wpList_store_at rfl 35 (.tmp 4) (.tmp 26) rfl w.heap.size 0 CT ZT _ rfl rfl (HZ4.out) (by have := HZ72.out; have := HT72.out; omega) (by rw [tx_info, HT72.out]) HT1.out ?_
         intro wf hr hg
         rw [splice_all (HT72.out.trans HZ72.out.symm)] at hr
         have HR9 := Lib.hid hr
         have HFin := Lib.hid (RGAt.ended HH.out HPu.out hg)
         clear hr hg))
    refine bodyPost_ret (results_rowL rfl _ _ w.heap.size 35 CT _ rfl HR9.out Tryd.underlying35 rfl (by rw [tx_info]; simp [HT72.out]) (.int .i64 0) rfl) rfl ⟨⟨t, 0, HTok.out, by rw [HCT.out]⟩, HFin.out⟩
end Go.Proofs.YtoicpidiejhjeaaDoor
