/- awake of layer 19; a log and boxes beside it. -/
import Derived.Test.YtgdijbcoacgadaaDoorOdTake
import Derived.Test.YtgdijbcoacgadaaDoorOdAdd
namespace Go.Proofs.YtgdijbcoacgadaaDoor
open Go.RowKit
set_option linter.unusedVariables false
set_option linter.unusedSimpArgs false
set_option maxRecDepth 100000

/-- a log of the call's own and boxes of receipts beside it -/
def AwL (w0 W : World) (B : Nat) (rs : List Rp) (rows : List (Nat × List Value)) : Prop :=
  ∃ v dv, LogAt W w0.heap.size B v dv rs ∧ Below w0.heap.size w0 W ∧ ∀ x ∈ rows, Row W x.1 30 x.2 ∧ ¬ LS B v dv x.1 ∧ w0.heap.size ≤ x.1
section
variable {w0 W W' : World} {B : Nat} {rs rs' : List Rp} {rows : List (Nat × List Value)}
theorem AwL.below (h : AwL w0 W B rs rows) (hb : Below W.heap.size W W') : AwL w0 W' B rs rows := by
  obtain ⟨v, dv, h1, h2, h3⟩ := h
  exact ⟨v, dv, h1.below hb, two_below' h2 hb, fun x hx => ⟨(h3 x hx).1.below hb, (h3 x hx).2⟩⟩
theorem AwL.low (h : AwL w0 W B rs rows) : Below w0.heap.size w0 W := by
  obtain ⟨v, dv, _, h2, _⟩ := h
  exact h2
theorem AwL.row (h : AwL w0 W B rs rows) (x : Nat × List Value) (hx : x ∈ rows) : Row W x.1 30 x.2 := by
  obtain ⟨v, dv, _, _, h3⟩ := h
  exact (h3 x hx).1
theorem AwL.add (h : AwL w0 W B rs rows) (hT : Tab W) (kind : Int) (body : ByteArray) (time : Int) (hs : body.size ≤ 140737488351232) (hl : rs.length < 1000) (r : Rp) (e : Int) (hr : Od.addR rs kind body time = (r, e)) (hk : Od.addL rs kind body time = rs') :
    Calls Tryd.prog 12 #[.pointer (some ⟨B, 0, none⟩), .int .i64 kind, .string body, .int .i64 time] W fun e' w' => e' = .returned (.tuple #[.agg r.cells.toArray, .int .i64 e]) ∧ AwL w0 w' B rs' rows := by
  obtain ⟨v, dv, h1, h2, h3⟩ := h
  refine (h1.add kind body time hs hT hl).mono ?_
  rintro e' w' ⟨rfl, v', dv', q1, q2, q3⟩
  rw [hr]
  refine ⟨rfl, v', dv', hk ▸ q1, below_chg h2 q2 h2.size (fun k hk => (h1.lt k hk).1), fun x hx => ?_⟩
  obtain ⟨r1, r2, r3⟩ := h3 x hx
  refine ⟨q2.row r1 r2, fun q => ?_, r3⟩
  rcases q3 _ q with q | q
  · exact r2 q
  · have := r1.lt
    omega
theorem AwL.taken (h : AwL w0 W B rs rows) (i : Int) : Calls Tryd.prog 19 #[.pointer (some ⟨B, 0, none⟩), .int .i64 i] W fun e w' => e = .returned (.int .i64 (Od.taken rs i)) ∧ Below W.heap.size W w' := by
  obtain ⟨v, dv, h1, _, _⟩ := h
  exact h1.taken i
theorem AwL.head (h : AwL w0 W B rs rows) : Calls Tryd.prog 26 #[.pointer (some ⟨B, 0, none⟩)] W fun e w' => e = .returned (.agg (bRow (Od.head rs))) ∧ Below W.heap.size W w' := by
  obtain ⟨v, dv, h1, _, _⟩ := h
  exact h1.head
theorem AwL.box (h : AwL w0 W B rs rows) {C ZT : List Value} (hg : (W.alloc (.cells ZT.toArray 30)).grownBy W' (some W.heap.size)) (hr : Row W' W.heap.size 30 C) : AwL w0 W' B rs ((W.heap.size, C) :: rows) := by
  have hb : Below W.heap.size W W' := below_own ((Below.refl W.heap.size W).alloc (Nat.le_refl _) _) hg (fun k hk => by cases hk; exact Nat.le_refl _)
  obtain ⟨v, dv, h1, h2, h3⟩ := h
  refine ⟨v, dv, h1.below hb, two_below' h2 hb, fun x hx => ?_⟩
  rcases List.mem_cons.1 hx with rfl | hx
  · exact ⟨hr, fun q => by have := (h1.lt _ q).2; simp only at this; omega, h2.size⟩
  · exact ⟨(h3 x hx).1.below hb, (h3 x hx).2⟩
end
theorem hash_same19 (W : World) (H : List UInt8) (h : H.length = 32) : (Op.equalIn 10000 28 (.agg (bRow H).toList.toArray) (.agg (bRow H).toList.toArray)).run Tryd.prog W = .ok true W := by
  rw [Array.toArray_toList, hash_eq W H H h h, decide_eq_true rfl]
theorem awake_facts19 : ∃ R : Rp, R.Fits ∧ Od.addR [] 2 ⟨#[97]⟩ 3 = (R, 0) ∧ Od.addL [] 2 ⟨#[97]⟩ 3 = [R] ∧ Od.addR [R] 2 ⟨#[98]⟩ 2 = (Rp.zero, 33) ∧ Od.addL [R] 2 ⟨#[98]⟩ 2 = [R] ∧ R.index = 0 ∧ Od.taken [R] 9 = 1 ∧ Od.head [R] = R.hash := by
  have hask : (Od.ask [] 2 ⟨#[97]⟩) = (-1, 0) := rfl
  have hok : (Od.raw [] 2 ⟨#[97]⟩ 3).ok = true := by
    rw [Rp.ok_iff]
    exact ⟨.inr rfl, ⟨by decide, by decide⟩, ⟨by decide, by decide⟩, by decide⟩
  have hm : Od.mk [] 2 ⟨#[97]⟩ 3 = ((Od.raw [] 2 ⟨#[97]⟩ 3).linked, -1, 0) := by
    rw [Od.mk_link (fun h => h.1 rfl) (by rw [hask]), hask]
    unfold Rp.linkE
    rw [if_pos hok]
  have ht := Od.mk_took hm
  generalize (Od.raw [] 2 ⟨#[97]⟩ 3).linked = R at *
  have hl : Od.last [R] = 3 := ht.timeE
  have hm2 : Od.mk [R] 2 ⟨#[98]⟩ 2 = (Rp.zero, -1, 33) := Od.mk_early ⟨by simp, by rw [hl]; decide⟩
  have hix : R.index = 0 := ht.index
  refine ⟨R, ht.fits rfl, ?_, ?_, ?_, ?_, hix, ?_, rfl⟩
  · unfold Od.addR; rw [hm]; rfl
  · unfold Od.addL; rw [hm]; rfl
  · unfold Od.addR; rw [hm2]; rfl
  · unfold Od.addL; rw [hm2]; rfl
  · unfold Od.taken Od.del
    rw [List.filter_cons, if_pos (by rw [ht.by]; rfl), List.filter_nil]
    simp only [List.map_cons, List.map_nil, hix]
    rfl
set_option maxHeartbeats 6400000 in
theorem awake19_any (w : World) (hT : Tab w) : Calls Tryd.prog 9 #[] w fun e w' => e = .returned (.bool true) ∧ Below w.heap.size w w' := by
  obtain ⟨R, hRf, hr1, hl1, hr2, hl2, hix, htk, hhd⟩ := awake_facts19
  have NW := Lib.hid (logNew_any w)
  have A1 : Hid (∀ W B, AwL w W B [] [] → Calls Tryd.prog 12 #[.pointer (some ⟨B, 0, none⟩), .int .i64 2, .string ⟨#[97]⟩, .int .i64 3] W fun e w' => e = .returned (.tuple #[.agg R.cells.toArray, .int .i64 0]) ∧ AwL w w' B [R] []) := Lib.hid (fun W B h => h.add (hT.below h.low hT.pos) 2 _ 3 (by decide) (by decide) R 0 hr1 hl1)
  have A2 : Hid (∀ W B rows, AwL w W B [R] rows → Calls Tryd.prog 12 #[.pointer (some ⟨B, 0, none⟩), .int .i64 2, .string ⟨#[98]⟩, .int .i64 2] W fun e w' => e = .returned (.tuple #[.agg Rp.zero.cells.toArray, .int .i64 33]) ∧ AwL w w' B [R] rows) := Lib.hid (fun W B rows h => h.add (hT.below h.low hT.pos) 2 _ 2 (by decide) (by simp) Rp.zero 33 hr2 hl2)
  have T1 : Hid (∀ W {B rows}, AwL w W B [R] rows → Calls Tryd.prog 19 #[.pointer (some ⟨B, 0, none⟩), .int .i64 9] W fun e w' => e = .returned (.int .i64 1) ∧ Below W.heap.size W w') := Lib.hid (fun W B rows h => by have := h.taken 9; rwa [htk] at this)
  have H1 : Hid (∀ W {B rows}, AwL w W B [R] rows → Calls Tryd.prog 26 #[.pointer (some ⟨B, 0, none⟩)] W fun e w' => e = .returned (.agg (bRow R.hash).toList.toArray) ∧ Below W.heap.size W w') := Lib.hid (fun W B rows h => by have := h.head; rwa [hhd, ← Array.toArray_toList (xs := bRow R.hash)] at this)
  have HCx : Hid (∀ W g, Row W g 30 R.cells → W.cell? ⟨g, 0, none⟩ = some (.int .i64 0) ∧ W.rangeAt g 36 (bRow R.hash).toList) := Lib.hid (fun W g h => by
    obtain ⟨q1, _, _, _, q2⟩ := Rp.at hRf.prev (row_range h)
    rw [hix] at q1
    rw [Nat.zero_add] at q2
    exact ⟨q1, q2⟩)
  have heqH := fun W => hash_same19 W R.hash hRf.hash
  have HH32 := Lib.hid (Tx.bRow_len R.hash hRf.hash)
  have HC68 := Lib.hid (Rp.cells_len hRf.prev hRf.hash)
  have HC1 := Lib.hid (Rp.cells_one hRf.prev hRf.hash)
  have hzv := rp_zv
  have HBt : Hid (Tryd.prog.built 30 [] = some Rp.zero.cells.toArray) := Lib.hid Rp.zero_built0
  have HZ68 := Lib.hid (Rp.cells_len Rp.zero_fits.prev Rp.zero_fits.hash)
  have HZ1 := Lib.hid (Rp.cells_one Rp.zero_fits.prev Rp.zero_fits.hash)
  obtain ⟨ZT, hZT⟩ : ∃ ZT, Rp.zero.cells = ZT := ⟨_, rfl⟩
  rw [hZT] at hzv HBt HZ68 HZ1
  have HZT := Lib.hid hZT
  clear hZT
  generalize (bRow R.hash).toList = HH at *
  obtain ⟨C, hC⟩ : ∃ C, R.cells = C := ⟨_, rfl⟩
  rw [hC] at A1 HC68 HC1 HCx
  rw [HZT.out] at A2
  obtain ⟨RR, hRR⟩ : ∃ RR, RR = R := ⟨_, rfl⟩
  rw [← hRR] at A1 A2 T1 H1
  clear hr1 hl1 hr2 hl2 hix htk hhd hRf hC hT hRR
  go_enter Tryd.func9, Tryd.ntmps9
  go_wp2_with fail
  refine NW.out.mono ?_
  rintro _ w1 ⟨rfl, hl1, hb1⟩
  have HU1 : Hid (AwL w w1 w.heap.size [] []) := Lib.hid ⟨_, _, hl1, hb1, fun x hx => by simp at hx⟩
  clear hl1 hb1 NW
  obtain ⟨B, hB⟩ : ∃ B, w.heap.size = B := ⟨_, rfl⟩
  have HU1' : Hid (AwL w w1 B [] []) := by rw [← hB]; exact HU1
  rw [hB]
  clear HU1 hB
  go_wp2_with fail
  refine (A1.out _ _ HU1'.out).mono ?_
  rintro _ w2 ⟨rfl, hu2⟩
  have HU2 := Lib.hid hu2
  clear hu2 A1 HU1'
  go_wp2_with (first
  | (
     with_reducible show wpList _ _ _ (⟨_, .store 30 (.tmp 2) _, _, _, _, _⟩ :: _) _ _
     refine wpList_store_at rfl 30 (.tmp 2) (.tmp 12) rfl w2.heap.size 0 C ZT _ rfl rfl (Row.new w2 30 ZT) (by have := HZ68.out; have := HC68.out; omega) (by rw [rp_info, HC68.out]) HC1.out ?_
     intro w3 hr hg
     rw [splice_all (HC68.out.trans HZ68.out.symm)] at hr
     have HU3 := Lib.hid (HU2.out.box hg hr)
     clear hr hg))
  generalize w2.heap.size = g2 at *
  refine (A2.out _ _ _ HU3.out).mono ?_
  rintro _ w4 ⟨rfl, hu4⟩
  have HU4 := Lib.hid hu4
  clear hu4 A2 HU3 HU2
  go_wp2_with (first
  | (
     with_reducible show wpList _ _ _ (⟨_, .store 30 (.tmp 4) _, _, _, _, _⟩ :: _) _ _
     refine wpList_store_at rfl 30 (.tmp 4) (.tmp 17) rfl w4.heap.size 0 ZT ZT _ rfl rfl (Row.new w4 30 ZT) (by have := HZ68.out; have := HZ68.out; omega) (by rw [rp_info, HZ68.out]) HZ1.out ?_
     intro w5 hr hg
     rw [splice_all (HZ68.out.trans HZ68.out.symm)] at hr
     have HU5 := Lib.hid (HU4.out.box hg hr)
     clear hr hg))
  generalize w4.heap.size = g4 at *
  clear HU4
  refine wp_region_held_drew (S := fun w' => AwL w w' B [RR] [(g4, ZT), (g2, C)]) (by kernel_rfl) (HU5.out.below (Below.refl _ _).drew) (fun hHeld => ?_)
  generalize w5.drew = wq at *
  refine wpAnyH_take (i := 0) (v := .int .i64 0) rfl (by kernel_rfl) (by kernel_rfl) (by kernel_rfl) (fun _ _ _ h => h) (Or.inl ⟨by rfl, fun w' hSw => by go_simp⟩) hHeld ?_
  try simp only [Act.put, List.getElem_toArray, List.getElem_cons_succ, List.getElem_cons_zero, List.setIfInBounds_toArray, List.set_cons_zero, List.set_cons_succ]
  refine wpAnyH_take (i := 1) (v := .bool true) rfl (by kernel_rfl) (by kernel_rfl) (by kernel_rfl) (fun _ _ _ h => h) (Or.inl ⟨by rfl, fun w' hSw => by go_simp⟩) hHeld ?_
  try simp only [Act.put, List.getElem_toArray, List.getElem_cons_succ, List.getElem_cons_zero, List.setIfInBounds_toArray, List.set_cons_zero, List.set_cons_succ]
  refine wpAnyH_take (i := 2) (v := .bool true) rfl (by kernel_rfl) (by kernel_rfl) (by kernel_rfl) (fun _ _ _ h => h) (Or.inl ⟨by rfl, fun w' hSw => by go_simp⟩) hHeld ?_
  try simp only [Act.put, List.getElem_toArray, List.getElem_cons_succ, List.getElem_cons_zero, List.setIfInBounds_toArray, List.set_cons_zero, List.set_cons_succ]
  refine wpAnyH_take (i := 3) (v := .int .i64 33) rfl (by kernel_rfl) (by kernel_rfl) (by kernel_rfl) (fun _ _ _ h => h) (Or.inl ⟨by rfl, fun w' hSw => by go_simp⟩) hHeld ?_
  try simp only [Act.put, List.getElem_toArray, List.getElem_cons_succ, List.getElem_cons_zero, List.setIfInBounds_toArray, List.set_cons_zero, List.set_cons_succ]
  refine wpAnyH_take (i := 4) (v := .bool true) rfl (by kernel_rfl) (by kernel_rfl) (by kernel_rfl) (fun _ _ _ h => h) (Or.inl ⟨by rfl, fun w' hSw => by go_simp⟩) hHeld ?_
  try simp only [Act.put, List.getElem_toArray, List.getElem_cons_succ, List.getElem_cons_zero, List.setIfInBounds_toArray, List.set_cons_zero, List.set_cons_succ]
  refine wpAnyH_take (i := 5) (v := .bool true) rfl (by kernel_rfl) (by kernel_rfl) (by kernel_rfl) (fun _ _ _ h => h) (Or.inl ⟨by rfl, fun w' hSw => by go_simp⟩) hHeld ?_
  try simp only [Act.put, List.getElem_toArray, List.getElem_cons_succ, List.getElem_cons_zero, List.setIfInBounds_toArray, List.set_cons_zero, List.set_cons_succ]
  refine wpAnyH_take (i := 6) (v := .bool true) rfl (by kernel_rfl) (by kernel_rfl) (by kernel_rfl) (fun _ _ _ h => h) (Or.inl ⟨by rfl, fun w' hSw => by go_simp⟩) hHeld ?_
  try simp only [Act.put, List.getElem_toArray, List.getElem_cons_succ, List.getElem_cons_zero, List.setIfInBounds_toArray, List.set_cons_zero, List.set_cons_succ]
  refine wpAnyH_take (i := 7) (v := .pointer (some ⟨g2, 0, none⟩)) rfl (by kernel_rfl) (by kernel_rfl) (by kernel_rfl) (fun _ _ _ h => h) (Or.inl ⟨by rfl, fun w' hSw => by go_simp⟩) hHeld ?_
  try simp only [Act.put, List.getElem_toArray, List.getElem_cons_succ, List.getElem_cons_zero, List.setIfInBounds_toArray, List.set_cons_zero, List.set_cons_succ]
  refine wpAnyH_take (i := 8) (v := .int .i64 0) rfl (by kernel_rfl) (by kernel_rfl) (by kernel_rfl) (fun _ _ _ h => h) (Or.inl ⟨by rfl, fun w' hSw => by have hq := hSw; have hd := (HCx.out _ _ (hSw.row (g2, C) (by simp))).1; go_simp⟩) hHeld ?_
  try simp only [Act.put, List.getElem_toArray, List.getElem_cons_succ, List.getElem_cons_zero, List.setIfInBounds_toArray, List.set_cons_zero, List.set_cons_succ]
  refine wpAnyH_take (i := 9) (v := .bool true) rfl (by kernel_rfl) (by kernel_rfl) (by kernel_rfl) (fun _ _ _ h => h) (Or.inl ⟨by rfl, fun w' hSw => by go_simp⟩) hHeld ?_
  try simp only [Act.put, List.getElem_toArray, List.getElem_cons_succ, List.getElem_cons_zero, List.setIfInBounds_toArray, List.set_cons_zero, List.set_cons_succ]
  refine wpAnyH_take (i := 10) (v := .bool true) rfl (by kernel_rfl) (by kernel_rfl) (by kernel_rfl) (fun _ _ _ h => h) (Or.inl ⟨by rfl, fun w' hSw => by go_simp⟩) hHeld ?_
  try simp only [Act.put, List.getElem_toArray, List.getElem_cons_succ, List.getElem_cons_zero, List.setIfInBounds_toArray, List.set_cons_zero, List.set_cons_succ]
  refine wpAnyH_take (i := 11) (v := .bool true) rfl (by kernel_rfl) (by kernel_rfl) (by kernel_rfl) (fun _ _ _ h => h) (Or.inl ⟨by rfl, fun w' hSw => by go_simp⟩) hHeld ?_
  try simp only [Act.put, List.getElem_toArray, List.getElem_cons_succ, List.getElem_cons_zero, List.setIfInBounds_toArray, List.set_cons_zero, List.set_cons_succ]
  refine wpAnyH_take (i := 12) (v := .pointer (some ⟨B, 0, none⟩)) rfl (by kernel_rfl) (by kernel_rfl) (by kernel_rfl) (fun _ _ _ h => h) (Or.inl ⟨by rfl, fun w' hSw => by go_simp⟩) hHeld ?_
  try simp only [Act.put, List.getElem_toArray, List.getElem_cons_succ, List.getElem_cons_zero, List.setIfInBounds_toArray, List.set_cons_zero, List.set_cons_succ]
  refine wpAnyH_ready (rs := [13]) (by kernel_rfl) (by simp) (AllReadyH.cons rfl (fun K1 hK1 => ?_) AllReadyH.nil)
  try simp only [Act.put, List.getElem_toArray, List.getElem_cons_succ, List.getElem_cons_zero, List.setIfInBounds_toArray, List.set_cons_zero, List.set_cons_succ]
  go_simp
  refine Calls.mono (T1.out _ hHeld) ?_
  rintro e wc1 ⟨rfl, hc2⟩
  refine hK1.out _ _ (hHeld.below hc2) (fun hHeld => ?_)
  clear hK1 K1
  try simp only [Act.put, List.getElem_toArray, List.getElem_cons_succ, List.getElem_cons_zero, List.setIfInBounds_toArray, List.set_cons_zero, List.set_cons_succ]
  refine wpAnyH_take (i := 14) (v := .bool true) rfl (by kernel_rfl) (by kernel_rfl) (by kernel_rfl) (fun _ _ _ h => h) (Or.inl ⟨by rfl, fun w' hSw => by go_simp⟩) hHeld ?_
  try simp only [Act.put, List.getElem_toArray, List.getElem_cons_succ, List.getElem_cons_zero, List.setIfInBounds_toArray, List.set_cons_zero, List.set_cons_succ]
  refine wpAnyH_take (i := 15) (v := .bool true) rfl (by kernel_rfl) (by kernel_rfl) (by kernel_rfl) (fun _ _ _ h => h) (Or.inl ⟨by rfl, fun w' hSw => by go_simp⟩) hHeld ?_
  try simp only [Act.put, List.getElem_toArray, List.getElem_cons_succ, List.getElem_cons_zero, List.setIfInBounds_toArray, List.set_cons_zero, List.set_cons_succ]
  refine wpAnyH_take (i := 16) (v := .bool true) rfl (by kernel_rfl) (by kernel_rfl) (by kernel_rfl) (fun _ _ _ h => h) (Or.inl ⟨by rfl, fun w' hSw => by go_simp⟩) hHeld ?_
  try simp only [Act.put, List.getElem_toArray, List.getElem_cons_succ, List.getElem_cons_zero, List.setIfInBounds_toArray, List.set_cons_zero, List.set_cons_succ]
  refine wpAnyH_take (i := 17) (v := .pointer (some ⟨B, 0, none⟩)) rfl (by kernel_rfl) (by kernel_rfl) (by kernel_rfl) (fun _ _ _ h => h) (Or.inl ⟨by rfl, fun w' hSw => by go_simp⟩) hHeld ?_
  try simp only [Act.put, List.getElem_toArray, List.getElem_cons_succ, List.getElem_cons_zero, List.setIfInBounds_toArray, List.set_cons_zero, List.set_cons_succ]
  refine wpAnyH_take (i := 19) (v := .pointer (some ⟨g2, 36, none⟩)) rfl (by kernel_rfl) (by kernel_rfl) (by kernel_rfl) (fun _ _ _ h => h) (Or.inl ⟨by rfl, fun w' hSw => by go_simp⟩) hHeld ?_
  try simp only [Act.put, List.getElem_toArray, List.getElem_cons_succ, List.getElem_cons_zero, List.setIfInBounds_toArray, List.set_cons_zero, List.set_cons_succ]
  refine' wpAnyH_take (i := 20) (v := _) rfl (by kernel_rfl) (by kernel_rfl) (by kernel_rfl) (fun _ _ _ h => h) (yieldsIf_load_mid (by rfl) _ _ rfl g2 36 rfl HH _ (fun w' hSw => ((HCx.out _ _ (hSw.row (g2, C) (by simp))).2)) Tryd.underlying28 rfl (by rw [hash_info, HH32.out])) hHeld ?_
  try simp only [Act.put, List.getElem_toArray, List.getElem_cons_succ, List.getElem_cons_zero, List.setIfInBounds_toArray, List.set_cons_zero, List.set_cons_succ]
  refine wpAnyH_ready (rs := [18]) (by kernel_rfl) (by simp) (AllReadyH.cons rfl (fun K1 hK1 => ?_) AllReadyH.nil)
  try simp only [Act.put, List.getElem_toArray, List.getElem_cons_succ, List.getElem_cons_zero, List.setIfInBounds_toArray, List.set_cons_zero, List.set_cons_succ]
  go_simp
  refine Calls.mono (H1.out _ hHeld) ?_
  rintro e wc3 ⟨rfl, hc4⟩
  refine hK1.out _ _ (hHeld.below hc4) (fun hHeld => ?_)
  clear hK1 K1
  try simp only [Act.put, List.getElem_toArray, List.getElem_cons_succ, List.getElem_cons_zero, List.setIfInBounds_toArray, List.set_cons_zero, List.set_cons_succ]
  refine wpAnyH_take (i := 21) (v := .bool true) rfl (by kernel_rfl) (by kernel_rfl) (by kernel_rfl) (fun _ _ _ h => h) (Or.inl ⟨by rfl, fun w' hSw => by have hq := hSw; have hd := heqH w'; go_simp⟩) hHeld ?_
  try simp only [Act.put, List.getElem_toArray, List.getElem_cons_succ, List.getElem_cons_zero, List.setIfInBounds_toArray, List.set_cons_zero, List.set_cons_succ]
  refine wpAnyH_take (i := 22) (v := .bool true) rfl (by kernel_rfl) (by kernel_rfl) (by kernel_rfl) (fun _ _ _ h => h) (Or.inl ⟨by rfl, fun w' hSw => by go_simp⟩) hHeld ?_
  try simp only [Act.put, List.getElem_toArray, List.getElem_cons_succ, List.getElem_cons_zero, List.setIfInBounds_toArray, List.set_cons_zero, List.set_cons_succ]
  refine wpAnyH_take (i := 23) (v := .bool true) rfl (by kernel_rfl) (by kernel_rfl) (by kernel_rfl) (fun _ _ _ h => h) (Or.inl ⟨by rfl, fun w' hSw => by go_simp⟩) hHeld ?_
  try simp only [Act.put, List.getElem_toArray, List.getElem_cons_succ, List.getElem_cons_zero, List.setIfInBounds_toArray, List.set_cons_zero, List.set_cons_succ]
  refine wpAnyH_done (by kernel_rfl) ?_ _
  go_wp2_with fail
  go_ret
  exact ⟨rfl, hHeld.low⟩
end Go.Proofs.YtgdijbcoacgadaaDoor
