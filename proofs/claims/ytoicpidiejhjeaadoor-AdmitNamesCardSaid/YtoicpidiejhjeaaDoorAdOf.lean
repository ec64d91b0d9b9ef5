/- The law's of. -/
import Derived.Test.YtoicpidiejhjeaaDoorAdRask
import Derived.Test.YtoicpidiejhjeaaDoorAdOpen
namespace Go.Proofs.YtoicpidiejhjeaaDoor
open Go.RowKit
set_option linter.unusedVariables false
set_option linter.unusedSimpArgs false
set_option maxRecDepth 100000

set_option maxHeartbeats 1600000 in
theorem of17_any (a : Act17) (ha : a.Fits) (w : World) :
    Calls Tryd.prog 16 #[.agg a.cells.toArray] w fun e w' => (∃ t : Tx, t.Ok ∧ e = .returned (.agg t.cells.toArray)) ∧ Below w.heap.size w w' := by
  have hzv : ∀ W : World, (zeroValue 35).run Tryd.prog W = .ok (.agg Tx.none.cells.toArray) W := tx_zv
  have HZ72 := Lib.hid (Tx.cells_length Tx.none_ok)
  have e7 : a.cells = [.int .i64 a.kind, .string a.s] ++ (a.tx.cells ++ []) := rfl
  have H2 : Hid (∀ (W : World) (g : Nat), Row W g 37 a.cells → W.rangeAt g 2 a.tx.cells) := Lib.hid (fun W g hr j v hv => by
    have hr := row_range hr (2 + j) v (by
      rw [e7, List.getElem?_append_right (by simp), List.append_nil]
      simpa using hv)
    rw [Nat.zero_add] at hr
    exact hr)
  have HCa : Hid (∀ (W : World) (g : Nat), Row W g 37 a.cells → W.cell? ⟨g, 0, none⟩ = some (.int .i64 a.kind) ∧ W.cell? ⟨g, 1, none⟩ = some (.string a.s)) := Lib.hid (fun W g h => ⟨by have := row_range h 0 (.int .i64 a.kind) rfl; simpa using this, by have := row_range h 1 (.string a.s) rfl; simpa using this⟩)
  have HT72 := Lib.hid (Tx.cells_length ha.tx)
  have HT1 := Lib.hid (Tx.cells_one ha.tx)
  have HTx := Lib.hid ha.tx
  have RD := Lib.hid (fun W => rread17_any a.s W ha.s)
  obtain ⟨CT, hCT⟩ : ∃ CT, a.tx.cells = CT := ⟨_, rfl⟩
  rw [hCT] at H2 HT72 HT1
  have HCT := Lib.hid hCT
  clear e7 hCT ha
  generalize Tx.none.cells = ZT at *
  generalize a.cells = C at *
  generalize a.s = s at *
  generalize a.kind = kd at *
  have b1 : Blocks w (w.alloc (.cells C.toArray 37)) [(w.heap.size, 37, C)] := (Blocks.nil ((Below.refl w.heap.size w).alloc (Nat.le_refl _) _)).cons (Row.new w _ _)
  have r2 := Row.new (w.alloc (.cells C.toArray 37)) 35 ZT
  rw [show (w.alloc (.cells C.toArray 37)).heap.size = w.heap.size + 1 by simp] at r2
  have HB2 := Lib.hid ((b1.alloc (.cells ZT.toArray 35)).cons r2)
  have c0 := (HCa.out _ _ HB2.out.tl.hd).1
  have c1 := (HCa.out _ _ HB2.out.tl.hd).2
  clear b1 r2
  by_cases h5 : 5 < kd
  · have d5 : decide (5 < kd) = true := by simpa using h5
    clear h5
    go_enter Tryd.func16, Tryd.ntmps16
    go_wp2_with (first
    | ((with_reducible show wpList _ _ _ (⟨_, .load 35 (.tmp 8), _, _, _, _⟩ :: _) _ _); refine wpList_load_tx rfl 35 (.tmp 8) rfl w.heap.size 2 rfl CT _ (H2.out _ _ HB2.out.tl.hd) Tryd.underlying35 rfl (by rw [tx_info, HT72.out]) ?_)
    | (
       with_reducible show wpList _ _ _ (⟨_, .store 35 (.tmp 2) _, _, _, _, _⟩ :: _) _ _
       refine wpList_store_at rfl 35 (.tmp 2) (.tmp 9) rfl (w.heap.size + 1) 0 CT ZT _ rfl rfl (HB2.out.hd) (by have := HZ72.out; have := HT72.out; omega) (by rw [tx_info, HT72.out]) HT1.out ?_
       intro wf hr hg
       rw [splice_all (HT72.out.trans HZ72.out.symm)] at hr
       have HR9 := Lib.hid hr
       have HB9 := Lib.hid (below_own HB2.out.1 hg (fun k hk => by cases hk; exact Nat.le_succ _))
       clear hr hg))
    refine bodyPost_ret (results_cell_row rfl _ _ (w.heap.size + 1) 35 CT.toArray (0, 0) _ rfl HR9.out Tryd.underlying35 rfl (by rw [tx_info]; simp [HT72.out])) rfl ⟨⟨a.tx, HTx.out, by rw [HCT.out]⟩, HB9.out⟩
  · have d5 : decide (5 < kd) = false := by simpa using h5
    clear h5
    go_enter Tryd.func16, Tryd.ntmps16
    go_wp2_with fail
    refine (RD.out _).mono ?_
    rintro _ w3 ⟨⟨u, en, hu, _, rfl⟩, hb3⟩
    have HB3 := Lib.hid (HB2.out.step hb3)
    have HU72 := Lib.hid (Tx.cells_length hu)
    have HU1 := Lib.hid (Tx.cells_one hu)
    have Hu := Lib.hid hu
    clear hb3 hu c0 c1
    obtain ⟨CU, hCU⟩ : ∃ CU, u.cells = CU := ⟨_, rfl⟩
    rw [hCU] at HU72 HU1 ⊢
    have HCU := Lib.hid hCU
    clear hCU
    go_wp2_with (first
    | (
       with_reducible show wpList _ _ _ (⟨_, .store 35 (.tmp 3) _, _, _, _, _⟩ :: _) _ _
       refine wpList_store_at rfl 35 (.tmp 3) (.tmp 14) rfl w3.heap.size 0 CU ZT _ rfl rfl (Row.new w3 35 ZT) (by have := HZ72.out; have := HU72.out; omega) (by rw [tx_info, HU72.out]) HU1.out ?_
       intro w5 hr hg
       rw [splice_all (HU72.out.trans HZ72.out.symm)] at hr
       have hbn := ((HB3.out.alloc (.cells ZT.toArray 35)).put hg HB3.out.size HB3.out.fresh).cons hr
       have HB5 := Lib.hid hbn
       clear hbn
       clear hr hg)
    | ((with_reducible show wpList _ _ _ (⟨_, .load 35 (.tmp 3), _, _, _, _⟩ :: _) _ _); refine wpList_load_tx rfl 35 (.tmp 3) rfl w3.heap.size 0 rfl CU _ (row_range (HB5.out.hd)) Tryd.underlying35 rfl (by rw [tx_info, HU72.out]) ?_)
    | (
       with_reducible show wpList _ _ _ (⟨_, .store 35 (.tmp 2) _, _, _, _, _⟩ :: _) _ _
       refine wpList_store_at rfl 35 (.tmp 2) (.tmp 16) rfl (w.heap.size + 1) 0 CU ZT _ rfl rfl (HB5.out.tl.hd) (by have := HZ72.out; have := HU72.out; omega) (by rw [tx_info, HU72.out]) HU1.out ?_
       intro wf hr hg
       rw [splice_all (HU72.out.trans HZ72.out.symm)] at hr
       have HR9 := Lib.hid hr
       have HB9 := Lib.hid (below_own HB5.out.1 hg (fun k hk => by cases hk; exact Nat.le_succ _))
       clear hr hg))
    refine bodyPost_ret (results_cell_row rfl _ _ (w.heap.size + 1) 35 CU.toArray (0, 0) _ rfl HR9.out Tryd.underlying35 rfl (by rw [tx_info]; simp [HU72.out])) rfl ⟨⟨u, Hu.out, by rw [HCU.out]⟩, HB9.out⟩
end Go.Proofs.YtoicpidiejhjeaaDoor
