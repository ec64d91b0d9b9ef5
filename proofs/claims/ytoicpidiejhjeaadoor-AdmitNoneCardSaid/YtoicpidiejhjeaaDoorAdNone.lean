/- the law AdmitNone. -/
import Derived.Test.YtoicpidiejhjeaaDoorAdAwk
import Derived.Test.YtoicpidiejhjeaaDoorAdOpen
namespace Go.Proofs.YtoicpidiejhjeaaDoor
open Go.RowKit Go.Maps
set_option linter.unusedVariables false
set_option linter.unusedSimpArgs false
set_option maxRecDepth 100000

set_option maxHeartbeats 1600000 in
theorem admitNone_any (hRS : RefSum) (a : Act17) (ha : a.Fits) (w : World) (hT : Tab w) :
    Calls Tryd.prog 5 #[.agg a.cells.toArray] w fun e w' => e = .returned (.bool true) ∧ Below w.heap.size w w' := by
  have HAw : Hid (∀ W, Below w.heap.size w W → Calls Tryd.prog 8 #[] W fun e w' => e = .returned (.bool true) ∧ Below W.heap.size W w') := Lib.hid (fun W hW => awake17_any hRS W (hT.below hW hT.pos))
  have HAs : Hid (∀ W, Calls Tryd.prog 11 #[.pointer none, .string a.s] W fun e w' => e = .returned (.tuple #[.agg Tx.none.cells.toArray, .int .i64 1]) ∧ Below W.heap.size W w') := Lib.hid (fun W => askS_nil a.s W)
  have HEn : Hid (∀ W, Calls Tryd.prog 12 #[.pointer none, .string a.s] W fun e w' => e = .returned (.tuple #[.agg Tx.none.cells.toArray, .int .i64 1]) ∧ Below W.heap.size W w') := Lib.hid (fun W => enterS_nil a.s W)
  have HLv : Hid (∀ W, Calls Tryd.prog 19 #[.pointer none, .agg a.tx.cells.toArray] W fun e w' => e = .returned (.int .i64 1) ∧ Below W.heap.size W w') := Lib.hid (fun W => leave_nil a.tx ha.tx W)
  have HDn : Hid (∀ W, Calls Tryd.prog 18 #[.pointer none, .agg a.tx.cells.toArray] W fun e w' => e = .returned (.int .i64 1) ∧ Below W.heap.size W w') := Lib.hid (fun W => done_nil a.tx ha.tx W)
  have HNx : Hid (∀ W, Calls Tryd.prog 17 #[.pointer none, .int .i64 a.tx.frm] W fun e w' => e = .returned (.int .i64 0) ∧ W = w') := Lib.hid (fun W => next_nil a.tx.frm W)
  have HIn : Hid (∀ W, Calls Tryd.prog 10 #[.pointer none] W fun e w' => e = .returned (.int .i64 0) ∧ W = w') := Lib.hid (fun W => in_nil W)
  have e7 : a.cells = [.int .i64 a.kind, .string a.s] ++ (a.tx.cells ++ []) := rfl
  have HCa : Hid (∀ (W : World) (g : Nat), Row W g 37 a.cells → W.cell? ⟨g, 1, none⟩ = some (.string a.s) ∧ W.cell? ⟨g, 2, none⟩ = some (.int .i64 a.tx.frm)) := Lib.hid (fun W g h => ⟨by have := row_range h 1 (.string a.s) rfl; simpa using this, by have := row_range h 2 (.int .i64 a.tx.frm) rfl; simpa using this⟩)
  have H2 : Hid (∀ (W : World) (g : Nat), Row W g 37 a.cells → W.rangeAt g 2 a.tx.cells) := Lib.hid (fun W g hr j v hv => by
    have hr := row_range hr (2 + j) v (by
      rw [e7, List.getElem?_append_right (by simp), List.append_nil]
      simpa using hv)
    rw [Nat.zero_add] at hr
    exact hr)
  have HT72 := Lib.hid (Tx.cells_length ha.tx)
  have HZ72 := Lib.hid (Tx.cells_length Tx.none_ok)
  have HZ1 := Lib.hid (Tx.cells_one Tx.none_ok)
  have hzv : ∀ W : World, (zeroValue 35).run Tryd.prog W = .ok (.agg Tx.none.cells.toArray) W := tx_zv
  have HBt : Hid (Tryd.prog.built 35 [] = some Tx.none.cells.toArray) := Lib.hid tx_built0
  have heq : ∀ W : World, (Op.equalIn 10000 35 (.agg Tx.none.cells.toArray) (.agg Tx.none.cells.toArray)).run Tryd.prog W = .ok true W := fun W => tx_same W Tx.none_ok
  clear hT ha e7
  generalize Tx.none.cells = ZT at *
  generalize a.tx.cells = CT at *
  generalize a.cells = C at *
  generalize a.tx.frm = fr at *
  generalize a.s = s at *
  have hb0 : Below w.heap.size w (w.alloc (.cells C.toArray 37)) := (Below.refl _ _).alloc (Nat.le_refl _) _
  have HB0 := Lib.hid hb0
  have HR0 := Lib.hid (Row.new w 37 C)
  have c1 := (HCa.out _ _ HR0.out).1
  clear hb0
  go_enter Tryd.func5, Tryd.ntmps5
  go_wp2_with fail
  refine (HAs.out _).mono ?_
  rintro _ w2 ⟨rfl, hb2⟩
  have HB2 := Lib.hid (two_below' HB0.out hb2)
  have HR2 := Lib.hid (HR0.out.below hb2)
  clear hb2 c1
  have hd3 := (HCa.out _ _ ((HR2.out).below ((Below.refl w2.heap.size w2).alloc (Nat.le_refl _) (.cells ZT.toArray 35)))).1
  go_wp2_with (first
  | (
     with_reducible show wpList _ _ _ (⟨_, .store 35 (.tmp 4) _, _, _, _, _⟩ :: _) _ _
     refine wpList_store_at rfl 35 (.tmp 4) (.tmp 13) rfl w2.heap.size 0 ZT ZT _ rfl rfl (Row.new w2 35 ZT) (by have := HZ72.out; have := HZ72.out; omega) (by rw [tx_info, HZ72.out]) HZ1.out ?_
     intro w3 hr hg
     rw [splice_all (HZ72.out.trans HZ72.out.symm)] at hr
     have hbx := below_own ((Below.refl w2.heap.size w2).alloc (Nat.le_refl _) (.cells ZT.toArray 35)) hg (fun k hk => by cases hk; exact Nat.le_refl _)
     have Q3 := Lib.hid hr
     have HR3 := Lib.hid (HR2.out.below hbx)
     have HB3 := Lib.hid (two_below' HB2.out hbx)
     have c3 := (HCa.out _ _ (HR2.out.below hbx)).1
     clear hr hg hbx))
  refine (HEn.out _).mono ?_
  rintro _ w4 ⟨rfl, hb4⟩
  have HB4 := Lib.hid (two_below' HB3.out hb4)
  have HR4 := Lib.hid (HR3.out.below hb4)
  have Q4 := Lib.hid (Q3.out.below hb4)
  clear hb4 c3 hd3
  go_wp2_with (first
  | (
     with_reducible show wpList _ _ _ (⟨_, .store 35 (.tmp 6) _, _, _, _, _⟩ :: _) _ _
     refine wpList_store_at rfl 35 (.tmp 6) (.tmp 20) rfl w4.heap.size 0 ZT ZT _ rfl rfl (Row.new w4 35 ZT) (by have := HZ72.out; have := HZ72.out; omega) (by rw [tx_info, HZ72.out]) HZ1.out ?_
     intro w5 hr hg
     rw [splice_all (HZ72.out.trans HZ72.out.symm)] at hr
     have hbx := below_own ((Below.refl w4.heap.size w4).alloc (Nat.le_refl _) (.cells ZT.toArray 35)) hg (fun k hk => by cases hk; exact Nat.le_refl _)
     have P5 := Lib.hid hr
     have HR5 := Lib.hid (HR4.out.below hbx)
     have Q5 := Lib.hid (Q4.out.below hbx)
     have HB5 := Lib.hid (two_below' HB4.out hbx)
     clear hr hg hbx))
  refine (HAw.out _ HB5.out).mono ?_
  rintro _ w6 ⟨rfl, hb6⟩
  have HB6 := Lib.hid (two_below' HB5.out hb6)
  have HR6 := Lib.hid (HR5.out.below hb6)
  have Q6 := Lib.hid (Q5.out.below hb6)
  have P6 := Lib.hid (P5.out.below hb6)
  clear hb6
  go_wp2_with (first
  | ((with_reducible show wpList _ _ _ (⟨_, .load 35 (.tmp 4), _, _, _, _⟩ :: _) _ _); refine wpList_load_tx rfl 35 (.tmp 4) rfl w2.heap.size 0 rfl ZT _ (row_range Q6.out) Tryd.underlying35 rfl (by rw [tx_info, HZ72.out]) ?_)
  | ((with_reducible show wpList _ _ _ (⟨_, .load 35 (.tmp 6), _, _, _, _⟩ :: _) _ _); refine wpList_load_tx rfl 35 (.tmp 6) rfl w4.heap.size 0 rfl ZT _ (row_range P6.out) Tryd.underlying35 rfl (by rw [tx_info, HZ72.out]) ?_)
  | ((with_reducible show wpList _ _ _ (⟨_, .build 35 _, _, _, _, _⟩ :: _) _ _); refine wpList_buildL rfl 35 [] rfl (some 33) rfl _ rfl _ HBt.out ?_)
  | ((with_reducible show wpList _ _ _ (⟨_, .build 35 _, _, _, _, _⟩ :: _) _ _); refine wpList_buildL rfl 35 [] rfl (some 38) rfl _ rfl _ HBt.out ?_)
  | ((with_reducible show wpList _ _ _ (⟨_, .load 35 (.tmp 43), _, _, _, _⟩ :: _) _ _); refine wpList_load_tx rfl 35 (.tmp 43) rfl w.heap.size 2 rfl CT _ (H2.out _ _ HR6.out) Tryd.underlying35 rfl (by rw [tx_info, HT72.out]) ?_))
  refine (HLv.out _).mono ?_
  rintro _ w7 ⟨rfl, hb7⟩
  have HB7 := Lib.hid (two_below' HB6.out hb7)
  have HR7 := Lib.hid (HR6.out.below hb7)
  clear hb7
  go_wp2_with ((with_reducible show wpList _ _ _ (⟨_, .load 35 (.tmp 50), _, _, _, _⟩ :: _) _ _); refine wpList_load_tx rfl 35 (.tmp 50) rfl w.heap.size 2 rfl CT _ (H2.out _ _ HR7.out) Tryd.underlying35 rfl (by rw [tx_info, HT72.out]) ?_)
  refine (HDn.out _).mono ?_
  rintro _ w8 ⟨rfl, hb8⟩
  have HB8 := Lib.hid (two_below' HB7.out hb8)
  have c2 := (HCa.out _ _ (HR7.out.below hb8)).2
  clear hb8
  go_wp2_with fail
  refine (HNx.out _).mono ?_
  rintro _ w9 ⟨rfl, rfl⟩
  go_wp2_with fail
  refine (HIn.out _).mono ?_
  rintro _ w9 ⟨rfl, rfl⟩
  have hw0 : IntKind.i64.wrap 0 = 0 := rfl
  go_wp2_with fail
  go_ret
  exact ⟨rfl, HB8.out⟩
end Go.Proofs.YtoicpidiejhjeaaDoor
