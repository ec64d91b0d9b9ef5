/- the law OrderNone. -/
import Derived.Test.YtgdijbcoacgadaaDoorOdAwk
import Derived.Test.YtgdijbcoacgadaaDoorOdOpen
import Derived.Test.YtgdijbcoacgadaaDoorOdLoad
namespace Go.Proofs.YtgdijbcoacgadaaDoor
open Go.RowKit
set_option linter.unusedVariables false
set_option linter.unusedSimpArgs false
set_option maxRecDepth 100000

theorem Act19.box {a : Act19} {W : World} {b : Nat} (h : Row W b 32 a.cells) : W.cell? ⟨b, 0, none⟩ = some (.int .i64 a.kind) ∧ W.cell? ⟨b, 1, none⟩ = some (.int .i64 a.later) ∧ W.cell? ⟨b, 2, none⟩ = some (.string a.body) ∧ W.rangeAt b 4 a.r.cells := by
  have q := row_range h
  refine ⟨q 0 _ rfl, by have := q 1 (.int .i64 a.later) rfl; simpa using this, by have := q 2 (.string a.body) rfl; simpa using this, fun j v hv => ?_⟩
  have e : a.cells = [.int .i64 a.kind, .int .i64 a.later, .string a.body, .bool a.load] ++ (a.r.cells ++ []) := rfl
  have := q (4 + j) v (by
    rw [e, List.getElem?_append_right (by simp), List.append_nil]
    simpa using hv)
  rwa [Nat.zero_add] at this
set_option maxHeartbeats 6400000 in
theorem orderNone_any (a : Act19) (ha : a.Fits) (i : Int) (w : World) (hT : Tab w) : Calls Tryd.prog 7 #[.agg a.cells.toArray, .int .i64 i] w fun e w' => e = .returned (.bool true) ∧ Below w.heap.size w w' := by
  have AN := Lib.hid (fun W => add_nil a.kind a.later a.body W)
  have TN := Lib.hid (fun W => at19_nil i W)
  have AW : Hid (∀ W, Below w.heap.size w W → Calls Tryd.prog 9 #[] W fun e w' => e = .returned (.bool true) ∧ Below W.heap.size W w') := Lib.hid (fun W hW => awake19_any W (hT.below hW hT.pos))
  have LN := Lib.hid (fun W => Load_nil a.r W)
  have FN := Lib.hid (fun W => from_nil i W)
  have EN := Lib.hid len_nil
  have NN := Lib.hid (fun W => next19_nil i W)
  have KN := Lib.hid (fun W => take_nil i W)
  have HN := Lib.hid head19_nil
  have HR0 := Lib.hid (Row.new w 32 a.cells)
  have HB0 := Lib.hid ((Below.refl w.heap.size w).alloc (Nat.le_refl _) (.cells a.cells.toArray 32))
  have HBx := Lib.hid (fun W b (hr : Row W b 32 a.cells) => Act19.box hr)
  have HC68 := Lib.hid (Rp.cells_len ha.r.prev ha.r.hash)
  have heq := fun W => rp_eqD W Rp.zero Rp.zero Rp.zero_fits Rp.zero_fits (v := true) (by simp)
  have heqH := fun W => (hash_eq W Tx.zero Tx.zero rfl rfl).trans (by rw [decide_eq_true rfl])
  have hlit : bRow Tx.zero = #[.int .u8 0, .int .u8 0, .int .u8 0, .int .u8 0, .int .u8 0, .int .u8 0, .int .u8 0, .int .u8 0, .int .u8 0, .int .u8 0, .int .u8 0, .int .u8 0, .int .u8 0, .int .u8 0, .int .u8 0, .int .u8 0, .int .u8 0, .int .u8 0, .int .u8 0, .int .u8 0, .int .u8 0, .int .u8 0, .int .u8 0, .int .u8 0, .int .u8 0, .int .u8 0, .int .u8 0, .int .u8 0, .int .u8 0, .int .u8 0, .int .u8 0, .int .u8 0] := by kernel_rfl
  have heqH : ∀ W : World, (Op.equalIn 10000 28 (.agg (bRow Tx.zero)) (.agg #[.int .u8 0, .int .u8 0, .int .u8 0, .int .u8 0, .int .u8 0, .int .u8 0, .int .u8 0, .int .u8 0, .int .u8 0, .int .u8 0, .int .u8 0, .int .u8 0, .int .u8 0, .int .u8 0, .int .u8 0, .int .u8 0, .int .u8 0, .int .u8 0, .int .u8 0, .int .u8 0, .int .u8 0, .int .u8 0, .int .u8 0, .int .u8 0, .int .u8 0, .int .u8 0, .int .u8 0, .int .u8 0, .int .u8 0, .int .u8 0, .int .u8 0, .int .u8 0])).run Tryd.prog W = .ok true W := fun W => by rw [← hlit]; exact heqH W
  clear hlit
  have HBh : Hid (Tryd.prog.built 28 [] = some (bRow Tx.zero)) := Lib.hid hash_built
  have hzv := rp_zv
  have HBt : Hid (Tryd.prog.built 30 [] = some Rp.zero.cells.toArray) := Lib.hid Rp.zero_built0
  have HZ68 := Lib.hid (Rp.cells_len Rp.zero_fits.prev Rp.zero_fits.hash)
  have HZ1 := Lib.hid (Rp.cells_one Rp.zero_fits.prev Rp.zero_fits.hash)
  obtain ⟨ZT, hZT⟩ : ∃ ZT, Rp.zero.cells = ZT := ⟨_, rfl⟩
  rw [hZT] at hzv HBt HZ68 HZ1
  have HZT := Lib.hid hZT
  clear hZT
  rw [HZT.out] at AN TN heq
  clear hT ha HZT
  generalize bRow Tx.zero = ZA at *
  generalize a.r.cells = C at *
  generalize a.cells = CA at *
  generalize a.kind = ak at *
  generalize a.later = al at *
  generalize a.body = ab at *
  obtain ⟨c0, c1, c2, _⟩ := HBx.out _ _ HR0.out
  go_enter Tryd.func7, Tryd.ntmps7
  go_wp2_with fail
  refine (AN.out _).mono ?_
  rintro _ w2 ⟨rfl, hb2⟩
  have HB2 := Lib.hid (two_below' HB0.out hb2)
  have HR2 := Lib.hid (HR0.out.below hb2)
  clear hb2 AN c0 c1 c2 HR0
  generalize w.heap.size = g2 at HR2 ⊢
  go_wp2_with (first
  | (
     with_reducible show wpList _ _ _ (⟨_, .store 30 (.tmp 6) _, _, _, _, _⟩ :: _) _ _
     refine wpList_store_at rfl 30 (.tmp 6) (.tmp 19) rfl w2.heap.size 0 ZT ZT _ rfl rfl (Row.new w2 30 ZT) (by have := HZ68.out; have := HZ68.out; omega) (by rw [rp_info, HZ68.out]) HZ1.out ?_
     intro w3 hr hg
     rw [splice_all (HZ68.out.trans HZ68.out.symm)] at hr
     have hbx := below_own ((Below.refl w2.heap.size w2).alloc (Nat.le_refl _) (.cells ZT.toArray 30)) hg (fun k hk => by cases hk; exact Nat.le_refl _)
     have HB3 := Lib.hid (two_below' HB2.out hbx)
     have HR3 := Lib.hid (HR2.out.below hbx)
     have HQ3 := Lib.hid hr
     clear hbx
     clear hr hg))
  generalize w2.heap.size = g6 at *
  refine (TN.out _).mono ?_
  rintro _ w4 ⟨rfl, hb4⟩
  have HB4 := Lib.hid (two_below' HB3.out hb4)
  have HR4 := Lib.hid (HR3.out.below hb4)
  have HQ4 := Lib.hid (HQ3.out.below hb4)
  clear hb4 TN HQ3 HR3 HB3
  go_wp2_with (first
  | (
     with_reducible show wpList _ _ _ (⟨_, .store 30 (.tmp 8) _, _, _, _, _⟩ :: _) _ _
     refine wpList_store_at rfl 30 (.tmp 8) (.tmp 25) rfl w4.heap.size 0 ZT ZT _ rfl rfl (Row.new w4 30 ZT) (by have := HZ68.out; have := HZ68.out; omega) (by rw [rp_info, HZ68.out]) HZ1.out ?_
     intro w5 hr hg
     rw [splice_all (HZ68.out.trans HZ68.out.symm)] at hr
     have hbx := below_own ((Below.refl w4.heap.size w4).alloc (Nat.le_refl _) (.cells ZT.toArray 30)) hg (fun k hk => by cases hk; exact Nat.le_refl _)
     have HB5 := Lib.hid (two_below' HB4.out hbx)
     have HR5 := Lib.hid (HR4.out.below hbx)
     have HQ5 := Lib.hid (HQ4.out.below hbx)
     have HS5 := Lib.hid hr
     clear hbx
     clear hr hg))
  generalize w4.heap.size = g8 at *
  refine (AW.out _ HB5.out).mono ?_
  rintro _ w7 ⟨rfl, hb7⟩
  have HB7 := Lib.hid (two_below' HB5.out hb7)
  have HR7 := Lib.hid (HR5.out.below hb7)
  have HQ7 := Lib.hid (HQ5.out.below hb7)
  have HS7 := Lib.hid (HS5.out.below hb7)
  clear hb7 AW HQ5 HR5 HB5 HS5 HB4 HR4 HQ4
  go_wp2_with (first
  | ((with_reducible show wpList _ _ _ (⟨_, .load 30 (.tmp 6), _, _, _, _⟩ :: _) _ _); refine wpList_load_tx rfl 30 (.tmp 6) rfl g6 0 (rfl) ZT _ (row_range HQ7.out) Tryd.underlying30 rfl (by rw [rp_info, HZ68.out]) ?_)
  | ((with_reducible show wpList _ _ _ (⟨_, .load 30 (.tmp 8), _, _, _, _⟩ :: _) _ _); refine wpList_load_tx rfl 30 (.tmp 8) rfl g8 0 (rfl) ZT _ (row_range HS7.out) Tryd.underlying30 rfl (by rw [rp_info, HZ68.out]) ?_)
  | ((with_reducible show wpList _ _ _ (⟨_, .build 30 _, _, _, _, _⟩ :: _) _ _); refine wpList_buildL rfl 30 [] rfl (some 30) rfl _ rfl ZT.toArray HBt.out ?_)
  | ((with_reducible show wpList _ _ _ (⟨_, .build 30 _, _, _, _, _⟩ :: _) _ _); refine wpList_buildL rfl 30 [] rfl (some 35) rfl _ rfl ZT.toArray HBt.out ?_)
  | ((with_reducible show wpList _ _ _ (⟨_, .load 30 (.tmp 48), _, _, _, _⟩ :: _) _ _); refine wpList_load_tx rfl 30 (.tmp 48) rfl g2 4 (rfl) C _ ((HBx.out _ _ HR7.out).2.2.2) Tryd.underlying30 rfl (by rw [rp_info, HC68.out]) ?_))
  refine (LN.out _).mono ?_
  rintro _ w8 ⟨rfl, hb8⟩
  have HB8 := Lib.hid (two_below' HB7.out hb8)
  clear hb8 LN
  go_wp2_with fail
  refine (FN.out _).mono ?_
  rintro _ _ ⟨rfl, rfl⟩
  go_wp2_with fail
  refine (EN.out _).mono ?_
  rintro _ _ ⟨rfl, rfl⟩
  go_wp2_with fail
  refine (NN.out _).mono ?_
  rintro _ _ ⟨rfl, rfl⟩
  go_wp2_with fail
  refine (KN.out _).mono ?_
  rintro _ _ ⟨rfl, rfl⟩
  go_wp2_with fail
  refine (HN.out _).mono ?_
  rintro _ w9 ⟨rfl, hb9⟩
  have HB9 := Lib.hid (two_below' HB8.out hb9)
  clear hb9 HN
  go_wp2_with (first
  | ((with_reducible show wpList _ _ _ (⟨_, .build 28 _, _, _, _, _⟩ :: _) _ _); refine wpList_buildL rfl 28 [] rfl (some 74) rfl _ rfl ZA HBh.out ?_))
  go_ret
  exact ⟨rfl, HB9.out⟩
end Go.Proofs.YtgdijbcoacgadaaDoor
