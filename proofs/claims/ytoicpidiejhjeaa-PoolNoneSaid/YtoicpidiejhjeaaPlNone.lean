/- the law PoolNone. -/
import Derived.Test.YtoicpidiejhjeaaPlAwk
import Derived.Test.YtoicpidiejhjeaaPlEq
namespace Go.Proofs.Ytoicpidiejhjeaa
open Go.RowKit
set_option linter.unusedVariables false
set_option linter.unusedSimpArgs false
set_option maxRecDepth 100000

set_option maxHeartbeats 6400000 in
theorem poolNone_any (x : Wt) (hx : x.Ok) (w : World) : Calls Try.prog 7 #[.agg x.cells.toArray] w fun e w' => e = .returned (.bool true) ∧ Below w.heap.size w w' := by
  have PN := Lib.hid (fun W => put_nil x W)
  have NN := Lib.hid (fun W => next_nil 23 (.pointer (some ⟨w.heap.size, 0, none⟩)) x.at_ W)
  have NW := Lib.hid (fun W => poolNew_ok 1 (by decide) (by decide) W)
  have AW := Lib.hid awake18_any
  have NF := Lib.hid (fun W B => next_nofn B x.at_ W)
  have ON := Lib.hid (fun W => old_nil x.till W)
  have AN := Lib.hid all_nil
  have LN := Lib.hid len_nil18
  have PP := Lib.hid (fun W base B v (h : PAt 63 W base B v 1 []) => h.put x hx (fun _ => insOk_last [] x hx (by decide) rfl))
  have HR0 := Lib.hid (Row.new w 38 x.cells)
  have HB0 := Lib.hid ((Below.refl w.heap.size w).alloc (Nat.le_refl _) (.cells x.cells.toArray 38))
  have HBx := Lib.hid (fun W b (hr : Row W b 38 x.cells) => WBox.row hx hr)
  have HC76 := Lib.hid (Wt.cells_len hx)
  have HZ76 := Lib.hid (Wt.cells_len Wt.none_ok)
  have HZ1 := Lib.hid (Wt.cells_one Wt.none_ok)
  have HBt : Hid (Try.prog.built 38 [] = some Wt.none.cells.toArray) := Lib.hid wait_built0
  have hzv := wait_zv
  have heq := fun W => wait_same W Wt.none_ok
  clear hx
  generalize x.cells = C at *
  generalize Wt.none.cells = ZT at *
  generalize x.at_ = at0 at *
  generalize x.till = tl0 at *
  go_enter Try.func7, Try.ntmps7
  have HGe : Hid (w.heap.size ≤ w.heap.size) := Lib.hid (Nat.le_refl _)
  go_wp2_with (first
  | ((with_reducible show wpList _ _ _ (⟨_, .load 38 (.tmp 1), _, _, _, _⟩ :: _) _ _); refine wpList_load_tx rfl 38 (.tmp 1) rfl w.heap.size 0 (rfl) C _ (row_range HR0.out) Try.underlying38 rfl (by rw [wait_info, HC76.out]) ?_))
  obtain ⟨gp, hgp⟩ : ∃ gp, w.heap.size = gp := ⟨_, rfl⟩
  have HR0' : Hid (Row (w.alloc (.cells C.toArray 38)) gp 38 C) := by rw [← hgp]; exact HR0
  have HGp : Hid (w.heap.size = gp) := Lib.hid hgp
  rw [hgp] at NN ⊢
  clear hgp HR0 HGe
  have HR0 := HR0'
  clear HR0'
  refine (PN.out _).mono ?_
  rintro _ w2 ⟨rfl, hb2⟩
  have HB2 := Lib.hid (two_below' HB0.out hb2)
  have HR2 := Lib.hid (HR0.out.below hb2)
  clear hb2 PN
  go_wp2_with (first
  | (
     with_reducible show wpList _ _ _ (⟨_, .store 38 (.tmp 4) _, _, _, _, _⟩ :: _) _ _
     refine wpList_store_at rfl 38 (.tmp 4) (.tmp 17) rfl w2.heap.size 0 ZT ZT _ rfl rfl (Row.new w2 38 ZT) (by have := HZ76.out; have := HZ76.out; omega) (by rw [wait_info, HZ76.out]) HZ1.out ?_
     intro w3 hr hg
     rw [splice_all (HZ76.out.trans HZ76.out.symm)] at hr
     have hbx := below_own ((Below.refl w2.heap.size w2).alloc (Nat.le_refl _) (.cells ZT.toArray 38)) hg (fun k hk => by cases hk; exact Nat.le_refl _)
     have HB3 := Lib.hid (two_below' HB2.out hbx)
     have HR3 := Lib.hid (HR2.out.below hbx)
     have HQ3 := Lib.hid hr
     obtain ⟨_, _, _, _, _, c74, _⟩ := HBx.out _ _ HR3.out
     clear hbx
     clear hr hg))
  refine (NN.out _).mono ?_
  rintro _ w4 ⟨rfl, hb4⟩
  have HB4 := Lib.hid (two_below' HB3.out hb4)
  have HR4 := Lib.hid (HR3.out.below hb4)
  have HQ4 := Lib.hid (HQ3.out.below hb4)
  clear hb4 NN c74
  have HG4 : Hid (w.heap.size ≤ w2.heap.size) := Lib.hid HB2.out.size
  generalize w2.heap.size = g4 at *
  go_wp2_with (first
  | (
     with_reducible show wpList _ _ _ (⟨_, .store 38 (.tmp 7) _, _, _, _, _⟩ :: _) _ _
     refine wpList_store_at rfl 38 (.tmp 7) (.tmp 26) rfl w4.heap.size 0 ZT ZT _ rfl rfl (Row.new w4 38 ZT) (by have := HZ76.out; have := HZ76.out; omega) (by rw [wait_info, HZ76.out]) HZ1.out ?_
     intro w5 hr hg
     rw [splice_all (HZ76.out.trans HZ76.out.symm)] at hr
     have hbx := below_own ((Below.refl w4.heap.size w4).alloc (Nat.le_refl _) (.cells ZT.toArray 38)) hg (fun k hk => by cases hk; exact Nat.le_refl _)
     have HB5 := Lib.hid (two_below' HB4.out hbx)
     have HR5 := Lib.hid (HR4.out.below hbx)
     have HQ5 := Lib.hid (HQ4.out.below hbx)
     have HS5 := Lib.hid hr
     clear hbx
     clear hr hg))
  have HG7 : Hid (w.heap.size ≤ w4.heap.size) := Lib.hid HB4.out.size
  generalize w4.heap.size = g7 at *
  refine (NW.out _).mono ?_
  rintro _ w6 ⟨rfl, hp6, hb6⟩
  have hlo : ∀ k, PS w5.heap.size (.slice none 0 0) k → k = w5.heap.size := fun k hk => by
    rcases hk with rfl | hk
    · rfl
    · cases hk
  have hu : PutAt 63 w w6 w5.heap.size w5.heap.size (.slice none 0 0) (.slice none 0 0) 1 [] [(g7, ZT), (g4, ZT), (gp, C)] := ⟨hp6, Chg.of_below (two_below' HB5.out hb6), fun k hk => .inl hk, fun y hy => by
    simp only [List.mem_cons, List.not_mem_nil, or_false] at hy
    rcases hy with rfl | rfl | rfl
    · exact HS5.out.below hb6
    · exact HQ5.out.below hb6
    · exact HR5.out.below hb6, fun y hy => by
    simp only [List.mem_cons, List.not_mem_nil, or_false] at hy
    rcases hy with rfl | rfl | rfl
    · exact ⟨fun hk => by have := hlo _ hk; have := HS5.out.lt; simp only at *; omega, HG7.out⟩
    · exact ⟨fun hk => by have := hlo _ hk; have := HQ5.out.lt; simp only at *; omega, HG4.out⟩
    · exact ⟨fun hk => by have := hlo _ hk; have := HR5.out.lt; simp only at *; omega, Nat.le_of_eq HGp.out⟩⟩
  have HU6 := Lib.hid hu
  have HBB : Hid (w.heap.size ≤ w5.heap.size) := Lib.hid HB5.out.size
  clear hp6 hb6 hlo hu NW
  generalize w5.heap.size = B at *
  go_wp2_with (first
  | ((with_reducible show wpList _ _ _ (⟨_, .load 38 (.tmp 1), _, _, _, _⟩ :: _) _ _); refine wpList_load_tx rfl 38 (.tmp 1) rfl gp 0 (rfl) C _ (row_range (HU6.out.row (gp, C) (by simp))) Try.underlying38 rfl (by rw [wait_info, HC76.out]) ?_))
  refine (PP.out _ _ _ _ HU6.out.pat).mono ?_
  rintro _ w7 ⟨rfl, hp⟩
  obtain ⟨v7, hu⟩ := HU6.out.step hp
  have HU7 := Lib.hid hu
  clear hp hu PP
  obtain ⟨_, _, _, _, c73, c74, _⟩ := HBx.out _ _ (HU7.out.row (gp, C) (by simp))
  go_wp2_with fail
  refine (NF.out _ _).mono ?_
  rintro _ w8 ⟨rfl, hb8⟩
  have HU8 := Lib.hid (HU7.out.below hb8)
  clear hb8 NF c73 c74
  go_wp2_with (first
  | (
     with_reducible show wpList _ _ _ (⟨_, .store 38 (.tmp 11) _, _, _, _, _⟩ :: _) _ _
     refine wpList_store_at rfl 38 (.tmp 11) (.tmp 42) rfl w8.heap.size 0 ZT ZT _ rfl rfl (Row.new w8 38 ZT) (by have := HZ76.out; have := HZ76.out; omega) (by rw [wait_info, HZ76.out]) HZ1.out ?_
     intro w9 hr hg
     rw [splice_all (HZ76.out.trans HZ76.out.symm)] at hr
     have hbx := below_own ((Below.refl w8.heap.size w8).alloc (Nat.le_refl _) (.cells ZT.toArray 38)) hg (fun k hk => by cases hk; exact Nat.le_refl _)
     have HU9 := Lib.hid (HU8.out.below hbx)
     have HT9 := Lib.hid hr
     clear hbx
     clear hr hg))
  generalize w8.heap.size = g11 at *
  refine (AW.out _).mono ?_
  rintro _ w10 ⟨rfl, hb10⟩
  have HUA := Lib.hid (HU9.out.below hb10)
  have HTA := Lib.hid (HT9.out.below hb10)
  clear hb10 AW
  obtain ⟨_, _, _, _, c73, _, _⟩ := HBx.out _ _ (HUA.out.row (gp, C) (by simp))
  go_wp2_with (first
  | ((with_reducible show wpList _ _ _ (⟨_, .load 38 (.tmp 4), _, _, _, _⟩ :: _) _ _); refine wpList_load_tx rfl 38 (.tmp 4) rfl g4 0 (rfl) ZT _ (row_range (HUA.out.row (g4, ZT) (by simp))) Try.underlying38 rfl (by rw [wait_info, HZ76.out]) ?_)
  | ((with_reducible show wpList _ _ _ (⟨_, .load 38 (.tmp 7), _, _, _, _⟩ :: _) _ _); refine wpList_load_tx rfl 38 (.tmp 7) rfl g7 0 (rfl) ZT _ (row_range (HUA.out.row (g7, ZT) (by simp))) Try.underlying38 rfl (by rw [wait_info, HZ76.out]) ?_)
  | ((with_reducible show wpList _ _ _ (⟨_, .load 38 (.tmp 11), _, _, _, _⟩ :: _) _ _); refine wpList_load_tx rfl 38 (.tmp 11) rfl g11 0 (rfl) ZT _ (row_range HTA.out) Try.underlying38 rfl (by rw [wait_info, HZ76.out]) ?_)
  | ((with_reducible show wpList _ _ _ (⟨_, .build 38 _, _, _, _, _⟩ :: _) _ _); refine wpList_buildL rfl 38 [] rfl (some 47) rfl _ rfl ZT.toArray HBt.out ?_)
  | ((with_reducible show wpList _ _ _ (⟨_, .build 38 _, _, _, _, _⟩ :: _) _ _); refine wpList_buildL rfl 38 [] rfl (some 60) rfl _ rfl ZT.toArray HBt.out ?_)
  | ((with_reducible show wpList _ _ _ (⟨_, .build 38 _, _, _, _, _⟩ :: _) _ _); refine wpList_buildL rfl 38 [] rfl (some 69) rfl _ rfl ZT.toArray HBt.out ?_))
  refine (ON.out _).mono ?_
  rintro _ w11 ⟨rfl, rfl⟩
  go_wp2_with fail
  refine (AN.out _).mono ?_
  rintro _ w11 ⟨rfl, rfl⟩
  go_wp2_with fail
  refine (LN.out _).mono ?_
  rintro _ w11 ⟨rfl, rfl⟩
  go_wp2_with fail
  go_ret
  exact ⟨rfl, below_chg (Below.refl _ _) HUA.out.chg (Nat.le_refl _) (fun k hk => by
    rcases hk with rfl | hk
    · exact HBB.out
    · cases hk)⟩
end Go.Proofs.Ytoicpidiejhjeaa
