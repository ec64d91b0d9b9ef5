/- A nil pool; a pool that is not told the nonces. -/
import Derived.Test.YtoicpidiejhjeaaPlNext
namespace Go.Proofs.Ytoicpidiejhjeaa
open Go.RowKit
set_option linter.unusedVariables false
set_option linter.unusedSimpArgs false
set_option maxRecDepth 100000

theorem put_nil (x : Wt) (w : World) : Calls Try.prog 10 #[.pointer none, .agg x.cells.toArray] w fun e w' => e = .returned (.tuple #[.agg Wt.none.cells.toArray, .bool false, .int .i64 1]) ∧ Below w.heap.size w w' := by
  generalize x.cells = C
  have HZ76 := Lib.hid (Wt.cells_len Wt.none_ok)
  have HZ1 := Lib.hid (Wt.cells_one Wt.none_ok)
  have HBt : Hid (Try.prog.built 38 [] = some Wt.none.cells.toArray) := Lib.hid wait_built0
  have hzv := wait_zv
  obtain ⟨ZT, hZT⟩ : ∃ ZT, Wt.none.cells = ZT := ⟨_, rfl⟩
  rw [hZT] at HZ76 HZ1 HBt hzv ⊢
  clear hZT
  have hb1 := (Below.refl w.heap.size w).alloc (Nat.le_refl _) (.cells C.toArray 38)
  have HB := Lib.hid (hb1.alloc (Nat.le_trans (Nat.le_refl _) hb1.size) (.cells ZT.toArray 38))
  have hr := Row.new (w.alloc (.cells C.toArray 38)) 38 ZT
  rw [show (w.alloc (.cells C.toArray 38)).heap.size = w.heap.size + 1 by simp] at hr
  have HR := Lib.hid hr
  clear hb1 hr
  go_enter Try.func10, Try.ntmps10
  go_wp2_with (first
  | ((with_reducible show wpList _ _ _ (⟨_, .build 38 _, _, _, _, _⟩ :: _) _ _); refine wpList_buildL rfl 38 [] rfl (some 16) rfl _ rfl ZT.toArray HBt.out ?_)
  | (
     with_reducible show wpList _ _ _ (⟨_, .store 38 (.tmp 4) _, _, _, _, _⟩ :: _) _ _
     refine wpList_store_at rfl 38 (.tmp 4) (.tmp 16) rfl (w.heap.size + 1) 0 ZT ZT _ rfl rfl (HR.out) (by have := HZ76.out; have := HZ76.out; omega) (by rw [wait_info, HZ76.out]) HZ1.out ?_
     intro w9 hr hg
     rw [splice_all (HZ76.out.trans HZ76.out.symm)] at hr
     have HR9 := Lib.hid hr
     have HB9 := Lib.hid (below_own HB.out hg (fun k hk => by cases hk; exact Nat.le_succ _))
     clear hr hg))
  refine bodyPost_ret (results_row3 rfl _ _ (w.heap.size + 1) 38 ZT _ rfl HR9.out Try.underlying38 rfl (by rw [wait_info]; simp [HZ76.out]) _ _ rfl rfl) rfl ⟨rfl, HB9.out⟩
theorem next_nil (f : FuncId) (cap : Value) (now : Int) (w : World) : Calls Try.prog 15 #[.pointer none, .int .i64 now, .func (.func f) #[] #[cap]] w fun e w' => e = .returned (.tuple #[.agg Wt.none.cells.toArray, .bool false]) ∧ Below w.heap.size w w' := by
  have HZ76 := Lib.hid (Wt.cells_len Wt.none_ok)
  have HZ1 := Lib.hid (Wt.cells_one Wt.none_ok)
  have HBt : Hid (Try.prog.built 38 [] = some Wt.none.cells.toArray) := Lib.hid wait_built0
  have hzv := wait_zv
  obtain ⟨ZT, hZT⟩ : ∃ ZT, Wt.none.cells = ZT := ⟨_, rfl⟩
  rw [hZT] at HZ76 HZ1 HBt hzv ⊢
  clear hZT
  have HR := Lib.hid (Row.new w 38 ZT)
  have HB := Lib.hid ((Below.refl w.heap.size w).alloc (Nat.le_refl _) (.cells ZT.toArray 38))
  go_enter Try.func15, Try.ntmps15
  go_wp2_with (first
  | ((with_reducible show wpList _ _ _ (⟨_, .build 38 _, _, _, _, _⟩ :: _) _ _); refine wpList_buildL rfl 38 [] rfl (some 19) rfl _ rfl ZT.toArray HBt.out ?_)
  | (
     with_reducible show wpList _ _ _ (⟨_, .store 38 (.tmp 6) _, _, _, _, _⟩ :: _) _ _
     refine wpList_store_at rfl 38 (.tmp 6) (.tmp 19) rfl w.heap.size 0 ZT ZT _ rfl rfl (HR.out) (by have := HZ76.out; have := HZ76.out; omega) (by rw [wait_info, HZ76.out]) HZ1.out ?_
     intro w9 hr hg
     rw [splice_all (HZ76.out.trans HZ76.out.symm)] at hr
     have HR9 := Lib.hid hr
     have HB9 := Lib.hid (below_own HB.out hg (fun k hk => by cases hk; exact Nat.le_refl _))
     clear hr hg))
  refine bodyPost_ret (results_rowL rfl _ _ w.heap.size 38 ZT _ rfl HR9.out Try.underlying38 rfl (by rw [wait_info]; simp [HZ76.out]) _ rfl) rfl ⟨rfl, HB9.out⟩
theorem next_nofn (B : Nat) (now : Int) (w : World) : Calls Try.prog 15 #[.pointer (some ⟨B, 0, none⟩), .int .i64 now, .nilFunc] w fun e w' => e = .returned (.tuple #[.agg Wt.none.cells.toArray, .bool false]) ∧ Below w.heap.size w w' := by
  have HZ76 := Lib.hid (Wt.cells_len Wt.none_ok)
  have HZ1 := Lib.hid (Wt.cells_one Wt.none_ok)
  have HBt : Hid (Try.prog.built 38 [] = some Wt.none.cells.toArray) := Lib.hid wait_built0
  have hzv := wait_zv
  obtain ⟨ZT, hZT⟩ : ∃ ZT, Wt.none.cells = ZT := ⟨_, rfl⟩
  rw [hZT] at HZ76 HZ1 HBt hzv ⊢
  clear hZT
  have HR := Lib.hid (Row.new w 38 ZT)
  have HB := Lib.hid ((Below.refl w.heap.size w).alloc (Nat.le_refl _) (.cells ZT.toArray 38))
  have hfn : ∀ W : World, (binOp .eql 47 .nilFunc .nilFunc).run Try.prog W = .ok (.bool true) W := fun W => by kernel_rfl
  go_enter Try.func15, Try.ntmps15
  go_wp2_with (first
  | ((with_reducible show wpList _ _ _ (⟨_, .build 38 _, _, _, _, _⟩ :: _) _ _); refine wpList_buildL rfl 38 [] rfl (some 19) rfl _ rfl ZT.toArray HBt.out ?_)
  | (
     with_reducible show wpList _ _ _ (⟨_, .store 38 (.tmp 6) _, _, _, _, _⟩ :: _) _ _
     refine wpList_store_at rfl 38 (.tmp 6) (.tmp 19) rfl w.heap.size 0 ZT ZT _ rfl rfl (HR.out) (by have := HZ76.out; have := HZ76.out; omega) (by rw [wait_info, HZ76.out]) HZ1.out ?_
     intro w9 hr hg
     rw [splice_all (HZ76.out.trans HZ76.out.symm)] at hr
     have HR9 := Lib.hid hr
     have HB9 := Lib.hid (below_own HB.out hg (fun k hk => by cases hk; exact Nat.le_refl _))
     clear hr hg))
  refine bodyPost_ret (results_rowL rfl _ _ w.heap.size 38 ZT _ rfl HR9.out Try.underlying38 rfl (by rw [wait_info]; simp [HZ76.out]) _ rfl) rfl ⟨rfl, HB9.out⟩
theorem old_nil (now : Int) (w : World) : Calls Try.prog 13 #[.pointer none, .int .i64 now] w fun e w' => e = .returned (.slice none 0 0) ∧ w = w' := by
  go_enter Try.func13, Try.ntmps13
  go_wp2_with fail
  go_ret
  exact ⟨rfl, rfl⟩
theorem all_nil (w : World) : Calls Try.prog 18 #[.pointer none] w fun e w' => e = .returned (.slice none 0 0) ∧ w = w' := by
  go_enter Try.func18, Try.ntmps18
  go_wp2_with fail
  go_ret
  exact ⟨rfl, rfl⟩
theorem len_nil18 (w : World) : Calls Try.prog 19 #[.pointer none] w fun e w' => e = .returned (.int .i64 0) ∧ w = w' := by
  go_enter Try.func19, Try.ntmps19
  go_wp2_with fail
  go_ret
  exact ⟨rfl, rfl⟩
theorem PAt.keepRow {w w' : World} {base B size : Nat} {v : Value} {l l' : List Wt} (h : PAt 63 w base B v size l) (hp : PTo 63 w w' base B v size l') {g : Nat} {T : TypeId} {xs : List Value} (hr : Row w g T xs) (h1 : T ≠ 63) (h2 : T ≠ 38) : Row w' g T xs := by
  obtain ⟨v', _, hc, _⟩ := hp
  refine hc.row hr ?_
  rintro (rfl | hk)
  · exact row_ne_row hr h.row h1 rfl
  · exact h.own.ne_block hr h2 hk
end Go.Proofs.Ytoicpidiejhjeaa
