/- The law NotesBatches: what its function returns. -/
import Derived.Test.YtdekcicgiflnbaaDoorNoAwk
import Derived.Test.YtdekcicgiflnbaaDoorNoG
namespace Go.Proofs.YtdekcicgiflnbaaDoor
open Go.RowKit
set_option linter.unusedVariables false
set_option linter.unusedSimpArgs false

set_option maxRecDepth 20000 in
theorem notesBatches_any (b : Bt) (A : Option Addr) (cap : Nat) (hf : b.Fits) (w : World) (hP : PartsAt w w.heap.size A b.parts) (hT : Tab w) :
    Calls Tryd.prog 9 #[.agg (b.cells A cap).toArray] w fun e w' => e = .returned (.bool true) ∧ Below w.heap.size w w' := by
  have WI : Hid (∀ W, PartsAt W W.heap.size A b.parts → Calls Tryd.prog 41 #[.agg (b.cells A cap).toArray] W fun e w' => e = .returned (.tuple #[S b.textE.1, .int .i64 b.textE.2]) ∧ Below W.heap.size W w') := fun W => writeBatch_any b A cap W
  have RI : Hid (∀ W, PartsAt W W.heap.size A b.parts → Calls Tryd.prog 42 #[.agg (b.cells A cap).toArray] W fun e w' => e = .returned (.tuple #[S b.textE.1, .int .i64 b.textE.2]) ∧ Below W.heap.size W w') := fun W => rwriteBatch_any b A cap hf W
  have Hrow0 := Lib.hid (Row.new w 55 (b.cells A cap))
  have HL := Lib.hid (b.cells_len A cap)
  have HTab := Lib.hid hT
  have Hp := Lib.hid hT.pos
  have HP := Lib.hid hP
  generalize b.textE.1 = s at *
  generalize b.textE.2 = n at *
  generalize b.cells A cap = C at *
  generalize b.parts = P at *
  clear hT hP hf
  go_enter Tryd.func9, Tryd.ntmps9
  go_wp2_with (with_reducible show wpList _ _ _ (⟨_, .load 55 _, _, _, _, _⟩ :: _) _ _; refine wpList_load_tx rfl 55 (.tmp 1) rfl w.heap.size 0 rfl C _ (row_range Hrow0.out) Tryd.underlying55 rfl (by rw [batch_info, HL.out]) ?_)
  refine (WI.out _ ((HP.out.grown (grownBy_alloc w _ none) (fun k hk => by cases hk)).mono (by simp))).mono ?_
  rintro _ w1 ⟨rfl, hb1⟩
  have Hr1 := Lib.hid (Hrow0.out.kept (grownBy_of_below hb1 none) (by simp))
  have Hb1 := Lib.hid (tx_below (grownBy_of_below hb1 none))
  clear hb1
  go_wp2_with (with_reducible show wpList _ _ _ (⟨_, .load 55 _, _, _, _, _⟩ :: _) _ _; refine wpList_load_tx rfl 55 (.tmp 1) rfl w.heap.size 0 rfl C _ (row_range Hr1.out) Tryd.underlying55 rfl (by rw [batch_info, HL.out]) ?_)
  refine (RI.out _ ((HP.out.below Hb1.out).mono Hb1.out.size)).mono ?_
  rintro _ w2 ⟨rfl, hb2⟩
  have Hb2 := Lib.hid (two_below' Hb1.out hb2)
  clear hb2
  go_wp2_with fail
  refine (awake5_any _ (HTab.out.below Hb2.out Hp.out)).mono ?_
  rintro _ w3 ⟨rfl, hb3⟩
  have Hb3 := Lib.hid (two_below' Hb2.out hb3)
  clear hb3
  go_wp2_with fail
  go_ret
  exact ⟨rfl, Hb3.out⟩
end Go.Proofs.YtdekcicgiflnbaaDoor
