/- The reference's order. -/
import Derived.Test.YtoicpidiejhjeaaPlMem
import Derived.Test.YtoicpidiejhjeaaPlPy
namespace Go.Proofs.Ytoicpidiejhjeaa
open Go.RowKit
set_option linter.unusedVariables false
set_option linter.unusedSimpArgs false
set_option maxRecDepth 100000

theorem less18_any {a b : Wt} (ha : a.Ok) (hb : b.Ok) (W : World) : Calls Try.prog 21 #[.agg a.cells.toArray, .agg b.cells.toArray] W fun e w' => e = .returned (.bool (decide (Pl.Lt a b))) ∧ Below W.heap.size W w' := by
  have HB := Lib.hid (((Below.refl W.heap.size W).alloc (Nat.le_refl _) (.cells a.cells.toArray 38)).alloc (by simp) (.cells b.cells.toArray 38))
  obtain ⟨_, _, _, _, _, a74, a75⟩ := WBox.row ha ((Row.new W 38 a.cells).below ((Below.refl _ _).alloc (Nat.le_refl _) (.cells b.cells.toArray 38)))
  obtain ⟨_, _, _, _, _, b74, b75⟩ := WBox.row hb (Row.new (W.alloc (.cells a.cells.toArray 38)) 38 b.cells)
  rw [show (W.alloc (.cells a.cells.toArray 38)).heap.size = W.heap.size + 1 by simp] at b74 b75
  clear ha hb
  have hL : Pl.Lt a b ↔ (a.at_ < b.at_ ∨ (a.at_ = b.at_ ∧ a.place < b.place)) := Iff.rfl
  obtain ⟨r, hr⟩ : ∃ r, decide (Pl.Lt a b) = r := ⟨_, rfl⟩
  rw [hr]
  generalize a.cells = C at *
  generalize b.cells = D at *
  generalize a.at_ = xa at *
  generalize b.at_ = xb at *
  generalize a.place = pa at *
  generalize b.place = pb at *
  by_cases h1 : xa = xb
  · have d1 : (xa != xb) = false := by simpa using h1
    have hr' : r = decide (pa < pb) := by rw [← hr, decide_eq_decide, hL]; omega
    subst hr'
    clear hr hL h1
    go_enter Try.func21, Try.ntmps21
    go_wp2_with fail
    go_ret
    exact ⟨rfl, HB.out⟩
  · have d1 : (xa != xb) = true := by simpa using h1
    have hr' : r = decide (xa < xb) := by rw [← hr, decide_eq_decide, hL]; omega
    subst hr'
    clear hr hL h1
    go_enter Try.func21, Try.ntmps21
    go_wp2_with fail
    go_ret
    exact ⟨rfl, HB.out⟩
end Go.Proofs.Ytoicpidiejhjeaa
