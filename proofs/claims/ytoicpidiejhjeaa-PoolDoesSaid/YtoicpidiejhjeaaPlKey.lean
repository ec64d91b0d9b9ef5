/- The order's keys: floats of small numbers. -/
import Derived.Test.YtoicpidiejhjeaaPlMem
import Derived.Test.YtoicpidiejhjeaaPlFloat
import Derived.WalkLawsBesides
namespace Go.Proofs.Ytoicpidiejhjeaa
open Go.RowKit
set_option linter.unusedVariables false
set_option linter.unusedSimpArgs false
set_option maxRecDepth 100000

def Pl.keyV (w : Wt) : Value := .complex .f64 (floatOfInt .f64 w.at_) (floatOfInt .f64 w.place)
theorem key_any (w : Wt) (hw : w.Ok) (W : World) : Calls Try.prog 47 #[.agg w.cells.toArray] W fun e w' => e = .returned (Pl.keyV w) ∧ Below W.heap.size W w' := by
  have HB := Lib.hid ((Below.refl W.heap.size W).alloc (Nat.le_refl _) (.cells w.cells.toArray 38))
  obtain ⟨_, _, _, _, _, c74, c75⟩ := WBox.row hw (Row.new W 38 w.cells)
  clear hw
  generalize w.cells = C at *
  unfold Pl.keyV
  generalize w.at_ = a at *
  generalize w.place = b at *
  go_enter Try.func47, Try.ntmps47
  go_wp2_with fail
  go_ret
  exact ⟨rfl, HB.out⟩
theorem below_any {a b : Wt} (ha : Pl.May a) (hb : Pl.May b) (W : World) : Calls Try.prog 46 #[Pl.keyV a, Pl.keyV b] W fun e w' => e = .returned (.bool (decide (Pl.Lt a b))) ∧ W = w' := by
  obtain ⟨_, _, _, a1, a2⟩ := ha
  obtain ⟨_, _, _, b1, b2⟩ := hb
  unfold Pl.small at a1 a2 b1 b2
  have l1 := float_lt (a := a.at_) (b := b.at_) (by omega) (by omega)
  have e1 := float_eq (a := a.at_) (b := b.at_) (by omega) (by omega)
  have l2 := float_lt (a := a.place) (b := b.place) (by omega) (by omega)
  unfold Pl.keyV
  have hL : Pl.Lt a b ↔ (a.at_ < b.at_ ∨ (a.at_ = b.at_ ∧ a.place < b.place)) := Iff.rfl
  clear a1 a2 b1 b2
  obtain ⟨r, hr⟩ : ∃ r, decide (Pl.Lt a b) = r := ⟨_, rfl⟩
  rw [hr]
  generalize floatOfInt .f64 a.at_ = fa at *
  generalize floatOfInt .f64 b.at_ = fb at *
  generalize floatOfInt .f64 a.place = ga at *
  generalize floatOfInt .f64 b.place = gb at *
  by_cases h1 : a.at_ < b.at_
  · have hr' : r = true := by rw [← hr, decide_eq_true_eq, hL]; exact .inl h1
    rw [decide_eq_true h1] at l1
    subst hr'
    clear e1 l2 hL hr h1
    go_enter Try.func46, Try.ntmps46
    go_wp2_with fail
    go_ret
    exact ⟨rfl, rfl⟩
  · rw [decide_eq_false h1] at l1
    by_cases h2 : a.at_ = b.at_
    · rw [decide_eq_true h2] at e1
      by_cases h3 : a.place < b.place
      · have hr' : r = true := by rw [← hr, decide_eq_true_eq, hL]; exact .inr ⟨h2, h3⟩
        rw [decide_eq_true h3] at l2
        subst hr'
        clear hL hr h1 h2 h3
        go_enter Try.func46, Try.ntmps46
        go_wp2_with fail
        go_ret
        exact ⟨rfl, rfl⟩
      · have hr' : r = false := by rw [← hr, decide_eq_false_iff_not, hL]; omega
        rw [decide_eq_false h3] at l2
        subst hr'
        clear hL hr h1 h2 h3
        go_enter Try.func46, Try.ntmps46
        go_wp2_with fail
        go_ret
        exact ⟨rfl, rfl⟩
    · have hr' : r = false := by rw [← hr, decide_eq_false_iff_not, hL]; omega
      rw [decide_eq_false h2] at e1
      subst hr'
      clear hL hr h1 h2 l2
      go_enter Try.func46, Try.ntmps46
      go_wp2_with fail
      go_ret
      exact ⟨rfl, rfl⟩
end Go.Proofs.Ytoicpidiejhjeaa
