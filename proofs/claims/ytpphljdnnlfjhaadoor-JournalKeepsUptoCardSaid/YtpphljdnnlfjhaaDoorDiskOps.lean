/- disk: wrong, Down, done, Arm; the reference's Down, one, Arm. -/
import Derived.Test.YtpphljdnnlfjhaaDoorDiskWord
namespace Go.Proofs.YtpphljdnnlfjhaaDoor
open Go.RowKit
set_option linter.unusedVariables false
set_option linter.unusedSimpArgs false

/-- a disk's state beside its files -/
structure Dk where
  armed : Bool
  left : Int
  down : Bool
def Dk.cells (m : Value) (s : Dk) : List Value := [m, .bool s.armed, .int .i64 s.left, .bool s.down]
/-- a disk in memory -/
def DkAt (W : World) (g : Nat) (m : Value) (s : Dk) : Prop := Row W g 60 (s.cells m)
theorem DkAt.box {W : World} {g : Nat} {m : Value} {s : Dk} (h : DkAt W g m s) : W.cell? ⟨g, 0, none⟩ = some m ∧ W.cell? ⟨g, 1, none⟩ = some (.bool s.armed) ∧ W.cell? ⟨g, 2, none⟩ = some (.int .i64 s.left) ∧ W.cell? ⟨g, 3, none⟩ = some (.bool s.down) :=
  ⟨Row.cell h 0 (by simp [Dk.cells]), Row.cell h 1 (by simp [Dk.cells]), Row.cell h 2 (by simp [Dk.cells]), Row.cell h 3 (by simp [Dk.cells])⟩
theorem wrong_nil (w : World) : Calls Tryd.prog 31 #[.pointer none] w fun e w' => e = .returned (.int .i64 1) ∧ w = w' := by
  go_enter Tryd.func31, Tryd.ntmps31
  go_wp2_with fail
  go_ret
  exact ⟨rfl, rfl⟩
theorem wrong_at {w : World} {g : Nat} {m : Value} {s : Dk} (h : DkAt w g m s) : Calls Tryd.prog 31 #[.pointer (some ⟨g, 0, none⟩)] w fun e w' => e = .returned (.int .i64 (if s.down = true then 8 else 0)) ∧ w = w' := by
  obtain ⟨c0, c1, c2, c3⟩ := h.box
  obtain ⟨a, l, d⟩ := s
  simp only at c0 c1 c2 c3
  clear h
  cases d
  · go_enter Tryd.func31, Tryd.ntmps31
    go_wp2_with fail
    go_ret
    exact ⟨rfl, rfl⟩
  · go_enter Tryd.func31, Tryd.ntmps31
    go_wp2_with fail
    go_ret
    exact ⟨rfl, rfl⟩
/-- an operation is counted -/
def Dk.one (s : Dk) : Dk := if s.armed = true then ⟨true, s.left - 1, decide (s.left - 1 = 0)⟩ else s
theorem done_at {w : World} {g : Nat} {m : Value} {s : Dk} (h : DkAt w g m s) (hf : s.armed = true → 1 ≤ s.left ∧ s.left ≤ 9223372036854775807) : Calls Tryd.prog 41 #[.pointer (some ⟨g, 0, none⟩)] w fun e w' => e = .returned (.int .i64 0) ∧ DkAt w' g m s.one ∧ w.grownBy w' (some g) := by
  obtain ⟨a, l, d⟩ := s
  cases a
  · obtain ⟨c0, c1, c2, c3⟩ := h.box
    have H := Lib.hid h
    simp only at c0 c1 c2 c3
    clear h hf
    go_enter Tryd.func41, Tryd.ntmps41
    go_wp2_with fail
    go_ret
    exact ⟨rfl, H.out, grownBy_refl _ _⟩
  · obtain ⟨c0, c1, c2, c3⟩ := h.box
    simp only at c0 c1 c2 c3
    have hb := hf rfl
    simp only at hb
    have f2 := Row.free h 2
    have f3 := Row.free h 3
    have s1 := Row.set h 2 (.int .i64 (l - 1)) (by simp [Dk.cells])
    have s2 := Row.set s1 3 (.bool (decide (l - 1 = 0))) (by simp [Dk.cells])
    have d2 := Row.cell s1 2 (by simp [Dk.cells])
    have g3 := Row.free s1 3
    simp only [Dk.cells, List.set_cons_succ, List.set_cons_zero, List.getElem_cons_succ, List.getElem_cons_zero] at d2
    have H2 := Lib.hid s2
    have hg1 := grownBy_set w g 2 (.int .i64 (l - 1))
    have hg2 := grownBy_set (w.setCell ⟨g, 2, none⟩ (.int .i64 (l - 1))) g 3 (.bool (decide (l - 1 = 0)))
    have HG := Lib.hid (World.grownBy.trans hg1 hg2)
    have hw : IntKind.i64.wrap (l - 1) = l - 1 := IntWalk.i64_in _ (by omega)
    clear h hf s1 s2 hg1 hg2
    go_enter Tryd.func41, Tryd.ntmps41
    go_wp2_with fail
    go_ret
    exact ⟨rfl, H2.out, HG.out⟩
end Go.Proofs.YtpphljdnnlfjhaaDoor
