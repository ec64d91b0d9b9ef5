/- disk: Arm; the reference's Down, one, Arm. -/
import Derived.Test.YtpphljdnnlfjhaaDoorDiskOps
namespace Go.Proofs.YtpphljdnnlfjhaaDoor
open Go.RowKit
set_option linter.unusedVariables false
set_option linter.unusedSimpArgs false

theorem arm_nil (n : Int) (w : World) : Calls Tryd.prog 14 #[.pointer none, .int .i64 n] w fun e w' => e = .returned (.int .i64 1) ∧ w = w' := by
  go_enter Tryd.func14, Tryd.ntmps14
  go_wp2_with fail
  refine (wrong_nil _).mono ?_
  rintro _ w1 ⟨rfl, rfl⟩
  go_wp2_with fail
  go_ret
  exact ⟨rfl, rfl⟩
/-- what Arm answers, and what the disk is then -/
def Dk.arm (s : Dk) (n : Int) : Dk × Int := if s.down = true then (s, 8) else if n < 0 then (s, 2) else (⟨true, n, decide (n = 0)⟩, 0)
theorem arm_at {w : World} {g : Nat} {m : Value} {s : Dk} (n : Int) (h : DkAt w g m s) : Calls Tryd.prog 14 #[.pointer (some ⟨g, 0, none⟩), .int .i64 n] w fun e w' => e = .returned (.int .i64 (s.arm n).2) ∧ DkAt w' g m (s.arm n).1 ∧ w.grownBy w' (some g) := by
  have HW := wrong_at h
  obtain ⟨a, l, d⟩ := s
  cases d
  · have HW0 := Lib.hid (show Calls Tryd.prog 31 #[.pointer (some ⟨g, 0, none⟩)] w fun e w' => e = .returned (.int .i64 0) ∧ w = w' from HW)
    clear HW
    by_cases hn : n < 0
    · have H := Lib.hid h
      have HA : Hid (Dk.arm ⟨a, l, false⟩ n = (⟨a, l, false⟩, 2)) := Lib.hid (by unfold Dk.arm; rw [if_neg (by simp), if_pos hn])
      clear h
      go_enter Tryd.func14, Tryd.ntmps14
      go_wp2_with fail
      refine HW0.out.mono ?_
      rintro _ w1 ⟨rfl, rfl⟩
      go_wp2_with fail
      go_ret
      exact ⟨by rw [HA.out]; rfl, by rw [HA.out]; exact H.out, grownBy_refl _ _⟩
    · have hn0 : 0 ≤ n := by omega
      obtain ⟨c0, c1, c2, c3⟩ := h.box
      simp only at c0 c1 c2 c3
      have f1 := Row.free h 1
      have s1 := Row.set h 1 (.bool true) (by simp [Dk.cells])
      have s2 := Row.set s1 2 (.int .i64 n) (by simp [Dk.cells])
      have s3 := Row.set s2 3 (.bool (decide (n = 0))) (by simp [Dk.cells])
      have q2 := Row.free s1 2
      have q3 := Row.free s2 3
      have d2 := Row.cell s1 2 (by simp [Dk.cells])
      have d3 := Row.cell s2 3 (by simp [Dk.cells])
      simp only [Dk.cells, List.set_cons_succ, List.set_cons_zero, List.getElem_cons_succ, List.getElem_cons_zero] at d2 d3
      have H3 := Lib.hid s3
      have HG := Lib.hid (World.grownBy.trans (World.grownBy.trans (grownBy_set w g 1 (.bool true)) (grownBy_set _ g 2 (.int .i64 n))) (grownBy_set _ g 3 (.bool (decide (n = 0)))))
      have HA : Hid (Dk.arm ⟨a, l, false⟩ n = (⟨true, n, decide (n = 0)⟩, 0)) := Lib.hid (by unfold Dk.arm; rw [if_neg (by simp), if_neg hn])
      clear h s1 s2 s3
      go_enter Tryd.func14, Tryd.ntmps14
      go_wp2_with fail
      refine HW0.out.mono ?_
      rintro _ w1 ⟨rfl, rfl⟩
      go_wp2_with fail
      go_ret
      exact ⟨by rw [HA.out]; rfl, by rw [HA.out]; exact H3.out, HG.out⟩
  · have HW0 := Lib.hid (show Calls Tryd.prog 31 #[.pointer (some ⟨g, 0, none⟩)] w fun e w' => e = .returned (.int .i64 8) ∧ w = w' from HW)
    have H := Lib.hid h
    clear HW h
    go_enter Tryd.func14, Tryd.ntmps14
    go_wp2_with fail
    refine HW0.out.mono ?_
    rintro _ w1 ⟨rfl, rfl⟩
    go_wp2_with fail
    go_ret
    exact ⟨rfl, H.out, grownBy_refl _ _⟩
/-- what the reference's Arm answers, and how many are left then -/
def rarm (left n : Int) : Int × Int := if left = 0 then (left, 8) else if n < 0 then (left, 2) else (n, 0)
end Go.Proofs.YtpphljdnnlfjhaaDoor
