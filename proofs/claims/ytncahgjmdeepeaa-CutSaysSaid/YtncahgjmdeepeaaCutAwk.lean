/- Layer 21: awake. -/
import Derived.Test.YtncahgjmdeepeaaCutRows
import Derived.Test.YtncahgjmdeepeaaCutBat
import Derived.Test.YtncahgjmdeepeaaBuildL
import Derived.Deep.RegionHeld3
namespace Go.Proofs.Ytncahgjmdeepeaa
open Go.RowKit
set_option linter.unusedVariables false
set_option linter.unusedSimpArgs false

theorem three_ok : ∀ x ∈ three, RcOk x := by
  intro x hx
  simp [three] at hx
  rcases hx with rfl | rfl <;> exact rcT_ok _ _ _ (by decide)
theorem single_ok : ∀ x ∈ single, RcOk x := by
  intro x hx
  simp [single] at hx
  subst hx
  exact rcT_ok _ _ _ (by decide)
def awkRules : Cut.Rules := ⟨2, 700, 5, 5⟩
theorem due_7 : Cut.due awkRules 7 (three.take 1) = 0 := by decide
theorem due_8 : Cut.due awkRules 8 (three.take 1) = 1 := by decide
theorem due_3 : Cut.due awkRules 4 three = 2 := by decide
theorem parts_single : Cut.parts single = [.bool false, .string ⟨#[97]⟩] := by rfl
theorem okM_single : Cut.okM 0 1 single = true := by decide

theorem make_single (A : Option Addr) (w : World) (h : RcsAt w A single) :
    Calls Try.prog 15 #[.agg #[.int .i64 0, .int .i64 0, .int .i64 0, .int .i64 1], .slice A 1 1] w fun e w' =>
      ∃ B, e = .returned (.tuple #[.agg #[.int .i64 0, .int .i64 0, .int .i64 0, .slice (some ⟨B, 0, none⟩) 1 1], .int .i64 0]) ∧ w.heap.size ≤ B ∧ Row w' B 46 [.bool false, .string ⟨#[97]⟩] ∧ Below w.heap.size w w' := by
  have := cutMake_ok A 1 single 0 0 0 1 w h (by decide) okM_single
  rw [parts_single] at this
  exact this
theorem snd_of {A B C : Prop} (h : A ∧ B ∧ C) : B := h.2.1
/-- what awake's last statement counts on -/
theorem awk_step {w0 w w' : World} {r g b B : Nat} {v0 v1 v2 v3 vb vt : Value} {l : List Rc}
    (h : RcsAt w (some ⟨g, 0, none⟩) l ∧ Below w0.heap.size w0 w ∧ w.cell? ⟨r, 0, none⟩ = some v0 ∧ w.cell? ⟨r, 1, none⟩ = some v1 ∧ w.cell? ⟨r, 2, none⟩ = some v2 ∧ w.cell? ⟨r, 3, none⟩ = some v3 ∧ w.cell? ⟨b, 3, none⟩ = some vb ∧ w.cell? ⟨B, 1, none⟩ = some vt)
    (hb : Below w.heap.size w w') :
    RcsAt w' (some ⟨g, 0, none⟩) l ∧ Below w0.heap.size w0 w' ∧ w'.cell? ⟨r, 0, none⟩ = some v0 ∧ w'.cell? ⟨r, 1, none⟩ = some v1 ∧ w'.cell? ⟨r, 2, none⟩ = some v2 ∧ w'.cell? ⟨r, 3, none⟩ = some v3 ∧ w'.cell? ⟨b, 3, none⟩ = some vb ∧ w'.cell? ⟨B, 1, none⟩ = some vt := by
  have hg := grownBy_of_below hb none
  have hc : ∀ {b o v}, w.cell? ⟨b, o, none⟩ = some v → w'.cell? ⟨b, o, none⟩ = some v := fun h => hg.cell h (by simp)
  exact ⟨h.1.kept hg, h.2.1.grown hg h.2.1.size (fun k hk => by cases hk), hc h.2.2.1, hc h.2.2.2.1, hc h.2.2.2.2.1, hc h.2.2.2.2.2.1, hc h.2.2.2.2.2.2.1, hc h.2.2.2.2.2.2.2⟩

set_option maxRecDepth 20000 in
set_option maxHeartbeats 1600000 in
theorem awake_any (w : World) : Calls Try.prog 8 #[] w fun e w' => e = .returned (.bool true) ∧ Below w.heap.size w w' := by
  obtain ⟨i0, hi, h2⟩ := Option.map_eq_some_iff.1 rc_info
  simp only [Prod.mk.injEq] at h2
  obtain ⟨hz, hs⟩ := h2
  have Hi := Lib.hid hi
  have Hz := Lib.hid hz
  have Hs := Lib.hid hs
  clear hi hz hs
  go_enter Try.func8, Try.ntmps8
  go_wp2_with (first
    | (refine wpList_buildL rfl 44 [(2, .const (.int .i64 3))] rfl (some 6) rfl _ rfl _ built_3 ?_)
    | (refine wpList_buildL rfl 44 [(2, .const (.int .i64 4))] rfl (some 7) rfl _ rfl _ built_4 ?_)
    | (refine wpList_buildL rfl 44 [(2, .const (.int .i64 4))] rfl (some 8) rfl _ rfl _ built_4 ?_)
    | (refine wpList_buildL rfl 44 [(1, .const (.int .i64 1)), (3, .const (.string ⟨#[97]⟩))] rfl (some 12) rfl _ rfl _ built_a ?_)
    | (refine wpList_buildSliceL rfl 22 44 3 [(0, .tmp 6), (1, .tmp 7), (2, .tmp 8)] rfl (some 9) rfl _ rfl (three.flatMap rcL).toArray i0 (.agg rcZero) 68 Try.underlying22 Hi.out Hz.out Hs.out (by decide) (by decide) fill_three ?_)
    | (refine wpList_buildSliceL rfl 22 44 1 [(0, .tmp 12)] rfl (some 13) rfl _ rfl (single.flatMap rcL).toArray i0 (.agg rcZero) 68 Try.underlying22 Hi.out Hz.out Hs.out (by decide) (by decide) fill_single ?_))
  have hr0 : Row (((w.alloc (.cells #[.int .i64 2, .int .i64 700, .int .i64 5, .int .i64 5] 24)).alloc (.cells (three.flatMap rcL).toArray 44)).alloc (.cells (single.flatMap rcL).toArray 44)) w.heap.size 24 [.int .i64 2, .int .i64 700, .int .i64 5, .int .i64 5] :=
    ((Row.new w _ _).kept (grownBy_alloc _ _ none) (by simp)).kept (grownBy_alloc _ _ none) (by simp)
  have hr1 : Row (((w.alloc (.cells #[.int .i64 2, .int .i64 700, .int .i64 5, .int .i64 5] 24)).alloc (.cells (three.flatMap rcL).toArray 44)).alloc (.cells (single.flatMap rcL).toArray 44)) (w.heap.size + 1) 44 (three.flatMap rcL) := by
    have h := Row.new (w.alloc (.cells #[.int .i64 2, .int .i64 700, .int .i64 5, .int .i64 5] 24)) 44 (three.flatMap rcL)
    rw [show ∀ (W : World) (o : Obj), (W.alloc o).heap.size = W.heap.size + 1 from fun W o => by simp] at h
    exact h.kept (grownBy_alloc _ _ none) (by simp)
  have hr2 : Row (((w.alloc (.cells #[.int .i64 2, .int .i64 700, .int .i64 5, .int .i64 5] 24)).alloc (.cells (three.flatMap rcL).toArray 44)).alloc (.cells (single.flatMap rcL).toArray 44)) (w.heap.size + 1 + 1) 44 (single.flatMap rcL) := by
    have h := Row.new ((w.alloc (.cells #[.int .i64 2, .int .i64 700, .int .i64 5, .int .i64 5] 24)).alloc (.cells (three.flatMap rcL).toArray 44)) 44 (single.flatMap rcL)
    rw [show ∀ (W : World) (o : Obj), (W.alloc o).heap.size = W.heap.size + 1 from fun W o => by simp, show ∀ (W : World) (o : Obj), (W.alloc o).heap.size = W.heap.size + 1 from fun W o => by simp] at h
    exact h
  have hb0 : Below w.heap.size w (((w.alloc (.cells #[.int .i64 2, .int .i64 700, .int .i64 5, .int .i64 5] 24)).alloc (.cells (three.flatMap rcL).toArray 44)).alloc (.cells (single.flatMap rcL).toArray 44)) :=
    (((Below.refl w.heap.size w).alloc (Nat.le_refl _) _).alloc (by simp) _).alloc (by simp; omega) _
  have Hb0 := Lib.hid hb0
  have Hr0 := Lib.hid hr0
  have Hr1 := Lib.hid hr1
  have Hr2 := Lib.hid hr2
  clear hb0 hr0 hr1 hr2
  refine (make_single _ _ (rcs_row single_ok Hr2.out)).mono ?_
  rintro _ w1 ⟨B, rfl, hB, hrB, hb1⟩
  have hg1 := grownBy_of_below hb1 none
  have hr0 := Hr0.out.kept hg1 (by simp)
  have hr1 := Hr1.out.kept hg1 (by simp)
  have hb2 : Below w.heap.size w w1 := Hb0.out.grown hg1 Hb0.out.size (fun k hk => by cases hk)
  have c0 := hr0.cell 0 (by simp)
  have c1 := hr0.cell 1 (by simp)
  have c2 := hr0.cell 2 (by simp)
  have c3 := hr0.cell 3 (by simp)
  have ct := hrB.cell 1 (by simp)
  simp only [List.getElem_cons_zero, List.getElem_cons_succ] at c0 c1 c2 c3 ct
  have hrc := rcs_row three_ok hr1
  have Hst : Hid (∀ W, W = w1.alloc (.cells #[.int .i64 0, .int .i64 0, .int .i64 0, .slice (some ⟨B, 0, none⟩) 1 1] 36) → RcsAt W (some ⟨w.heap.size + 1, 0, none⟩) three ∧ Below w.heap.size w W ∧ W.cell? ⟨w.heap.size, 0, none⟩ = some (.int .i64 2) ∧ W.cell? ⟨w.heap.size, 1, none⟩ = some (.int .i64 700) ∧ W.cell? ⟨w.heap.size, 2, none⟩ = some (.int .i64 5) ∧ W.cell? ⟨w.heap.size, 3, none⟩ = some (.int .i64 5) ∧ W.cell? ⟨w1.heap.size, 3, none⟩ = some (.slice (some ⟨B, 0, none⟩) 1 1) ∧ W.cell? ⟨B, 1, none⟩ = some (.string ⟨#[97]⟩)) := by
    intro W hW
    have hg : w1.grownBy W none := by rw [hW]; exact grownBy_alloc _ _ none
    have hrw : Row W w1.heap.size 36 [.int .i64 0, .int .i64 0, .int .i64 0, .slice (some ⟨B, 0, none⟩) 1 1] := by rw [hW]; exact Row.new w1 _ _
    have hc : ∀ {b o v}, w1.cell? ⟨b, o, none⟩ = some v → W.cell? ⟨b, o, none⟩ = some v := fun h => hg.cell h (by simp)
    exact ⟨hrc.kept hg, hb2.grown hg hb2.size (fun k hk => by cases hk), hc c0, hc c1, hc c2, hc c3, hrw.cell 3 (by simp), hc ct⟩
  clear hB hrB hb1 hg1 hr0 hr1 hb2 c0 c1 c2 c3 ct hrc
  go_wp2_with fail
  have hst := Hst.out _ rfl
  generalize w1.alloc (.cells #[.int .i64 0, .int .i64 0, .int .i64 0, .slice (some ⟨B, 0, none⟩) 1 1] 36) = W4 at *
  have hS0 : RcsAt W4.drew (some ⟨w.heap.size + 1, 0, none⟩) three ∧ Below w.heap.size w W4.drew ∧ W4.drew.cell? ⟨w.heap.size, 0, none⟩ = some (.int .i64 2) ∧ W4.drew.cell? ⟨w.heap.size, 1, none⟩ = some (.int .i64 700) ∧ W4.drew.cell? ⟨w.heap.size, 2, none⟩ = some (.int .i64 5) ∧ W4.drew.cell? ⟨w.heap.size, 3, none⟩ = some (.int .i64 5) ∧ W4.drew.cell? ⟨w1.heap.size, 3, none⟩ = some (.slice (some ⟨B, 0, none⟩) 1 1) ∧ W4.drew.cell? ⟨B, 1, none⟩ = some (.string ⟨#[97]⟩) :=
    ⟨hst.1.kept (grownBy_drew _ none), hst.2.1.drew, hst.2.2.1, hst.2.2.2.1, hst.2.2.2.2.1, hst.2.2.2.2.2.1, hst.2.2.2.2.2.2.1, hst.2.2.2.2.2.2.2⟩
  have D7 : Hid (∀ W, RcsAt W (some ⟨w.heap.size + 1, 0, none⟩) three → Calls Try.prog 13 #[.slice (some ⟨w.heap.size + 1, 0, none⟩) 1 3, .int .i64 7, .agg #[.int .i64 2, .int .i64 700, .int .i64 5, .int .i64 5]] W fun e w' => e = .returned (.int .i64 0) ∧ Below W.heap.size W w') := fun W hW => by
    have := cutDue_any (some ⟨w.heap.size + 1, 0, none⟩) 3 (three.take 1) 7 awkRules W (hW.take 1) (by decide) (by decide)
    rw [due_7] at this
    exact this
  have D8 : Hid (∀ W, RcsAt W (some ⟨w.heap.size + 1, 0, none⟩) three → Calls Try.prog 13 #[.slice (some ⟨w.heap.size + 1, 0, none⟩) 1 3, .int .i64 8, .agg #[.int .i64 2, .int .i64 700, .int .i64 5, .int .i64 5]] W fun e w' => e = .returned (.int .i64 1) ∧ Below W.heap.size W w') := fun W hW => by
    have := cutDue_any (some ⟨w.heap.size + 1, 0, none⟩) 3 (three.take 1) 8 awkRules W (hW.take 1) (by decide) (by decide)
    rw [due_8] at this
    exact this
  have D4 : Hid (∀ W, RcsAt W (some ⟨w.heap.size + 1, 0, none⟩) three → Calls Try.prog 13 #[.slice (some ⟨w.heap.size + 1, 0, none⟩) 3 3, .int .i64 4, .agg #[.int .i64 2, .int .i64 700, .int .i64 5, .int .i64 5]] W fun e w' => e = .returned (.int .i64 2) ∧ Below W.heap.size W w') := fun W hW => by
    have := cutDue_any (some ⟨w.heap.size + 1, 0, none⟩) 3 three 4 awkRules W hW (by decide) (by decide)
    rw [due_3] at this
    exact this
  clear hst Hb0 Hr0 Hr1 Hr2 Hst Hi Hz Hs
  go_region_held3 (fun W => RcsAt W (some ⟨w.heap.size + 1, 0, none⟩) three ∧ Below w.heap.size w W ∧ W.cell? ⟨w.heap.size, 0, none⟩ = some (.int .i64 2) ∧ W.cell? ⟨w.heap.size, 1, none⟩ = some (.int .i64 700) ∧ W.cell? ⟨w.heap.size, 2, none⟩ = some (.int .i64 5) ∧ W.cell? ⟨w.heap.size, 3, none⟩ = some (.int .i64 5) ∧ W.cell? ⟨w1.heap.size, 3, none⟩ = some (.slice (some ⟨B, 0, none⟩) 1 1) ∧ W.cell? ⟨B, 1, none⟩ = some (.string ⟨#[97]⟩))
    (first | assumption | exact hS0 | (exact awk_step (by assumption) (by assumption)))
    (first
      | (go_at_call 13; with_reducible refine Calls.mono (D7.out _ (And.left (by assumption))) ?_; rintro e w' ⟨rfl, hb⟩)
      | (go_at_call 13; with_reducible refine Calls.mono (D8.out _ (And.left (by assumption))) ?_; rintro e w' ⟨rfl, hb⟩)
      | (go_at_call 13; with_reducible refine Calls.mono (D4.out _ (And.left (by assumption))) ?_; rintro e w' ⟨rfl, hb⟩))
  have hB : Below w.heap.size w w' := snd_of (A := RcsAt w' (some ⟨w.heap.size + 1, 0, none⟩) three) (by assumption)
  have HB := Lib.hid hB
  clear hB
  go_wp2_with fail
  go_ret
  exact ⟨rfl, HB.out⟩
end Go.Proofs.Ytncahgjmdeepeaa
