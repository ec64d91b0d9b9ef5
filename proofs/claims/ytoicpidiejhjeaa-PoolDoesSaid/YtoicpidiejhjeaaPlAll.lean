/- New, All, Len of a pool. -/
import Derived.Test.YtoicpidiejhjeaaPlAppL
namespace Go.Proofs.Ytoicpidiejhjeaa
open Go.RowKit
set_option linter.unusedVariables false
set_option linter.unusedSimpArgs false
set_option maxRecDepth 100000

theorem PAt.slW {T : TypeId} {w : World} {base B size n c : Nat} {A : Option Addr} {l : List Wt} (h : PAt T w base B (.slice A n c) size l) : SlW w w.heap.size A c l := h.own.slW h.wok (by have := h.n256; omega)
theorem PAt.all {w : World} {base B size : Nat} {v : Value} {l : List Wt} (h : PAt 63 w base B v size l) :
    Calls Try.prog 18 #[.pointer (some ⟨B, 0, none⟩)] w fun e w' => (∃ u, e = .returned u ∧ OwnL w' w.heap.size 38 76 Wt.cells u l) ∧ Below w.heap.size w w' := by
  obtain ⟨A, c, rfl, _, _⟩ := h.own.form
  have c1 := h.c1
  have CL := Lib.hid (clone18_any A c l w h.slW)
  generalize l.length = n at *
  clear h
  go_enter Try.func18, Try.ntmps18
  go_wp2_with fail
  refine CL.out.mono ?_
  rintro _ w1 ⟨⟨u, rfl, ho⟩, hb⟩
  have HO := Lib.hid ho
  have HB := Lib.hid hb
  clear ho hb
  go_wp2_with fail
  go_ret
  exact ⟨⟨_, rfl, HO.out⟩, HB.out⟩
theorem PAt.len {w : World} {base B size : Nat} {v : Value} {l : List Wt} (h : PAt 63 w base B v size l) :
    Calls Try.prog 19 #[.pointer (some ⟨B, 0, none⟩)] w fun e w' => e = .returned (.int .i64 l.length) ∧ w = w' := by
  obtain ⟨A, c, rfl, _, _⟩ := h.own.form
  have c1 := h.c1
  generalize l.length = n at *
  clear h
  go_enter Try.func19, Try.ntmps19
  go_wp2_with fail
  go_ret
  exact ⟨rfl, rfl⟩
theorem poolNew_ok (size : Nat) (h0 : 0 < size) (h1 : size ≤ 256) (w : World) :
    Calls Try.prog 8 #[.int .i64 size] w fun e w' => e = .returned (.tuple #[.pointer (some ⟨w.heap.size, 0, none⟩), .int .i64 0]) ∧ PAt 63 w' w.heap.size w.heap.size (.slice none 0 0) size [] ∧ Below w.heap.size w w' := by
  have d1 : decide ((size : Int) < 1) = false := decide_eq_false (by omega)
  have d2 : decide ((256 : Int) < (size : Int)) = false := decide_eq_false (by omega)
  have d3 : decide (size < 1) = false := decide_eq_false (by omega)
  have d4 : decide (256 < size) = false := decide_eq_false (by omega)
  have HR := Lib.hid (Row.new w 63 [.int .i64 size, .slice none 0 0])
  have HB := Lib.hid ((Below.refl w.heap.size w).alloc (Nat.le_refl _) (.cells #[.int .i64 size, .slice none 0 0] 63))
  have HS := Lib.hid (And.intro h0 h1)
  clear h0 h1
  go_enter Try.func8, Try.ntmps8
  go_wp2_with fail
  go_ret2
  exact ⟨rfl, ⟨HR.out, OwnL.nil _ _ _ _ _, Pl.Ok.nil _, HS.out, Nat.le_refl _⟩, HB.out⟩
theorem poolNew_no (size : Int) (h : size < 1 ∨ 256 < size) (w : World) :
    Calls Try.prog 8 #[.int .i64 size] w fun e w' => e = .returned (.tuple #[.pointer none, .int .i64 2]) ∧ w = w' := by
  by_cases h1 : size < 1
  · have d1 : decide (size < 1) = true := decide_eq_true h1
    clear h h1
    go_enter Try.func8, Try.ntmps8
    go_wp2_with fail
    go_ret2
    exact ⟨rfl, rfl⟩
  · have d1 : decide (size < 1) = false := decide_eq_false h1
    have d2 : decide (256 < size) = true := decide_eq_true (by omega)
    clear h h1
    go_enter Try.func8, Try.ntmps8
    go_wp2_with fail
    go_ret2
    exact ⟨rfl, rfl⟩
end Go.Proofs.Ytoicpidiejhjeaa
