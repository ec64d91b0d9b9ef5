/- Layer 14's law BankNone: what it returns. -/
import Derived.Test.YtfkejndiobafeaaBankCases
namespace Go.Proofs.Ytfkejndiobafeaa
open Go.RowKit
set_option linter.unusedVariables false
set_option linter.unusedSimpArgs false

theorem bankTake_nil' (a n : Int) (w : World) : Calls Try.prog 20 #[.pointer none, .int .i64 a, .int .i64 n] w fun e w' => e = .returned (.int .i64 1) ∧ w.grownBy w' none := bankTake_nil a n w
set_option maxRecDepth 20000 in
theorem bankNone_any (x : BAct) (w : World) :
    Calls Try.prog 7 #[x.v] w fun e w' => e = .returned (.bool true) ∧ Below w.heap.size w w' := by
  obtain ⟨xk, xa, xb, xn⟩ := x
  unfold BAct.v
  have hrow0 := Row.new w 30 [.int .i64 xk, .int .i64 xa, .int .i64 xb, .int .i64 xn]
  have hb0 : Below w.heap.size w (w.alloc (.cells #[.int .i64 xk, .int .i64 xa, .int .i64 xb, .int .i64 xn] 30)) := (Below.refl _ _).alloc (Nat.le_refl _) _
  have Hrow0 := Lib.hid hrow0
  have Hb0 := Lib.hid hb0
  clear hrow0 hb0
  go_enter Try.func7, Try.ntmps7
  go_wp2_with fail
  refine (awake14_any _).mono ?_
  rintro _ w1 ⟨rfl, hb⟩
  have hrow1 := Hrow0.out.below hb
  have hb1 := Hb0.out.trans (hb.mono Hb0.out.size)
  have q1 : w1.cell? ⟨w.heap.size, 1, none⟩ = some (.int .i64 xa) := hrow1.cell 1 (by simp)
  have q2 : w1.cell? ⟨w.heap.size, 2, none⟩ = some (.int .i64 xb) := hrow1.cell 2 (by simp)
  have q3 : w1.cell? ⟨w.heap.size, 3, none⟩ = some (.int .i64 xn) := hrow1.cell 3 (by simp)
  have Hrow1 := Lib.hid hrow1
  have Hb1 := Lib.hid hb1
  clear hb hrow1 hb1
  go_wp2_with fail
  refine (bankPut_nil _ _ _).mono ?_
  rintro _ w2 ⟨rfl, hg2⟩
  have hrow2 := Hrow1.out.kept hg2 (by simp)
  have hb2 := below_of_grown0 Hb1.out hg2 Hb1.out.size
  have q1 : w2.cell? ⟨w.heap.size, 1, none⟩ = some (.int .i64 xa) := hrow2.cell 1 (by simp)
  have q2 : w2.cell? ⟨w.heap.size, 2, none⟩ = some (.int .i64 xb) := hrow2.cell 2 (by simp)
  have q3 : w2.cell? ⟨w.heap.size, 3, none⟩ = some (.int .i64 xn) := hrow2.cell 3 (by simp)
  have Hrow2 := Lib.hid hrow2
  have Hb2 := Lib.hid hb2
  clear hg2 hrow2 hb2
  go_wp2_with fail
  refine (bankTake_nil' _ _ _).mono ?_
  rintro _ w3 ⟨rfl, hg3⟩
  have hrow3 := Hrow2.out.kept hg3 (by simp)
  have hb3 := below_of_grown0 Hb2.out hg3 Hb2.out.size
  have q1 : w3.cell? ⟨w.heap.size, 1, none⟩ = some (.int .i64 xa) := hrow3.cell 1 (by simp)
  have q2 : w3.cell? ⟨w.heap.size, 2, none⟩ = some (.int .i64 xb) := hrow3.cell 2 (by simp)
  have q3 : w3.cell? ⟨w.heap.size, 3, none⟩ = some (.int .i64 xn) := hrow3.cell 3 (by simp)
  have Hrow3 := Lib.hid hrow3
  have Hb3 := Lib.hid hb3
  clear hg3 hrow3 hb3
  go_wp2_with fail
  refine (bankMove_nil _ _ _ _).mono ?_
  rintro _ w4 ⟨rfl, hg4⟩
  have hrow4 := Hrow3.out.kept hg4 (by simp)
  have hb4 := below_of_grown0 Hb3.out hg4 Hb3.out.size
  have q1 : w4.cell? ⟨w.heap.size, 1, none⟩ = some (.int .i64 xa) := hrow4.cell 1 (by simp)
  have Hb4 := Lib.hid hb4
  clear hg4 hrow4 hb4
  go_wp2_with fail
  refine (bankOf_nil _ _).mono ?_
  rintro _ w5 ⟨rfl, rfl⟩
  go_wp2_with fail
  refine (bankTotal_nil _).mono ?_
  rintro _ w5 ⟨rfl, rfl⟩
  go_wp2_with fail
  refine (bankAll_nil _).mono ?_
  rintro _ w5 ⟨rfl, rfl⟩
  go_wp2_with fail
  go_ret
  exact ⟨rfl, Hb4.out⟩
end Go.Proofs.Ytfkejndiobafeaa
