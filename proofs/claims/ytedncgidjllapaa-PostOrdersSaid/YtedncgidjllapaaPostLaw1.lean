/- Layer 22's law PostNone: what it returns. -/
import Derived.Test.YtedncgidjllapaaPostAwk
namespace Go.Proofs.Ytedncgidjllapaa
open Go.RowKit Go.Maps
set_option linter.unusedVariables false
set_option linter.unusedSimpArgs false

/-- what a poster sees -/
structure Seen where
  h : Int
  landed : Int
  cuts : Int
def Seen.v (x : Seen) : Value := .agg #[.int .i64 x.h, .int .i64 x.landed, .int .i64 x.cuts]

set_option maxRecDepth 20000 in
theorem postNone_any (x : Seen) (w : World) :
    Calls Try.prog 6 #[x.v] w fun e w' => e = .returned (.bool true) ∧ Below w.heap.size w w' := by
  obtain ⟨a, b, c⟩ := x
  unfold Seen.v
  have hrow0 := Row.new w 31 [.int .i64 a, .int .i64 b, .int .i64 c]
  have hb0 : Below w.heap.size w (w.alloc (.cells #[.int .i64 a, .int .i64 b, .int .i64 c] 31)) := (Below.refl _ _).alloc (Nat.le_refl _) _
  have Hrow0 := Lib.hid hrow0
  have Hb0 := Lib.hid hb0
  clear hrow0 hb0
  go_enter Try.func6, Try.ntmps6
  go_wp2_with fail
  refine (awake22_any _).mono ?_
  rintro _ w1 ⟨rfl, hb⟩
  have hrow1 := Hrow0.out.below hb
  have hb1 := Hb0.out.trans (hb.mono Hb0.out.size)
  have q0 : w1.cell? ⟨w.heap.size, 0, none⟩ = some (.int .i64 a) := hrow1.cell 0 (by simp)
  have q1 : w1.cell? ⟨w.heap.size, 1, none⟩ = some (.int .i64 b) := hrow1.cell 1 (by simp)
  have q2 : w1.cell? ⟨w.heap.size, 2, none⟩ = some (.int .i64 c) := hrow1.cell 2 (by simp)
  have Hb1 := Lib.hid hb1
  clear hb hrow1 hb1
  go_wp2_with fail
  refine (postLook_nil _ _ _ _).mono ?_
  rintro _ w2 ⟨rfl, rfl⟩
  go_wp2_with fail
  refine (postOut_nil _).mono ?_
  rintro _ w2 ⟨rfl, rfl⟩
  go_wp2_with fail
  go_ret
  exact ⟨rfl, Hb1.out⟩
end Go.Proofs.Ytedncgidjllapaa
