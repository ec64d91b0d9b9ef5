/- What five cells said stays said. -/
import Derived.Test.YtdifbndpgbdkbaaDoorShaCp
namespace Go.Proofs.YtdifbndpgbdkbaaDoor
open Go.RowKit
set_option linter.unusedVariables false
set_option linter.unusedSimpArgs false
theorem five_keep {wr w' w'' : World} {g0 g1 t : Nat} {v7 v4 v5 v6 v : Value} (hb : Below w'.heap.size w' w'') (hg : g0 < wr.heap.size) (hg1 : g1 < wr.heap.size)
    (h : Below wr.heap.size wr w' ∧ w'.cell? ⟨g0, 7, none⟩ = some v7 ∧ w'.cell? ⟨g0, 4, none⟩ = some v4 ∧ w'.cell? ⟨g0, 5, none⟩ = some v5 ∧ w'.cell? ⟨g0, 6, none⟩ = some v6 ∧ w'.cell? ⟨g1, t, none⟩ = some v) :
    Below wr.heap.size wr w'' ∧ w''.cell? ⟨g0, 7, none⟩ = some v7 ∧ w''.cell? ⟨g0, 4, none⟩ = some v4 ∧ w''.cell? ⟨g0, 5, none⟩ = some v5 ∧ w''.cell? ⟨g0, 6, none⟩ = some v6 ∧ w''.cell? ⟨g1, t, none⟩ = some v := by
  obtain ⟨h0, h1, h2, h3, h4, h5⟩ := h
  have e0 : g0 < w'.heap.size := Nat.lt_of_lt_of_le hg h0.size
  have e1 : g1 < w'.heap.size := Nat.lt_of_lt_of_le hg1 h0.size
  exact ⟨h0.trans (hb.mono h0.size), (hb.cell (p := ⟨g0, 7, none⟩) e0).trans h1, (hb.cell (p := ⟨g0, 4, none⟩) e0).trans h2, (hb.cell (p := ⟨g0, 5, none⟩) e0).trans h3, (hb.cell (p := ⟨g0, 6, none⟩) e0).trans h4, (hb.cell (p := ⟨g1, t, none⟩) e1).trans h5⟩
end Go.Proofs.YtdifbndpgbdkbaaDoor
