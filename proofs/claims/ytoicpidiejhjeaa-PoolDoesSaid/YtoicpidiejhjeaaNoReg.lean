/- Steps of drawn regions: a struct literal with rows; a row stored. -/
import Derived.Test.YtoicpidiejhjeaaSlD
import Derived.Laws.Tables
namespace Go.Proofs.Ytoicpidiejhjeaa
open Go.RowKit
set_option linter.unusedVariables false
set_option linter.unusedSimpArgs false

theorem yieldsIf_buildL {P : Program} {ops : Array Oper} {S : World → Prop} {op : Oper} {a : Act} (hw : Region.wanted op (yielded ops a.tmps) = true) (t : TypeId) (parts : List (Nat × Operand)) (ho : op.op = .build t parts.toArray)
    (vs : List (Nat × Value)) (hv : parts.map (fun p => (p.1, a.eval p.2)) = vs) (cells : Array Value) (hf : P.built t vs = some cells) : YieldsIf P ops S op (.agg cells) a :=
  .inl ⟨hw, fun w _ => by
    have e : (parts.toArray.map fun (i, x) => (i, a.eval x)).toList = vs := by rw [← hv]; simp
    have h2 : P.built t ((parts.toArray.map fun (i, x) => (i, a.eval x)).toList) = some cells := by rw [e]; exact hf
    unfold execOp
    simp only [ho, Sem.run_bind, run_build w t _ cells h2, Result.andThen_ok, Sem.run_pure]⟩
theorem wp_store_at {P : Program} {op : Oper} {a : Act} {w : World} {K : Act → World → Prop} {Q : Exit → Act → World → Prop} (ty : TypeId) (x y : Operand) (ho : op.op = .store ty x y)
    (g off : Nat) (l xs : List Value) (T : TypeId) (hx : a.eval x = .pointer (some ⟨g, off, none⟩)) (hy : a.eval y = .agg l.toArray) (hg : Row w g T xs) (hoff : off + l.length ≤ xs.length)
    (hi : (P.info? ty).map (·.size) = some l.length) (h1 : ∀ v ∈ l, v.oneCell' = true)
    (h : ∀ w', Row w' g T (xs.take off ++ (l ++ xs.drop (off + l.length))) → w.grownBy w' (some g) → K (a.put op.dst undef) w') : op.wp P a w K Q := by
  obtain ⟨r1, r2⟩ := row_setCells l off w xs hg hoff
  exact wp_store_mid ty x y ho g off l.toArray hx hy (fun j hj => ⟨by
    have hj' : j < l.length := by simpa using hj
    rw [hg.cell (off + j) (by omega)]; rfl, hg.free _⟩) (by simpa using hi) (all_oneCell_toArray h1) (h _ r1 r2)
end Go.Proofs.Ytoicpidiejhjeaa
