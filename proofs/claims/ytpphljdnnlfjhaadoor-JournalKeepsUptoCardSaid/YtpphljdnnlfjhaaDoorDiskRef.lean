/- The reference of layer 9: files by rising names; where a name stands. -/
import Derived.Test.YtpphljdnnlfjhaaDoorDiskOps2
namespace Go.Proofs.YtpphljdnnlfjhaaDoor
open Go.RowKit
set_option linter.unusedVariables false
set_option linter.unusedSimpArgs false

abbrev Sb (l : List UInt8) : Value := .string ⟨l.toArray⟩
/-- a file of the reference -/
structure Fl where
  name : List UInt8
  b : List UInt8
  safe : Int
namespace Fl
def cells (f : Fl) : List Value := [Sb f.name, Sb f.b, .int .i64 f.safe]
def flat (l : List Fl) : List Value := l.flatMap cells
def atFrom (nm : List UInt8) : Nat → List Fl → Int
  | _, [] => -1
  | k, f :: r => if f.name = nm then (k : Int) else atFrom nm (k + 1) r
/-- where a name stands -/
def at_ (l : List Fl) (nm : List UInt8) : Int := atFrom nm 0 l
/-- without a name -/
def drop (l : List Fl) (nm : List UInt8) : List Fl := l.filter fun f => decide (f.name ≠ nm)
theorem flat_at (l : List Fl) (i : Nat) (h : i < l.length) : (flat l)[i * 3]? = some (Sb (l[i]).name) ∧ (flat l)[i * 3 + 1]? = some (Sb (l[i]).b) ∧ (flat l)[i * 3 + 2]? = some (.int .i64 (l[i]).safe) := by
  induction l generalizing i with
  | nil => simp at h
  | cons f l ih =>
    have e : flat (f :: l) = [Sb f.name, Sb f.b, .int .i64 f.safe] ++ flat l := rfl
    rw [e]
    cases i with
    | zero => simp
    | succ i =>
      have h2 := ih i (by simpa using h)
      have e0 : (i + 1) * 3 = 3 + i * 3 := by omega
      rw [e0]
      rw [List.getElem?_append_right (by simp), List.getElem?_append_right (by simp; omega), List.getElem?_append_right (by simp; omega)]
      simp only [List.length_cons, List.length_nil, List.getElem_cons_succ]
      rw [show 3 + i * 3 - (0 + 1 + 1 + 1) = i * 3 by omega, show 3 + i * 3 + 1 - (0 + 1 + 1 + 1) = i * 3 + 1 by omega, show 3 + i * 3 + 2 - (0 + 1 + 1 + 1) = i * 3 + 2 by omega]
      exact h2
end Fl
end Go.Proofs.YtpphljdnnlfjhaaDoor
