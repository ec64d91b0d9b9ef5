/- The reference's Put: the list it makes, step by step. -/
import Derived.Test.YtoicpidiejhjeaaPlRNext
namespace Go.Proofs.Ytoicpidiejhjeaa
open Go.RowKit
set_option linter.unusedVariables false
set_option linter.unusedSimpArgs false

namespace Pl
/-- what the reference has made of the first k -/
def insK (l : List Wt) (w : Wt) (k : Nat) : List Wt := if pos l w.ix < k then l.take (pos l w.ix) ++ w :: (l.take k).drop (pos l w.ix) else l.take k
theorem insK_zero (l : List Wt) (w : Wt) : insK l w 0 = [] := by
  unfold insK
  rw [if_neg (by omega)]
  rfl
/-- the element goes in at k just where none went in and the k-th lies above -/
theorem insK_here {l : List Wt} (h : Srt l) {w : Wt} (hne : ∀ y ∈ l, y.ix ≠ w.ix) (k : Nat) (hk : k < l.length) (hp : ¬ pos l w.ix < k) (hg : w.ix < l[k].ix) : pos l w.ix = k ∧ insK l w (k + 1) = insK l w k ++ [w] ++ [l[k]] := by
  have e : pos l w.ix = k := by
    have := pos_lt h w.ix k hk
    have : ¬ k < pos l w.ix := fun q => by have := this.2 q; omega
    omega
  refine ⟨e, ?_⟩
  unfold insK
  rw [e, if_pos (by omega), if_neg (by omega)]
  have d : (l.take (k + 1)).drop k = [l[k]] := by
    rw [List.take_succ_eq_append_getElem hk, List.drop_append_of_le_length (by rw [List.length_take]; omega), List.drop_of_length_le (by rw [List.length_take]; omega)]
    rfl
  rw [d, List.append_assoc]
  rfl
theorem insK_else {l : List Wt} (h : Srt l) {w : Wt} (k : Nat) (hk : k < l.length) (hp : pos l w.ix < k ∨ ¬ w.ix < l[k].ix) (hne : ∀ y ∈ l, y.ix ≠ w.ix) : (pos l w.ix < k + 1 ↔ pos l w.ix < k) ∧ insK l w (k + 1) = insK l w k ++ [l[k]] := by
  have hlt := pos_lt h w.ix k hk
  have hn := hne _ (List.getElem_mem hk)
  by_cases q : pos l w.ix < k
  · refine ⟨by omega, ?_⟩
    unfold insK
    rw [if_pos (by omega), if_pos q, List.take_succ_eq_append_getElem hk, List.drop_append_of_le_length (by rw [List.length_take]; omega), List.append_assoc, List.cons_append]
  · have q2 : k < pos l w.ix := hlt.1 (by rcases hp with p | p <;> omega)
    refine ⟨by omega, ?_⟩
    unfold insK
    rw [if_neg (by omega), if_neg q, List.take_succ_eq_append_getElem hk]
theorem insK_end (l : List Wt) (w : Wt) : (pos l w.ix < l.length → insK l w l.length = ins l w) ∧ (¬ pos l w.ix < l.length → insK l w l.length ++ [w] = ins l w) := by
  have hp := pos_le l w.ix
  unfold insK ins
  refine ⟨fun q => ?_, fun q => ?_⟩
  · rw [if_pos q, List.take_length]
  · have e : pos l w.ix = l.length := by omega
    rw [if_neg q, e, List.take_length, List.drop_length]
theorem insK_len (l : List Wt) (w : Wt) (k : Nat) (hk : k ≤ l.length) : (insK l w k).length ≤ k + 1 := by
  unfold insK
  split
  · rw [List.length_append, List.length_cons, List.length_drop, List.length_take, List.length_take]; omega
  · rw [List.length_take]; omega
end Pl
end Go.Proofs.Ytoicpidiejhjeaa
