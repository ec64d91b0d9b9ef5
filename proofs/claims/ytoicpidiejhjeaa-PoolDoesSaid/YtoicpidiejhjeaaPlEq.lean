/- Two Waits: equal just where all is. -/
import Derived.Test.YtoicpidiejhjeaaPlMem
namespace Go.Proofs.Ytoicpidiejhjeaa
open Go.RowKit
set_option linter.unusedVariables false
set_option linter.unusedSimpArgs false
set_option maxRecDepth 100000

namespace Wt
def lits (w : Wt) : List Lit := w.tx.lits ++ [.int .i64 w.ix, .int .i64 w.till, .int .i64 w.at_, .int .i64 w.place]
theorem _root_.Go.Proofs.Ytoicpidiejhjeaa.Tx.lits_length {t : Tx} (h : t.Ok) : t.lits.length = 72 := by
  unfold Tx.lits Tx.hlits
  simp only [List.length_append, List.length_map, List.length_cons, List.length_nil, h.bY, h.tag]
theorem lits_inj {a b : Wt} (ha : a.Ok) (hb : b.Ok) (h : a.lits = b.lits) : a = b := by
  unfold lits at h
  obtain ⟨h1, h2⟩ := List.append_inj h (by rw [Tx.lits_length ha.tx, Tx.lits_length hb.tx])
  have e := Tx.lits_inj ha.tx hb.tx h1
  simp only [List.cons.injEq, Lit.int.injEq, true_and, and_true] at h2
  obtain ⟨a1, a2, a3, a4, a5⟩ := a
  obtain ⟨b1, b2, b3, b4, b5⟩ := b
  simp only at h2 e
  obtain ⟨rfl, rfl, rfl, rfl⟩ := h2
  rw [e]
end Wt
theorem wait_lits {w : Wt} (h : w.Ok) : Try.prog.keyLits 4 38 w.cells = some w.lits := by
  have hc : Try.prog.cellsOf 38 = 76 := by kernel_rfl
  have hI : Try.prog.cellsOf 3 = 1 := by kernel_rfl
  have hT : Try.prog.cellsOf 36 = 72 := by kernel_rfl
  unfold Program.keyLits
  simp only [Try.underlying38]
  rw [if_pos ⟨by rw [hc, Wt.cells_len h], by kernel_rfl⟩]
  have d0 : w.cells.take 72 = w.tx.cells := by unfold Wt.cells; exact List.take_left' (Tx.cells_length h.tx)
  have dd : ∀ j, w.cells.drop (72 + j) = w.tail.drop j := fun j => by
    unfold Wt.cells
    rw [← Tx.cells_length h.tx, List.drop_length_add_append]
  have e0 : Try.prog.keyLits 3 36 ((w.cells.drop 0).take (Try.prog.cellsOf 36)) = some w.tx.lits := by rw [hT, List.drop_zero, d0]; exact tx_lits h.tx
  have e1 : Try.prog.keyLits 3 3 ((w.cells.drop 72).take (Try.prog.cellsOf 3)) = some [.int .i64 w.ix] := by rw [hI, dd 0]; exact lit_int 2 h.ix
  have e2 : Try.prog.keyLits 3 3 ((w.cells.drop 73).take (Try.prog.cellsOf 3)) = some [.int .i64 w.till] := by rw [hI, dd 1]; exact lit_int 2 h.till
  have e3 : Try.prog.keyLits 3 3 ((w.cells.drop 74).take (Try.prog.cellsOf 3)) = some [.int .i64 w.at_] := by rw [hI, dd 2]; exact lit_int 2 h.at_
  have e4 : Try.prog.keyLits 3 3 ((w.cells.drop 75).take (Try.prog.cellsOf 3)) = some [.int .i64 w.place] := by rw [hI, dd 3]; exact lit_int 2 h.place
  simp only [List.mapM_cons, List.mapM_nil, e0, e1, e2, e3, e4, Option.bind_eq_bind, Option.bind_some, Option.pure_def, Option.map_some]
  simp [Wt.lits]
theorem wait_eq (W : World) (a b : Wt) (ha : a.Ok) (hb : b.Ok) : ∃ r : Bool, (Op.equalIn 10000 38 (.agg a.cells.toArray) (.agg b.cells.toArray)).run Try.prog W = .ok r W ∧ (r = true ↔ a = b) := by
  have hk : Try.prog.keyTypeAt 4 38 = true := by kernel_rfl
  have hf : ∀ x : Wt, x.Ok → (Value.agg x.cells.toArray).formed Try.prog 38 = true := by
    intro x hx
    have hc : Try.prog.cellsOf 38 = 76 := by kernel_rfl
    have hs := Wt.cells_len hx
    simp [Value.formed, Try.underlying38, hs, hc]
  obtain ⟨r, hr, hiff⟩ := run_equalIn_deep (P := Try.prog) 9996 4 38 hk W 4 4 (.agg a.cells.toArray) (.agg b.cells.toArray) _ _ (hf a ha) (hf b hb) (by show Try.prog.keyLits 4 _ a.cells.toArray.toList = _; rw [List.toList_toArray]; exact wait_lits ha) (by show Try.prog.keyLits 4 _ b.cells.toArray.toList = _; rw [List.toList_toArray]; exact wait_lits hb)
  exact ⟨r, hr, hiff.trans ⟨Wt.lits_inj ha hb, fun h => by rw [h]⟩⟩
theorem wait_same (W : World) {a : Wt} (ha : a.Ok) : (Op.equalIn 10000 38 (.agg a.cells.toArray) (.agg a.cells.toArray)).run Try.prog W = .ok true W := by
  obtain ⟨r, hr, hi⟩ := wait_eq W a a ha ha
  rw [hi.2 rfl] at hr
  exact hr
theorem wait_other (W : World) {a b : Wt} (ha : a.Ok) (hb : b.Ok) (h : a ≠ b) : (Op.equalIn 10000 38 (.agg a.cells.toArray) (.agg b.cells.toArray)).run Try.prog W = .ok false W := by
  obtain ⟨r, hr, hi⟩ := wait_eq W a b ha hb
  cases r with
  | true => exact absurd (hi.1 rfl) h
  | false => exact hr
end Go.Proofs.Ytoicpidiejhjeaa
