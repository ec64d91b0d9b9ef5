/- A transaction that is built out of numbers, a text and a tag. -/
import Derived.Test.YtgdijbcoacgadaaDoorSlD
namespace Go.Proofs.YtgdijbcoacgadaaDoor
open Go.RowKit
set_option linter.unusedVariables false
set_option linter.unusedSimpArgs false

theorem txb_places : (Tryd.prog.underlying 50).map (fun d => match d with | .struct fields => fields.toList.mapM (fun f => (Tryd.prog.info? f.type).map fun i => (f.offset, i.size)) | _ => Option.none) = some (some [(0, 1), (1, 1), (2, 1), (3, 1), (4, 1), (5, 1), (6, 1), (7, 1), (8, 32), (40, 32)]) := by kernel_rfl
theorem txb_zero : (Tryd.prog.info? 50).map (·.zero) = some (some (.agg Tx.none.cells.toArray)) := by kernel_rfl
theorem txb_built (parts : List (Nat × Value)) : Tryd.prog.built 50 parts = Instr.fill (#[(0, 1), (1, 1), (2, 1), (3, 1), (4, 1), (5, 1), (6, 1), (7, 1), (8, 32), (40, 32)][·]?) Tx.none.cells.toArray parts := by
  obtain ⟨i0, hi, hz⟩ := Option.map_eq_some_iff.1 txb_zero
  have hp := txb_places
  rw [Tryd.underlying50] at hp
  simp only [Option.map_some, Option.some.injEq] at hp
  unfold Program.built
  rw [hi, Tryd.underlying50]
  simp only [hz, hp]
  rfl
theorem tx_six (a b c d : Int) (s : ByteArray) (R : List UInt8) (hR : R.length = 32) :
    Tryd.prog.built 50 [(0, .int .i64 a), (1, .int .i64 b), (2, .int .i64 c), (3, .int .i64 d), (4, .string s), (9, .agg (bRow R).toList.toArray)] = some (Tx.cells ⟨a, b, c, d, s, false, 0, 0, Tx.zero, R⟩).toArray := by
  have hz := Tx.bRow_len Tx.zero rfl
  have hr := Tx.bRow_len R hR
  have hL := Tx.cells_length Tx.none_ok
  rw [txb_built]
  rw [fill_step _ _ 0 _ [.int .i64 a] _ 0 1 rfl rfl rfl (by rw [hL]; omega)]
  rw [fill_step _ _ 1 _ [.int .i64 b] _ 1 1 rfl rfl rfl (by simp only [List.length_append, List.length_take, List.length_drop, List.length_cons, List.length_nil, hL]; omega)]
  rw [fill_step _ _ 2 _ [.int .i64 c] _ 2 1 rfl rfl rfl (by simp only [List.length_append, List.length_take, List.length_drop, List.length_cons, List.length_nil, hL]; omega)]
  rw [fill_step _ _ 3 _ [.int .i64 d] _ 3 1 rfl rfl rfl (by simp only [List.length_append, List.length_take, List.length_drop, List.length_cons, List.length_nil, hL]; omega)]
  rw [fill_step _ _ 4 _ [.string s] _ 4 1 rfl rfl rfl (by simp only [List.length_append, List.length_take, List.length_drop, List.length_cons, List.length_nil, hL]; omega)]
  rw [fill_step _ _ 9 _ (bRow R).toList _ 40 32 rfl (by simp [Value.cells]) hr (by simp only [List.length_append, List.length_take, List.length_drop, List.length_cons, List.length_nil, hL]; omega)]
  rw [fill_end]
  unfold Tx.cells Tx.none Tx.head
  simp only [List.cons_append, List.nil_append, List.take_succ_cons, List.take_zero, List.drop_succ_cons, List.drop_zero]
  rw [List.take_append_of_le_length (by rw [hz]; omega), List.take_of_length_le (by rw [hz]; omega), List.drop_of_length_le (by rw [List.length_append, hz]; omega), List.append_nil]
end Go.Proofs.YtgdijbcoacgadaaDoor
