/- An item that may be, and the same item twice. -/
import Derived.Test.YtdekcicgiflnbaaDoorNoE
namespace Go.Proofs.YtdekcicgiflnbaaDoor
open Go.RowKit
set_option linter.unusedVariables false
set_option linter.unusedSimpArgs false

structure It.Fits (i : It) : Prop where
  kind : Tx.fits i.kind
  who : Tx.fits i.who
  n : Tx.fits i.n
  text : i.text.size ≤ 140737488351232
theorem It.ok_fits {i : It} (h : i.ok = true) : i.Fits := by
  have h := (It.ok_iff i).1 h
  have hs : i.text.data.toList.length = i.text.size := rfl
  refine ⟨⟨by omega, by omega⟩, ⟨by omega, by omega⟩, ⟨by omega, by omega⟩, ?_⟩
  rcases h with h | h
  · omega
  · rw [h.2.2.2.2] at hs
    simp at hs
    omega
theorem it_same {i : It} (h : i.Fits) (W : World) : (Op.equalIn 10000 59 (.agg i.cells.toArray) (.agg i.cells.toArray)).run Tryd.prog W = .ok true W := by
  have hc : Tryd.prog.cellsOf 59 = 4 := by kernel_rfl
  have hI : Tryd.prog.cellsOf 3 = 1 := by kernel_rfl
  have hS : Tryd.prog.cellsOf 9 = 1 := by kernel_rfl
  have hm : i.text.size ≤ maxLen := by have := h.text; unfold maxLen; omega
  have hL : Tryd.prog.keyLits 3 59 i.cells = some [.int .i64 i.kind, .int .i64 i.who, .int .i64 i.n, .string i.text.data.toList] := by
    unfold Program.keyLits
    simp only [Tryd.underlying59]
    rw [if_pos ⟨by rw [hc]; rfl, by kernel_rfl⟩]
    have e0 : Tryd.prog.keyLits 2 3 ((i.cells.drop 0).take (Tryd.prog.cellsOf 3)) = some [.int .i64 i.kind] := by rw [hI]; exact lit_int 1 h.kind
    have e1 : Tryd.prog.keyLits 2 3 ((i.cells.drop 1).take (Tryd.prog.cellsOf 3)) = some [.int .i64 i.who] := by rw [hI]; exact lit_int 1 h.who
    have e2 : Tryd.prog.keyLits 2 3 ((i.cells.drop 2).take (Tryd.prog.cellsOf 3)) = some [.int .i64 i.n] := by rw [hI]; exact lit_int 1 h.n
    have e3 : Tryd.prog.keyLits 2 9 ((i.cells.drop 3).take (Tryd.prog.cellsOf 9)) = some [.string i.text.data.toList] := by rw [hS]; exact lit_str 1 _ hm
    simp only [List.mapM_cons, List.mapM_nil, e0, e1, e2, e3, Option.bind_eq_bind, Option.bind_some, Option.pure_def, Option.map_some]
    rfl
  have hk : Tryd.prog.keyTypeAt 3 59 = true := by kernel_rfl
  have hf : (Value.agg i.cells.toArray).formed Tryd.prog 59 = true := by
    have : i.cells.toArray.size = 4 := rfl
    simp [Value.formed, Tryd.underlying59, hc, It.cells]
  obtain ⟨r, hr, hiff⟩ := run_equalIn_deep (P := Tryd.prog) 9997 3 59 hk W 3 3 (.agg i.cells.toArray) (.agg i.cells.toArray) _ _ hf hf hL hL
  have : r = true := hiff.2 rfl
  rw [hr, this]
end Go.Proofs.YtdekcicgiflnbaaDoor
