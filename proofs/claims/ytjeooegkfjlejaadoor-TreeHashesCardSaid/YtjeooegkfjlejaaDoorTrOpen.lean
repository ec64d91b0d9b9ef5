/- What comes in at layer 11: a block. -/
import Derived.Test.YtjeooegkfjlejaaDoorInbOpen
namespace Go.Proofs.YtjeooegkfjlejaaDoor
open Go.ChangeShapes Go.WideShapes Go.ChangeAt Go.RowKit
set_option linter.unusedVariables false
set_option linter.unusedSimpArgs false

section
variable {H : Type} {enc : TypeId × Value → H} {W : World} {r : Reach} {b0 : Nat} {v : Value} {d : DataW H} {ps : List MemPlace}
set_option maxRecDepth 100000 in
theorem open_block (hv : Value.okWide Tryd.prog W r b0 45 v) (h : DataW.Trod enc Tryd.prog W 0 (fun _ => true) true 45 v d ps) :
    ∃ (b : Bk) (A : Option Addr) (c : Nat), v = .agg (b.cells A c).toArray ∧ b.parent.length = 32 ∧ BkItems W W.heap.size A b.items ∧ Tx.fits b.number := by
  have hs := Tryd.underlying45
  obtain ⟨cs, rfl, hcz⟩ := okWide_struct hs hv
  obtain ⟨fuel, hf⟩ := h
  have hc : Tryd.prog.cellsOf 45 = 35 := by kernel_rfl
  have hl : cs.toList.length = 35 := by rw [Array.length_toList, hcz, hc]
  obtain ⟨y, hy1, hy2, hy3, _, _⟩ := block_cells hl hf
  refine ⟨y.b, y.A, y.cap, ?_, hy1.1, hy3, hy1.2⟩
  show Value.agg cs = .agg _
  congr 1
  exact Array.toList_inj.1 hy2
end
end Go.Proofs.YtjeooegkfjlejaaDoor
