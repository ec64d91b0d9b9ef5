/- What comes in at layer 11: a block. -/
import Derived.Test.YtjeooegkfjlejaaDoorInbOpen
namespace Go.Proofs.YtjeooegkfjlejaaDoor
open Go.ChangeShapes Go.WideShapes Go.ChangeAt Go.RowKit Go.Joins Go.Deep
set_option linter.unusedVariables false
set_option linter.unusedSimpArgs false

section
variable {H : Type} {enc : TypeId × Value → H} {W : World} {r : Reach} {b0 : Nat} {v : Value} {d : DataW H} {ps : List MemPlace}
set_option maxRecDepth 100000 in
theorem open_block (hv : Value.okWide Tryd.prog W r b0 45 v) (h : DataW.Trod enc Tryd.prog W 0 (fun _ => true) true 45 v d ps) :
    ∃ (b : Bk) (A : Option Addr) (c : Nat), v = .agg (b.cells A c).toArray ∧ b.parent.length = 32 ∧ BkItems W W.heap.size A b.items ∧ Tx.fits b.number := by
  have hs := Tryd.underlying45
  obtain ⟨cs, rfl, hcz⟩ := okWide_struct hs hv
  obtain ⟨fuel, hf⟩ := h
  have hc : Tryd.prog.cellsOf 45 = 35 := by kernel_rfl
  have hl : cs.toList.length = 35 := by rw [Array.length_toList, hcz, hc]
  obtain ⟨y, hy1, hy2, hy3, _, _⟩ := block_cells hl hf
  refine ⟨y.b, y.A, y.cap, ?_, hy1.1, hy3, hy1.2⟩
  show Value.agg cs = .agg _
  congr 1
  exact Array.toList_inj.1 hy2
set_option maxRecDepth 100000 in
/-- an act, its blocks not looked at -/
theorem open_act0 (hv : Value.okWide Tryd.prog W r b0 34 v) (h : DataW.Trod enc Tryd.prog W 0 (fun _ => true) true 34 v d ps) :
    ∃ (k u s : Int) (A : Option Addr) (m c : Nat), v = .agg #[.int .i64 k, .int .i64 u, .int .i64 s, .slice A m c] ∧ Tx.fits k ∧ Tx.fits u ∧ Tx.fits s := by
  have hs := Tryd.underlying34
  obtain ⟨cs, rfl, hcz⟩ := okWide_struct hs hv
  obtain ⟨fuel, hf⟩ := h
  have hc : Tryd.prog.cellsOf 34 = 4 := by kernel_rfl
  have hcl : Tryd.prog.cellsOf 32 = 1 := by kernel_rfl
  have hl : cs.toList.length = 4 := by rw [Array.length_toList, hcz, hc]
  obtain ⟨xs, n, _, hx, _, hlen, hg⟩ := DataW.trod_struct hs hf
  have h0 : DataW.trod enc Tryd.prog W 0 (fun _ => true) true n 3 ((cs.toList.drop 0).take (Tryd.prog.cellsOf 3)) = xs[0]? := hg 0 _ rfl
  have h1 : DataW.trod enc Tryd.prog W 0 (fun _ => true) true n 3 ((cs.toList.drop 1).take (Tryd.prog.cellsOf 3)) = xs[1]? := hg 1 _ rfl
  have h2 : DataW.trod enc Tryd.prog W 0 (fun _ => true) true n 3 ((cs.toList.drop 2).take (Tryd.prog.cellsOf 3)) = xs[2]? := hg 2 _ rfl
  have h3 : DataW.trod enc Tryd.prog W 0 (fun _ => true) true n 32 ((cs.toList.drop 3).take (Tryd.prog.cellsOf 32)) = xs[3]? := hg 3 _ rfl
  rw [cellsI] at h0 h1 h2
  rw [hcl] at h3
  match xs, hlen with
  | [y0, y1, y2, y3], _ =>
    obtain ⟨n0, e0, f0, w0⟩ := DataW.trod_int Tryd.underlying3 h0
    obtain ⟨n1, e1, f1, w1⟩ := DataW.trod_int Tryd.underlying3 h1
    obtain ⟨n2, e2, f2, w2⟩ := DataW.trod_int Tryd.underlying3 h2
    have e3 : ∃ A k c, (cs.toList.drop 3).take 1 = [.slice A k c] := by
      rcases open_slice Tryd.underlying32 h3 with ⟨e, _⟩ | ⟨_, _, _, _, _, _, _, e, _⟩
      · exact ⟨_, _, _, e⟩
      · exact ⟨_, _, _, e⟩
    obtain ⟨A, k, c, e3⟩ := e3
    refine ⟨n0, n1, n2, A, k, c, ?_, bounds_i64 w0, bounds_i64 w1, bounds_i64 w2⟩
    show Value.agg cs = .agg _
    congr 1
    exact Array.toList_inj.1 (four_cells cs.toList hl e0 e1 e2 e3)
end
end Go.Proofs.YtjeooegkfjlejaaDoor
