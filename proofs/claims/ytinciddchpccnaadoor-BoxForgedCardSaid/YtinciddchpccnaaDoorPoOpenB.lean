/- A batch that came in, opened. -/
import Derived.Test.YtinciddchpccnaaDoorBxD
namespace Go.Proofs.YtinciddchpccnaaDoor
open Go.ChangeShapes Go.WideShapes Go.ChangeAt Go.RowKit Go.Joins Go.Deep
set_option linter.unusedVariables false
set_option linter.unusedSimpArgs false
set_option maxRecDepth 100000

variable {H : Type} {enc : TypeId × Value → H} {W : World} {r : Reach} {b0 : Nat} {v : Value} {d : DataW H} {ps : List MemPlace} {ts : List TypeId} {ds : List (DataW H)} {j : Nat}
/-- a batch by value -/
theorem open_batch (hv : Value.okWide Tryd.prog W r b0 24 v) (h : DataW.Trod enc Tryd.prog W 0 (fun _ => true) true 24 v d ps)
    (hsz : (DataW.weightsEach Tryd.prog ts ds).all (· ≤ reachBytes) = true) (ht : ts[j]? = some 24) (hd : ds[j]? = some d) :
    ∃ (b : Bt) (A : Option Addr) (cap : Nat), b.Fits ∧ v = .agg (b.cells A cap).toArray ∧ PartsAt W W.heap.size A b.parts ∧ b.parts.length ≤ 9223372036854775807 ∧ b.parts.length ≤ cap := by
  have hwt : ∀ n ∈ d.weights Tryd.prog 24, n ≤ reachBytes := fun n hn => by
    have := List.all_eq_true.1 hsz _ (DataW.weights_mem_each ht hd n hn)
    simpa using this
  obtain ⟨cs, rfl, hcz⟩ := okWide_struct Tryd.underlying24 hv
  obtain ⟨fuel, hf⟩ := h
  have hc : Tryd.prog.cellsOf 24 = 4 := by kernel_rfl
  obtain ⟨b, A, cap, h1, h2, h3, h4, h5⟩ := batch_cells (cs := cs.toList) (by rw [Array.length_toList, hcz, hc]) hf hwt
  exact ⟨b, A, cap, h1, by show Value.agg cs = .agg _; rw [← h2], h3, h4, h5⟩
end Go.Proofs.YtinciddchpccnaaDoor
