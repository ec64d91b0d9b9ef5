/- A law's argument that holds one of each, opened. -/
import Derived.Test.YtdekcicgiflnbaaDoorNoOpen
namespace Go.Proofs.YtdekcicgiflnbaaDoor
open Go.ChangeShapes Go.WideShapes Go.ChangeAt Go.RowKit Go.Joins Go.Deep
set_option linter.unusedVariables false
set_option linter.unusedSimpArgs false
set_option maxRecDepth 100000

def allC (b : Bd) (r : Rp) (t : Bt) (A : Option Addr) (c : Nat) (i : It) : List Value := b.cells ++ (r.cells ++ (t.cells A c ++ i.cells))
theorem cut_four (l : List Value) (h : l.length = 112) : l = (l.drop 0).take 36 ++ ((l.drop 36).take 68 ++ ((l.drop 104).take 4 ++ (l.drop 108).take 4)) := by
  have e1 : l = l.take 36 ++ l.drop 36 := (List.take_append_drop 36 l).symm
  have e2 : l.drop 36 = (l.drop 36).take 68 ++ l.drop 104 := by
    have := (List.take_append_drop 68 (l.drop 36)).symm
    rw [List.drop_drop] at this
    exact this
  have e3 : l.drop 104 = (l.drop 104).take 4 ++ l.drop 108 := by
    have := (List.take_append_drop 4 (l.drop 104)).symm
    rw [List.drop_drop] at this
    exact this
  have e4 : (l.drop 108).take 4 = l.drop 108 := List.take_of_length_le (by rw [List.length_drop]; omega)
  rw [List.drop_zero, e4, ← e3, ← e2, ← e1]
section
variable {H : Type} {enc : TypeId × Value → H} {W : World} {r : Reach} {b0 : Nat} {v : Value} {d : DataW H} {ps : List MemPlace} {ts : List TypeId} {ds : List (DataW H)} {j : Nat}
theorem open_all (hv : Value.okWide Tryd.prog W r b0 71 v) (h : DataW.Trod enc Tryd.prog W 0 (fun _ => true) true 71 v d ps)
    (hsz : (DataW.weightsEach Tryd.prog ts ds).all (· ≤ reachBytes) = true) (ht : ts[j]? = some 71) (hd : ds[j]? = some d) :
    ∃ (b : Bd) (x : Rp) (t : Bt) (A : Option Addr) (c : Nat) (i : It), b.Fits ∧ x.Fits ∧ t.Fits ∧ v = .agg (allC b x t A c i).toArray ∧ PartsAt W W.heap.size A t.parts := by
  have hs := Tryd.underlying71
  have hwt : ∀ n ∈ d.weights Tryd.prog 71, n ≤ reachBytes := fun n hn => by
    have := List.all_eq_true.1 hsz _ (DataW.weights_mem_each ht hd n hn)
    simpa using this
  obtain ⟨cs, rfl, hcz⟩ := okWide_struct hs hv
  obtain ⟨fuel, hf⟩ := h
  have hc : Tryd.prog.cellsOf 71 = 112 := by kernel_rfl
  have hl : cs.toList.length = 112 := by rw [Array.length_toList, hcz, hc]
  obtain ⟨xs, n, _, hx, _, hlen, hg⟩ := DataW.trod_struct hs hf
  have hB : Tryd.prog.cellsOf 41 = 36 := by kernel_rfl
  have hR : Tryd.prog.cellsOf 48 = 68 := by kernel_rfl
  have hT : Tryd.prog.cellsOf 55 = 4 := by kernel_rfl
  have hI : Tryd.prog.cellsOf 59 = 4 := by kernel_rfl
  have h0 : DataW.trod enc Tryd.prog W 0 (fun _ => true) true n 41 ((cs.toList.drop 0).take (Tryd.prog.cellsOf 41)) = xs[0]? := hg 0 _ rfl
  have h1 : DataW.trod enc Tryd.prog W 0 (fun _ => true) true n 48 ((cs.toList.drop 36).take (Tryd.prog.cellsOf 48)) = xs[1]? := hg 1 _ rfl
  have h2 : DataW.trod enc Tryd.prog W 0 (fun _ => true) true n 55 ((cs.toList.drop 104).take (Tryd.prog.cellsOf 55)) = xs[2]? := hg 2 _ rfl
  have h3 : DataW.trod enc Tryd.prog W 0 (fun _ => true) true n 59 ((cs.toList.drop 108).take (Tryd.prog.cellsOf 59)) = xs[3]? := hg 3 _ rfl
  rw [hB] at h0
  rw [hR] at h1
  rw [hT] at h2
  rw [hI] at h3
  match xs, hlen with
  | [y0, y1, y2, y3], _ =>
    have hde : d = .agg [y0.1, y1.1, y2.1, y3.1] := (Prod.mk.inj hx).1
    have wt : ∀ (k : Nat) (t : TypeId) (e : DataW H), ([41, 48, 55, 59] : List TypeId)[k]? = some t → [y0.1, y1.1, y2.1, y3.1][k]? = some e → ∀ n ∈ e.weights Tryd.prog t, n ≤ reachBytes := fun k t e h1 h2 n hn => hwt n (by
      rw [hde]
      unfold DataW.weights
      rw [hs]
      exact DataW.weights_mem_each (j := k) (t := t) (d := e) h1 h2 n hn)
    obtain ⟨b, fb, eb⟩ := bid_cells (by rw [List.length_take, List.length_drop]; omega) h0
    obtain ⟨x, fx, ex⟩ := rcpt_cells (by rw [List.length_take, List.length_drop]; omega) h1 (wt 1 _ _ rfl rfl)
    obtain ⟨t, A, c, ft, et, hP, _⟩ := batch_cells (by rw [List.length_take, List.length_drop]; omega) h2 (wt 2 _ _ rfl rfl)
    obtain ⟨i, ei⟩ := item_cells (by rw [List.length_take, List.length_drop]; omega) h3
    refine ⟨b, x, t, A, c, i, fb, fx, ft, ?_, hP⟩
    show Value.agg cs = .agg _
    congr 1
    apply Array.toList_inj.1
    rw [cut_four cs.toList hl, eb, ex, et, ei]
    rfl
end
end Go.Proofs.YtdekcicgiflnbaaDoor
