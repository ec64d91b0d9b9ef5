/- What comes in at layer 18. -/
import Derived.Test.YtoicpidiejhjeaaPlMem
import Derived.Deep.Slices
import Derived.Lib.SmallJoins
namespace Go.Proofs.Ytoicpidiejhjeaa
open Go.ChangeShapes Go.WideShapes Go.ChangeAt Go.RowKit Go.Joins Go.Deep
set_option linter.unusedVariables false
set_option linter.unusedSimpArgs false
set_option maxRecDepth 100000

theorem seg_step {cs seg rest : List Value} {o s : Nat} (h1 : (cs.drop o).take s = seg) (h2 : cs.drop (o + s) = rest) : cs.drop o = seg ++ rest := by
  rw [← h1, ← h2, ← List.drop_drop, List.take_append_drop]
theorem str_fits {H : Type} {s : ByteArray} {T : TypeId} {d : DataW H} (hwt : ∀ n ∈ d.weights Try.prog T, n ≤ reachBytes) (hm : s.data.toList.length ∈ d.weights Try.prog T) : s.size ≤ 140737488351232 := by
  have h6 := hwt _ hm
  have h7 : reachBytes = 140737488351232 := by decide
  have h8 : s.data.toList.length = s.size := rfl
  omega
theorem weights_one {H : Type} {P : Program} {e : TypeId} : ∀ {l : List (DataW H)} {d : DataW H}, d ∈ l → ∀ n ∈ d.weights P e, n ∈ DataW.weightsAll P e l
  | x :: l, d, hd, n, hn => by
    unfold DataW.weightsAll
    rcases List.mem_cons.1 hd with rfl | h
    · exact List.mem_append_left _ hn
    · exact List.mem_append_right _ (weights_one h n hn)
section
variable {H : Type} {enc : TypeId × Value → H} {fuel : Nat}
theorem tx_cells {W : World} {cs : List Value} {x : DataW H × List MemPlace} (hcs : cs.length = 72) (h : DataW.trod enc Try.prog W 0 (fun _ => true) true fuel 36 cs = some x)
    (hwt : ∀ n ∈ x.1.weights Try.prog 36, n ≤ reachBytes) : ∃ y : Tx, y.Ok ∧ cs = y.cells := by
  obtain ⟨xs, n, _, hx, _, hlen, hg⟩ := DataW.trod_struct Try.underlying36 h
  have h0 : DataW.trod enc Try.prog W 0 (fun _ => true) true n 3 ((cs.drop 0).take (Try.prog.cellsOf 3)) = xs[0]? := hg 0 _ rfl
  rw [show Try.prog.cellsOf 3 = 1 by kernel_rfl] at h0
  have h1 : DataW.trod enc Try.prog W 0 (fun _ => true) true n 3 ((cs.drop 1).take (Try.prog.cellsOf 3)) = xs[1]? := hg 1 _ rfl
  rw [show Try.prog.cellsOf 3 = 1 by kernel_rfl] at h1
  have h2 : DataW.trod enc Try.prog W 0 (fun _ => true) true n 3 ((cs.drop 2).take (Try.prog.cellsOf 3)) = xs[2]? := hg 2 _ rfl
  rw [show Try.prog.cellsOf 3 = 1 by kernel_rfl] at h2
  have h3 : DataW.trod enc Try.prog W 0 (fun _ => true) true n 3 ((cs.drop 3).take (Try.prog.cellsOf 3)) = xs[3]? := hg 3 _ rfl
  rw [show Try.prog.cellsOf 3 = 1 by kernel_rfl] at h3
  have h4 : DataW.trod enc Try.prog W 0 (fun _ => true) true n 9 ((cs.drop 4).take (Try.prog.cellsOf 9)) = xs[4]? := hg 4 _ rfl
  rw [show Try.prog.cellsOf 9 = 1 by kernel_rfl] at h4
  have h5 : DataW.trod enc Try.prog W 0 (fun _ => true) true n 4 ((cs.drop 5).take (Try.prog.cellsOf 4)) = xs[5]? := hg 5 _ rfl
  rw [show Try.prog.cellsOf 4 = 1 by kernel_rfl] at h5
  have h6 : DataW.trod enc Try.prog W 0 (fun _ => true) true n 3 ((cs.drop 6).take (Try.prog.cellsOf 3)) = xs[6]? := hg 6 _ rfl
  rw [show Try.prog.cellsOf 3 = 1 by kernel_rfl] at h6
  have h7 : DataW.trod enc Try.prog W 0 (fun _ => true) true n 3 ((cs.drop 7).take (Try.prog.cellsOf 3)) = xs[7]? := hg 7 _ rfl
  rw [show Try.prog.cellsOf 3 = 1 by kernel_rfl] at h7
  have h8 : DataW.trod enc Try.prog W 0 (fun _ => true) true n 34 ((cs.drop 8).take (Try.prog.cellsOf 34)) = xs[8]? := hg 8 _ rfl
  rw [show Try.prog.cellsOf 34 = 32 by kernel_rfl] at h8
  have h9 : DataW.trod enc Try.prog W 0 (fun _ => true) true n 34 ((cs.drop 40).take (Try.prog.cellsOf 34)) = xs[9]? := hg 9 _ rfl
  rw [show Try.prog.cellsOf 34 = 32 by kernel_rfl] at h9
  match xs, hlen with
  | [y0, y1, y2, y3, y4, y5, y6, y7, y8, y9], _ =>
    have hde : x.1 = .agg [y0.1, y1.1, y2.1, y3.1, y4.1, y5.1, y6.1, y7.1, y8.1, y9.1] := by rw [hx]; rfl
    obtain ⟨n0, e0, f0, w0⟩ := DataW.trod_int Try.underlying3 h0
    obtain ⟨n1, e1, f1, w1⟩ := DataW.trod_int Try.underlying3 h1
    obtain ⟨n2, e2, f2, w2⟩ := DataW.trod_int Try.underlying3 h2
    obtain ⟨n3, e3, f3, w3⟩ := DataW.trod_int Try.underlying3 h3
    obtain ⟨n4, e4, f4, w4⟩ := DataW.trod_string Try.underlying9 h4
    obtain ⟨n5, e5, f5⟩ := DataW.trod_bool Try.underlying4 h5
    obtain ⟨n6, e6, f6, w6⟩ := DataW.trod_int Try.underlying3 h6
    obtain ⟨n7, e7, f7, w7⟩ := DataW.trod_int Try.underlying3 h7
    obtain ⟨n8, w8, e8, _⟩ := hash_cells h8
    obtain ⟨n9, w9, e9, _⟩ := hash_cells h9
    refine ⟨⟨n0, n1, n2, n3, n4, n5, n6, n7, n8, n9⟩, ⟨w8, w9, str_fits hwt (by rw [hde, f4]; unfold DataW.weights; rw [Try.underlying36]; exact DataW.weights_mem_each (j := 4) (t := 9) (d := .lit (.string n4.data.toList)) rfl rfl _ (by simp [DataW.weights])), bounds_i64 w0, bounds_i64 w1, bounds_i64 w2, bounds_i64 w3, bounds_i64 w6, bounds_i64 w7⟩, ?_⟩
    have e := seg_step (o := 0) (s := 1) e0 (seg_step (o := 1) (s := 1) e1 (seg_step (o := 2) (s := 1) e2 (seg_step (o := 3) (s := 1) e3 (seg_step (o := 4) (s := 1) e4 (seg_step (o := 5) (s := 1) e5 (seg_step (o := 6) (s := 1) e6 (seg_step (o := 7) (s := 1) e7 (seg_step (o := 8) (s := 32) e8 (seg_step (o := 40) (s := 32) e9 (List.drop_of_length_le (by rw [hcs]; decide)))))))))))
    rw [List.drop_zero] at e
    rw [e]
    unfold Tx.cells Tx.head
    simp
end
structure Wq where
  tx : Tx
  ix : Int
  till : Int
  at_ : Int
  place : Int
def Wq.cells (x : Wq) : List Value := x.tx.cells ++ ([.int .i64 x.ix] ++ ([.int .i64 x.till] ++ ([.int .i64 x.at_] ++ ([.int .i64 x.place] ++ []))))
structure Wq.Fits (x : Wq) : Prop where
  tx : x.tx.Ok
  ix : (-9223372036854775808 ≤ x.ix ∧ x.ix ≤ 9223372036854775807)
  till : (-9223372036854775808 ≤ x.till ∧ x.till ≤ 9223372036854775807)
  at_ : (-9223372036854775808 ≤ x.at_ ∧ x.at_ ≤ 9223372036854775807)
  place : (-9223372036854775808 ≤ x.place ∧ x.place ≤ 9223372036854775807)
theorem Wq.cells_len {x : Wq} (h : x.Fits) : x.cells.length = 76 := by
  unfold Wq.cells
  simp only [List.length_append, List.length_cons, List.length_nil, Tx.cells_length h.tx]
section
variable {H : Type} {enc : TypeId × Value → H} {fuel : Nat}
theorem Wq_cells {W : World} {cs : List Value} {x : DataW H × List MemPlace} (hcs : cs.length = 76) (h : DataW.trod enc Try.prog W 0 (fun _ => true) true fuel 38 cs = some x)
    (hwt : ∀ n ∈ x.1.weights Try.prog 38, n ≤ reachBytes) : ∃ y : Wq, y.Fits ∧ cs = y.cells := by
  obtain ⟨xs, n, _, hx, _, hlen, hg⟩ := DataW.trod_struct Try.underlying38 h
  have h0 : DataW.trod enc Try.prog W 0 (fun _ => true) true n 36 ((cs.drop 0).take (Try.prog.cellsOf 36)) = xs[0]? := hg 0 _ rfl
  rw [show Try.prog.cellsOf 36 = 72 by kernel_rfl] at h0
  have h1 : DataW.trod enc Try.prog W 0 (fun _ => true) true n 3 ((cs.drop 72).take (Try.prog.cellsOf 3)) = xs[1]? := hg 1 _ rfl
  rw [show Try.prog.cellsOf 3 = 1 by kernel_rfl] at h1
  have h2 : DataW.trod enc Try.prog W 0 (fun _ => true) true n 3 ((cs.drop 73).take (Try.prog.cellsOf 3)) = xs[2]? := hg 2 _ rfl
  rw [show Try.prog.cellsOf 3 = 1 by kernel_rfl] at h2
  have h3 : DataW.trod enc Try.prog W 0 (fun _ => true) true n 3 ((cs.drop 74).take (Try.prog.cellsOf 3)) = xs[3]? := hg 3 _ rfl
  rw [show Try.prog.cellsOf 3 = 1 by kernel_rfl] at h3
  have h4 : DataW.trod enc Try.prog W 0 (fun _ => true) true n 3 ((cs.drop 75).take (Try.prog.cellsOf 3)) = xs[4]? := hg 4 _ rfl
  rw [show Try.prog.cellsOf 3 = 1 by kernel_rfl] at h4
  match xs, hlen with
  | [y0, y1, y2, y3, y4], _ =>
    have hde : x.1 = .agg [y0.1, y1.1, y2.1, y3.1, y4.1] := by rw [hx]; rfl
    have hl0 : ((cs.drop 0).take 72).length = 72 := by rw [List.length_take, List.length_drop, hcs]; decide
    obtain ⟨n0, w0, e0⟩ := tx_cells hl0 h0 (fun m hm => hwt m (by rw [hde]; unfold DataW.weights; rw [Try.underlying38]; exact DataW.weights_mem_each (j := 0) (t := 36) (d := y0.1) rfl rfl m hm))
    obtain ⟨n1, e1, f1, w1⟩ := DataW.trod_int Try.underlying3 h1
    obtain ⟨n2, e2, f2, w2⟩ := DataW.trod_int Try.underlying3 h2
    obtain ⟨n3, e3, f3, w3⟩ := DataW.trod_int Try.underlying3 h3
    obtain ⟨n4, e4, f4, w4⟩ := DataW.trod_int Try.underlying3 h4
    refine ⟨⟨n0, n1, n2, n3, n4⟩, ⟨w0, bounds_i64 w1, bounds_i64 w2, bounds_i64 w3, bounds_i64 w4⟩, ?_⟩
    have e := seg_step (o := 0) (s := 72) e0 (seg_step (o := 72) (s := 1) e1 (seg_step (o := 73) (s := 1) e2 (seg_step (o := 74) (s := 1) e3 (seg_step (o := 75) (s := 1) e4 (List.drop_of_length_le (by rw [hcs]; decide))))))
    rw [List.drop_zero] at e
    exact e
end
section
variable {H : Type} {enc : TypeId × Value → H} {fuel : Nat}
theorem wait_cells {W : World} {cs : List Value} {x : DataW H × List MemPlace} (hcs : cs.length = 76) (h : DataW.trod enc Try.prog W 0 (fun _ => true) true fuel 38 cs = some x)
    (hwt : ∀ n ∈ x.1.weights Try.prog 38, n ≤ reachBytes) : ∃ y : Wt, y.Ok ∧ cs = y.cells := by
  obtain ⟨y, h1, h2⟩ := Wq_cells hcs h hwt
  exact ⟨⟨y.tx, y.ix, y.till, y.at_, y.place⟩, ⟨h1.tx, h1.ix, h1.till, h1.at_, h1.place⟩, h2⟩
end
section
variable {H : Type} {enc : TypeId × Value → H} {W : World} {r : Reach} {b0 : Nat} {v : Value} {d : DataW H} {ps : List MemPlace} {ts : List TypeId} {ds : List (DataW H)} {j : Nat}
theorem open_wait (hv : Value.okWide Try.prog W r b0 38 v) (h : DataW.Trod enc Try.prog W 0 (fun _ => true) true 38 v d ps)
    (hsz : (DataW.weightsEach Try.prog ts ds).all (· ≤ reachBytes) = true) (ht : ts[j]? = some 38) (hd : ds[j]? = some d) :
    ∃ y : Wt, y.Ok ∧ v = .agg y.cells.toArray := by
  have hwt : ∀ n ∈ d.weights Try.prog 38, n ≤ reachBytes := fun n hn => by
    have := List.all_eq_true.1 hsz _ (DataW.weights_mem_each ht hd n hn)
    simpa using this
  obtain ⟨cs, rfl, hcz⟩ := okWide_struct Try.underlying38 hv
  obtain ⟨fuel, hf⟩ := h
  obtain ⟨y, h1, h2⟩ := wait_cells (cs := cs.toList) (x := (d, ps)) (by rw [Array.length_toList, hcz]; kernel_rfl) hf hwt
  exact ⟨y, h1, by rw [← h2, Array.toArray_toList]⟩
end
structure Come18 where
  tick : Bool
  tx : Tx
  delay : Int
  stay : Int
def Come18.cells (x : Come18) : List Value := [.bool x.tick] ++ (x.tx.cells ++ ([.int .u8 x.delay] ++ ([.int .u8 x.stay] ++ [])))
structure Come18.Fits (x : Come18) : Prop where
  tick : True
  tx : x.tx.Ok
  delay : (0 ≤ x.delay ∧ x.delay ≤ 255)
  stay : (0 ≤ x.stay ∧ x.stay ≤ 255)
theorem Come18.cells_len {x : Come18} (h : x.Fits) : x.cells.length = 75 := by
  unfold Come18.cells
  simp only [List.length_append, List.length_cons, List.length_nil, Tx.cells_length h.tx]
section
variable {H : Type} {enc : TypeId × Value → H} {fuel : Nat}
theorem Come18_cells {W : World} {cs : List Value} {x : DataW H × List MemPlace} (hcs : cs.length = 75) (h : DataW.trod enc Try.prog W 0 (fun _ => true) true fuel 59 cs = some x)
    (hwt : ∀ n ∈ x.1.weights Try.prog 59, n ≤ reachBytes) : ∃ y : Come18, y.Fits ∧ cs = y.cells := by
  obtain ⟨xs, n, _, hx, _, hlen, hg⟩ := DataW.trod_struct Try.underlying59 h
  have h0 : DataW.trod enc Try.prog W 0 (fun _ => true) true n 4 ((cs.drop 0).take (Try.prog.cellsOf 4)) = xs[0]? := hg 0 _ rfl
  rw [show Try.prog.cellsOf 4 = 1 by kernel_rfl] at h0
  have h1 : DataW.trod enc Try.prog W 0 (fun _ => true) true n 36 ((cs.drop 1).take (Try.prog.cellsOf 36)) = xs[1]? := hg 1 _ rfl
  rw [show Try.prog.cellsOf 36 = 72 by kernel_rfl] at h1
  have h2 : DataW.trod enc Try.prog W 0 (fun _ => true) true n 5 ((cs.drop 73).take (Try.prog.cellsOf 5)) = xs[2]? := hg 2 _ rfl
  rw [show Try.prog.cellsOf 5 = 1 by kernel_rfl] at h2
  have h3 : DataW.trod enc Try.prog W 0 (fun _ => true) true n 5 ((cs.drop 74).take (Try.prog.cellsOf 5)) = xs[3]? := hg 3 _ rfl
  rw [show Try.prog.cellsOf 5 = 1 by kernel_rfl] at h3
  match xs, hlen with
  | [y0, y1, y2, y3], _ =>
    have hde : x.1 = .agg [y0.1, y1.1, y2.1, y3.1] := by rw [hx]; rfl
    obtain ⟨n0, e0, f0⟩ := DataW.trod_bool Try.underlying4 h0
    have hl1 : ((cs.drop 1).take 72).length = 72 := by rw [List.length_take, List.length_drop, hcs]; decide
    obtain ⟨n1, w1, e1⟩ := tx_cells hl1 h1 (fun m hm => hwt m (by rw [hde]; unfold DataW.weights; rw [Try.underlying59]; exact DataW.weights_mem_each (j := 1) (t := 36) (d := y1.1) rfl rfl m hm))
    obtain ⟨n2, e2, f2, w2⟩ := DataW.trod_int Try.underlying5 h2
    obtain ⟨n3, e3, f3, w3⟩ := DataW.trod_int Try.underlying5 h3
    refine ⟨⟨n0, n1, n2, n3⟩, ⟨trivial, w1, (by have := w2; simp [Lit.wf, IntKind.min, IntKind.max, IntKind.signed, IntKind.bits] at this; omega), (by have := w3; simp [Lit.wf, IntKind.min, IntKind.max, IntKind.signed, IntKind.bits] at this; omega)⟩, ?_⟩
    have e := seg_step (o := 0) (s := 1) e0 (seg_step (o := 1) (s := 72) e1 (seg_step (o := 73) (s := 1) e2 (seg_step (o := 74) (s := 1) e3 (List.drop_of_length_le (by rw [hcs]; decide)))))
    rw [List.drop_zero] at e
    exact e
end
structure Act18 where
  kind : Int
  n : Int
  w : Wt
def Act18.cells (x : Act18) : List Value := [.int .i64 x.kind] ++ ([.int .i64 x.n] ++ (x.w.cells ++ []))
structure Act18.Fits (x : Act18) : Prop where
  kind : (-9223372036854775808 ≤ x.kind ∧ x.kind ≤ 9223372036854775807)
  n : (-9223372036854775808 ≤ x.n ∧ x.n ≤ 9223372036854775807)
  w : x.w.Ok
theorem Act18.cells_len {x : Act18} (h : x.Fits) : x.cells.length = 78 := by
  unfold Act18.cells
  simp only [List.length_append, List.length_cons, List.length_nil, Wt.cells_len h.w]
section
variable {H : Type} {enc : TypeId × Value → H} {fuel : Nat}
theorem Act18_cells {W : World} {cs : List Value} {x : DataW H × List MemPlace} (hcs : cs.length = 78) (h : DataW.trod enc Try.prog W 0 (fun _ => true) true fuel 40 cs = some x)
    (hwt : ∀ n ∈ x.1.weights Try.prog 40, n ≤ reachBytes) : ∃ y : Act18, y.Fits ∧ cs = y.cells := by
  obtain ⟨xs, n, _, hx, _, hlen, hg⟩ := DataW.trod_struct Try.underlying40 h
  have h0 : DataW.trod enc Try.prog W 0 (fun _ => true) true n 3 ((cs.drop 0).take (Try.prog.cellsOf 3)) = xs[0]? := hg 0 _ rfl
  rw [show Try.prog.cellsOf 3 = 1 by kernel_rfl] at h0
  have h1 : DataW.trod enc Try.prog W 0 (fun _ => true) true n 3 ((cs.drop 1).take (Try.prog.cellsOf 3)) = xs[1]? := hg 1 _ rfl
  rw [show Try.prog.cellsOf 3 = 1 by kernel_rfl] at h1
  have h2 : DataW.trod enc Try.prog W 0 (fun _ => true) true n 38 ((cs.drop 2).take (Try.prog.cellsOf 38)) = xs[2]? := hg 2 _ rfl
  rw [show Try.prog.cellsOf 38 = 76 by kernel_rfl] at h2
  match xs, hlen with
  | [y0, y1, y2], _ =>
    have hde : x.1 = .agg [y0.1, y1.1, y2.1] := by rw [hx]; rfl
    obtain ⟨n0, e0, f0, w0⟩ := DataW.trod_int Try.underlying3 h0
    obtain ⟨n1, e1, f1, w1⟩ := DataW.trod_int Try.underlying3 h1
    have hl2 : ((cs.drop 2).take 76).length = 76 := by rw [List.length_take, List.length_drop, hcs]; decide
    obtain ⟨n2, w2, e2⟩ := wait_cells hl2 h2 (fun m hm => hwt m (by rw [hde]; unfold DataW.weights; rw [Try.underlying40]; exact DataW.weights_mem_each (j := 2) (t := 38) (d := y2.1) rfl rfl m hm))
    refine ⟨⟨n0, n1, n2⟩, ⟨bounds_i64 w0, bounds_i64 w1, w2⟩, ?_⟩
    have e := seg_step (o := 0) (s := 1) e0 (seg_step (o := 1) (s := 1) e1 (seg_step (o := 2) (s := 76) e2 (List.drop_of_length_le (by rw [hcs]; decide))))
    rw [List.drop_zero] at e
    exact e
end
/-- things of one size that lie at an address, as a list -/
theorem pick_list {α : Type} (W : World) (a : Addr) (n m sz : Nat) (hnm : n ≤ m) (C : α → List Value) (P : Nat → α → Prop) (hC : ∀ x, ∃ v, (C x)[0]? = some v) (hdef : α)
    (h : ∀ i, i < m → ∃ x : α, (∀ j v, (C x)[j]? = some v → W.cell? ((a.add (i * sz)).add j) = some v) ∧ P i x) :
    ∃ (f : Nat → α) , (∀ i, i < n → P i (f i)) ∧ (0 < n → ∃ b off, a = ⟨b, off, none⟩ ∧ b < W.heap.size ∧ ∀ i, i < n → W.rangeAt b (off + i * sz) (C (f i))) := by
  by_cases hn : n = 0
  · subst hn
    exact ⟨fun _ => hdef, fun i hi => absurd hi (by omega), fun h0 => absurd h0 (by omega)⟩
  · obtain ⟨x0, _⟩ := h 0 (by omega)
    have hch : ∃ f : Nat → α, ∀ i, i < n → (∀ j v, (C (f i))[j]? = some v → W.cell? ((a.add (i * sz)).add j) = some v) ∧ P i (f i) := by
      refine ⟨fun i => if h' : i < n then (h i (by omega)).choose else x0, fun i hi => ?_⟩
      simp only [dif_pos hi]
      exact (h i (by omega)).choose_spec
    obtain ⟨f, hf⟩ := hch
    refine ⟨f, fun i hi => (hf i hi).2, fun h0 => ?_⟩
    obtain ⟨v, hv⟩ := hC (f 0)
    have hc0 := (hf 0 h0).1 0 v hv
    have ez : (a.add (0 * sz)).add 0 = a := by simp [Addr.add]
    rw [ez] at hc0
    have hsp := World.cell?_spot hc0
    have hblt := World.block_lt_of_cell? W a hc0
    obtain ⟨b, off, sp⟩ := a
    subst hsp
    have hadd : ∀ k i, (⟨b, k, none⟩ : Addr).add i = ⟨b, k + i, none⟩ := fun k i => by unfold Addr.add; split <;> simp_all
    refine ⟨b, off, rfl, hblt, fun i hi j v hv => ?_⟩
    have := (hf i hi).1 j v hv
    rwa [hadd, hadd] at this
section
variable {H : Type} {enc : TypeId × Value → H} {W : World} {r : Reach} {b0 : Nat} {v : Value} {d : DataW H} {ps : List MemPlace} {ts : List TypeId} {ds : List (DataW H)} {j : Nat}
theorem open_Come181 (hv : Value.okWide Try.prog W r b0 59 v) (h : DataW.Trod enc Try.prog W 0 (fun _ => true) true 59 v d ps)
    (hsz : (DataW.weightsEach Try.prog ts ds).all (· ≤ reachBytes) = true) (ht : ts[j]? = some 59) (hd : ds[j]? = some d) :
    ∃ y : Come18, y.Fits ∧ v = .agg y.cells.toArray := by
  have hwt : ∀ n ∈ d.weights Try.prog 59, n ≤ reachBytes := fun n hn => by
    have := List.all_eq_true.1 hsz _ (DataW.weights_mem_each ht hd n hn)
    simpa using this
  obtain ⟨cs, rfl, hcz⟩ := okWide_struct Try.underlying59 hv
  obtain ⟨fuel, hf⟩ := h
  obtain ⟨y, h1, h2⟩ := Come18_cells (cs := cs.toList) (x := (d, ps)) (by rw [Array.length_toList, hcz]; kernel_rfl) hf hwt
  exact ⟨y, h1, by rw [← h2, Array.toArray_toList]⟩
/-- a list of them -/
def Come18sAt (W : World) (B : Nat) (A : Option Addr) (l : List Come18) : Prop :=
  (l ≠ [] → ∃ b off, A = some ⟨b, off, none⟩ ∧ b < B ∧ ∀ i (h : i < l.length), W.rangeAt b (off + i * 75) l[i].cells) ∧ (A = none → l = []) ∧ (∀ x ∈ l, x.Fits) ∧ l.length ≤ 9223372036854775807
theorem Come18sAt.below {W W' : World} {B : Nat} {A : Option Addr} {l : List Come18} (h : Come18sAt W B A l) (hb : Below B W W') : Come18sAt W' B A l :=
  ⟨fun hne => by
    obtain ⟨b, off, h1, h2, h3⟩ := h.1 hne
    exact ⟨b, off, h1, h2, fun i hi => (fun j v hv => by
      have := h3 i hi j v hv
      rw [← this]; exact hb.cell (p := ⟨b, off + i * 75 + j, none⟩) h2)⟩, h.2.1, h.2.2⟩
theorem Come18sAt.mono {W : World} {B B' : Nat} {A : Option Addr} {l : List Come18} (h : Come18sAt W B A l) (hB : B ≤ B') : Come18sAt W B' A l :=
  ⟨fun hne => by
    obtain ⟨b, off, h1, h2, h3⟩ := h.1 hne
    exact ⟨b, off, h1, by omega, h3⟩, h.2⟩
theorem open_Come18s (hv : Value.okWide Try.prog W r b0 52 v) (h : DataW.Trod enc Try.prog W 0 (fun _ => true) true 52 v d ps)
    (hsz : (DataW.weightsEach Try.prog ts ds).all (· ≤ reachBytes) = true) (ht : ts[j]? = some 52) (hd : ds[j]? = some d) :
    ∃ (A : Option Addr) (c : Nat) (l : List Come18), v = .slice A l.length c ∧ l.length ≤ c ∧ Come18sAt W W.heap.size A l := by
  have hwt : ∀ n ∈ d.weights Try.prog 52, n ≤ reachBytes := fun n hn => by
    have := List.all_eq_true.1 hsz _ (DataW.weights_mem_each ht hd n hn)
    simpa using this
  obtain ⟨A, n, cap, rfl⟩ := okWide_slice Try.underlying52 hv
  obtain ⟨fuel, hf⟩ := h
  have hC : Try.prog.cellsOf 59 = 75 := by kernel_rfl
  rcases open_slice Try.underlying52 hf with ⟨hcs, hx⟩ | ⟨a, len, cap', m, n', D, Pl, hcs, _, hlc, hcm, hm, hx, hi⟩
  · have hcs' : Value.slice A n cap = .slice none 0 0 := by simpa [Value.cells] using hcs
    injection hcs' with e1 e2 e3
    subst e1 e2 e3
    exact ⟨none, 0, [], rfl, Nat.le_refl _, fun hne => absurd rfl hne, fun _ => rfl, by simp, by simp⟩
  · have hcs' : Value.slice A n cap = .slice (some a) len cap' := by simpa [Value.cells] using hcs
    injection hcs' with e1 e2 e3
    subst e1 e2 e3
    rw [if_pos rfl] at hm
    subst hm
    obtain ⟨rfl, _⟩ := Prod.mk.inj hx
    obtain ⟨f, hf1, hf2⟩ := pick_list W a n m 75 hlc Come18.cells (fun i y => y.Fits) (fun x => ⟨_, rfl⟩) ⟨false, Tx.none, 0, 0⟩ (fun i him => by
      obtain ⟨cs', hc, ht2⟩ := hi i him
      rw [hC] at hc
      obtain ⟨_, hcl, hat⟩ := World.cells?_some hc
      obtain ⟨y, q1, e⟩ := Come18_cells hcl ht2 (fun k hk => hwt k (by
        unfold DataW.weights
        rw [Try.underlying52]
        show k ∈ (_ :: (DataW.weightsAll Try.prog 59 ((List.range n).map D) ++ DataW.weightsAll Try.prog 59 ((List.range (m - n)).map fun j => D (n + j))))
        refine List.mem_cons_of_mem _ ?_
        by_cases hin : i < n
        · exact List.mem_append_left _ (weights_one (List.mem_map.2 ⟨i, List.mem_range.2 hin, rfl⟩) k hk)
        · refine List.mem_append_right _ (weights_one (List.mem_map.2 ⟨i - n, List.mem_range.2 (by omega), ?_⟩) k hk)
          rw [Nat.add_sub_cancel' (by omega)]))
      refine ⟨y, fun j v hv => ?_, q1⟩
      have hv : cs'[j]? = some v := by rw [e]; exact hv
      rw [hat j (by have := (List.getElem?_eq_some_iff.1 hv).1; omega), hv])
    have hmax : m ≤ 9223372036854775807 := by have := hcm; unfold maxLen at this; omega
    refine ⟨some a, m, (List.range n).map f, by simp, by simp; exact hlc, fun hne => ?_, fun e => (by cases e), fun x hx => ?_, by simp; omega⟩
    · have hpos : 0 < n := by
        rcases Nat.eq_zero_or_pos n with h0 | h0
        · subst h0; simp at hne
        · exact h0
      obtain ⟨b, off, e, hb, hr⟩ := hf2 hpos
      refine ⟨b, off, by rw [e], hb, fun i hi2 => ?_⟩
      have hi3 : i < n := by simpa using hi2
      simp only [List.getElem_map, List.getElem_range]
      exact hr i hi3
    · obtain ⟨i, hi1, rfl⟩ := List.mem_map.1 hx
      exact hf1 i (List.mem_range.1 hi1)
end
section
variable {H : Type} {enc : TypeId × Value → H} {W : World} {r : Reach} {b0 : Nat} {v : Value} {d : DataW H} {ps : List MemPlace} {ts : List TypeId} {ds : List (DataW H)} {j : Nat}
theorem open_Act181 (hv : Value.okWide Try.prog W r b0 40 v) (h : DataW.Trod enc Try.prog W 0 (fun _ => true) true 40 v d ps)
    (hsz : (DataW.weightsEach Try.prog ts ds).all (· ≤ reachBytes) = true) (ht : ts[j]? = some 40) (hd : ds[j]? = some d) :
    ∃ y : Act18, y.Fits ∧ v = .agg y.cells.toArray := by
  have hwt : ∀ n ∈ d.weights Try.prog 40, n ≤ reachBytes := fun n hn => by
    have := List.all_eq_true.1 hsz _ (DataW.weights_mem_each ht hd n hn)
    simpa using this
  obtain ⟨cs, rfl, hcz⟩ := okWide_struct Try.underlying40 hv
  obtain ⟨fuel, hf⟩ := h
  obtain ⟨y, h1, h2⟩ := Act18_cells (cs := cs.toList) (x := (d, ps)) (by rw [Array.length_toList, hcz]; kernel_rfl) hf hwt
  exact ⟨y, h1, by rw [← h2, Array.toArray_toList]⟩
/-- a list of them -/
def Act18sAt (W : World) (B : Nat) (A : Option Addr) (l : List Act18) : Prop :=
  (l ≠ [] → ∃ b off, A = some ⟨b, off, none⟩ ∧ b < B ∧ ∀ i (h : i < l.length), W.rangeAt b (off + i * 78) l[i].cells) ∧ (A = none → l = []) ∧ (∀ x ∈ l, x.Fits) ∧ l.length ≤ 9223372036854775807
theorem Act18sAt.below {W W' : World} {B : Nat} {A : Option Addr} {l : List Act18} (h : Act18sAt W B A l) (hb : Below B W W') : Act18sAt W' B A l :=
  ⟨fun hne => by
    obtain ⟨b, off, h1, h2, h3⟩ := h.1 hne
    exact ⟨b, off, h1, h2, fun i hi => (fun j v hv => by
      have := h3 i hi j v hv
      rw [← this]; exact hb.cell (p := ⟨b, off + i * 78 + j, none⟩) h2)⟩, h.2.1, h.2.2⟩
theorem Act18sAt.mono {W : World} {B B' : Nat} {A : Option Addr} {l : List Act18} (h : Act18sAt W B A l) (hB : B ≤ B') : Act18sAt W B' A l :=
  ⟨fun hne => by
    obtain ⟨b, off, h1, h2, h3⟩ := h.1 hne
    exact ⟨b, off, h1, by omega, h3⟩, h.2⟩
theorem open_Act18s (hv : Value.okWide Try.prog W r b0 22 v) (h : DataW.Trod enc Try.prog W 0 (fun _ => true) true 22 v d ps)
    (hsz : (DataW.weightsEach Try.prog ts ds).all (· ≤ reachBytes) = true) (ht : ts[j]? = some 22) (hd : ds[j]? = some d) :
    ∃ (A : Option Addr) (c : Nat) (l : List Act18), v = .slice A l.length c ∧ l.length ≤ c ∧ Act18sAt W W.heap.size A l := by
  have hwt : ∀ n ∈ d.weights Try.prog 22, n ≤ reachBytes := fun n hn => by
    have := List.all_eq_true.1 hsz _ (DataW.weights_mem_each ht hd n hn)
    simpa using this
  obtain ⟨A, n, cap, rfl⟩ := okWide_slice Try.underlying22 hv
  obtain ⟨fuel, hf⟩ := h
  have hC : Try.prog.cellsOf 40 = 78 := by kernel_rfl
  rcases open_slice Try.underlying22 hf with ⟨hcs, hx⟩ | ⟨a, len, cap', m, n', D, Pl, hcs, _, hlc, hcm, hm, hx, hi⟩
  · have hcs' : Value.slice A n cap = .slice none 0 0 := by simpa [Value.cells] using hcs
    injection hcs' with e1 e2 e3
    subst e1 e2 e3
    exact ⟨none, 0, [], rfl, Nat.le_refl _, fun hne => absurd rfl hne, fun _ => rfl, by simp, by simp⟩
  · have hcs' : Value.slice A n cap = .slice (some a) len cap' := by simpa [Value.cells] using hcs
    injection hcs' with e1 e2 e3
    subst e1 e2 e3
    rw [if_pos rfl] at hm
    subst hm
    obtain ⟨rfl, _⟩ := Prod.mk.inj hx
    obtain ⟨f, hf1, hf2⟩ := pick_list W a n m 78 hlc Act18.cells (fun i y => y.Fits) (fun x => ⟨_, rfl⟩) ⟨0, 0, Wt.none⟩ (fun i him => by
      obtain ⟨cs', hc, ht2⟩ := hi i him
      rw [hC] at hc
      obtain ⟨_, hcl, hat⟩ := World.cells?_some hc
      obtain ⟨y, q1, e⟩ := Act18_cells hcl ht2 (fun k hk => hwt k (by
        unfold DataW.weights
        rw [Try.underlying22]
        show k ∈ (_ :: (DataW.weightsAll Try.prog 40 ((List.range n).map D) ++ DataW.weightsAll Try.prog 40 ((List.range (m - n)).map fun j => D (n + j))))
        refine List.mem_cons_of_mem _ ?_
        by_cases hin : i < n
        · exact List.mem_append_left _ (weights_one (List.mem_map.2 ⟨i, List.mem_range.2 hin, rfl⟩) k hk)
        · refine List.mem_append_right _ (weights_one (List.mem_map.2 ⟨i - n, List.mem_range.2 (by omega), ?_⟩) k hk)
          rw [Nat.add_sub_cancel' (by omega)]))
      refine ⟨y, fun j v hv => ?_, q1⟩
      have hv : cs'[j]? = some v := by rw [e]; exact hv
      rw [hat j (by have := (List.getElem?_eq_some_iff.1 hv).1; omega), hv])
    have hmax : m ≤ 9223372036854775807 := by have := hcm; unfold maxLen at this; omega
    refine ⟨some a, m, (List.range n).map f, by simp, by simp; exact hlc, fun hne => ?_, fun e => (by cases e), fun x hx => ?_, by simp; omega⟩
    · have hpos : 0 < n := by
        rcases Nat.eq_zero_or_pos n with h0 | h0
        · subst h0; simp at hne
        · exact h0
      obtain ⟨b, off, e, hb, hr⟩ := hf2 hpos
      refine ⟨b, off, by rw [e], hb, fun i hi2 => ?_⟩
      have hi3 : i < n := by simpa using hi2
      simp only [List.getElem_map, List.getElem_range]
      exact hr i hi3
    · obtain ⟨i, hi1, rfl⟩ := List.mem_map.1 hx
      exact hf1 i (List.mem_range.1 hi1)
end
end Go.Proofs.Ytoicpidiejhjeaa
