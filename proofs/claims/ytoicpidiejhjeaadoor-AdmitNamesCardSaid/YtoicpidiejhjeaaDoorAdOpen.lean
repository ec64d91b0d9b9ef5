/- What comes in at layer 17: acts. -/
import Derived.Test.YtoicpidiejhjeaaDoorSlD
import Derived.Deep.Slices
import Derived.Lib.SmallJoins
namespace Go.Proofs.YtoicpidiejhjeaaDoor
open Go.ChangeShapes Go.WideShapes Go.ChangeAt Go.RowKit Go.Joins Go.Deep
set_option linter.unusedVariables false
set_option linter.unusedSimpArgs false
set_option maxRecDepth 100000

theorem seg_step {cs seg rest : List Value} {o s : Nat} (h1 : (cs.drop o).take s = seg) (h2 : cs.drop (o + s) = rest) : cs.drop o = seg ++ rest := by
  rw [← h1, ← h2, ← List.drop_drop, List.take_append_drop]
theorem str_fits {H : Type} {s : ByteArray} {T : TypeId} {d : DataW H} (hwt : ∀ n ∈ d.weights Tryd.prog T, n ≤ reachBytes) (hm : s.data.toList.length ∈ d.weights Tryd.prog T) : s.size ≤ 140737488351232 := by
  have h6 := hwt _ hm
  have h7 : reachBytes = 140737488351232 := by decide
  have h8 : s.data.toList.length = s.size := rfl
  omega
theorem weights_one {H : Type} {P : Program} {e : TypeId} : ∀ {l : List (DataW H)} {d : DataW H}, d ∈ l → ∀ n ∈ d.weights P e, n ∈ DataW.weightsAll P e l
  | x :: l, d, hd, n, hn => by
    unfold DataW.weightsAll
    rcases List.mem_cons.1 hd with rfl | h
    · exact List.mem_append_left _ hn
    · exact List.mem_append_right _ (weights_one h n hn)
section
variable {H : Type} {enc : TypeId × Value → H} {fuel : Nat}
theorem tx_cells {W : World} {cs : List Value} {x : DataW H × List MemPlace} (hcs : cs.length = 72) (h : DataW.trod enc Tryd.prog W 0 (fun _ => true) true fuel 35 cs = some x)
    (hwt : ∀ n ∈ x.1.weights Tryd.prog 35, n ≤ reachBytes) : ∃ y : Tx, y.Ok ∧ cs = y.cells := by
  obtain ⟨xs, n, _, hx, _, hlen, hg⟩ := DataW.trod_struct Tryd.underlying35 h
  have h0 : DataW.trod enc Tryd.prog W 0 (fun _ => true) true n 3 ((cs.drop 0).take (Tryd.prog.cellsOf 3)) = xs[0]? := hg 0 _ rfl
  rw [show Tryd.prog.cellsOf 3 = 1 by kernel_rfl] at h0
  have h1 : DataW.trod enc Tryd.prog W 0 (fun _ => true) true n 3 ((cs.drop 1).take (Tryd.prog.cellsOf 3)) = xs[1]? := hg 1 _ rfl
  rw [show Tryd.prog.cellsOf 3 = 1 by kernel_rfl] at h1
  have h2 : DataW.trod enc Tryd.prog W 0 (fun _ => true) true n 3 ((cs.drop 2).take (Tryd.prog.cellsOf 3)) = xs[2]? := hg 2 _ rfl
  rw [show Tryd.prog.cellsOf 3 = 1 by kernel_rfl] at h2
  have h3 : DataW.trod enc Tryd.prog W 0 (fun _ => true) true n 3 ((cs.drop 3).take (Tryd.prog.cellsOf 3)) = xs[3]? := hg 3 _ rfl
  rw [show Tryd.prog.cellsOf 3 = 1 by kernel_rfl] at h3
  have h4 : DataW.trod enc Tryd.prog W 0 (fun _ => true) true n 9 ((cs.drop 4).take (Tryd.prog.cellsOf 9)) = xs[4]? := hg 4 _ rfl
  rw [show Tryd.prog.cellsOf 9 = 1 by kernel_rfl] at h4
  have h5 : DataW.trod enc Tryd.prog W 0 (fun _ => true) true n 4 ((cs.drop 5).take (Tryd.prog.cellsOf 4)) = xs[5]? := hg 5 _ rfl
  rw [show Tryd.prog.cellsOf 4 = 1 by kernel_rfl] at h5
  have h6 : DataW.trod enc Tryd.prog W 0 (fun _ => true) true n 3 ((cs.drop 6).take (Tryd.prog.cellsOf 3)) = xs[6]? := hg 6 _ rfl
  rw [show Tryd.prog.cellsOf 3 = 1 by kernel_rfl] at h6
  have h7 : DataW.trod enc Tryd.prog W 0 (fun _ => true) true n 3 ((cs.drop 7).take (Tryd.prog.cellsOf 3)) = xs[7]? := hg 7 _ rfl
  rw [show Tryd.prog.cellsOf 3 = 1 by kernel_rfl] at h7
  have h8 : DataW.trod enc Tryd.prog W 0 (fun _ => true) true n 33 ((cs.drop 8).take (Tryd.prog.cellsOf 33)) = xs[8]? := hg 8 _ rfl
  rw [show Tryd.prog.cellsOf 33 = 32 by kernel_rfl] at h8
  have h9 : DataW.trod enc Tryd.prog W 0 (fun _ => true) true n 33 ((cs.drop 40).take (Tryd.prog.cellsOf 33)) = xs[9]? := hg 9 _ rfl
  rw [show Tryd.prog.cellsOf 33 = 32 by kernel_rfl] at h9
  match xs, hlen with
  | [y0, y1, y2, y3, y4, y5, y6, y7, y8, y9], _ =>
    have hde : x.1 = .agg [y0.1, y1.1, y2.1, y3.1, y4.1, y5.1, y6.1, y7.1, y8.1, y9.1] := by rw [hx]; rfl
    obtain ⟨n0, e0, f0, w0⟩ := DataW.trod_int Tryd.underlying3 h0
    obtain ⟨n1, e1, f1, w1⟩ := DataW.trod_int Tryd.underlying3 h1
    obtain ⟨n2, e2, f2, w2⟩ := DataW.trod_int Tryd.underlying3 h2
    obtain ⟨n3, e3, f3, w3⟩ := DataW.trod_int Tryd.underlying3 h3
    obtain ⟨n4, e4, f4, w4⟩ := DataW.trod_string Tryd.underlying9 h4
    obtain ⟨n5, e5, f5⟩ := DataW.trod_bool Tryd.underlying4 h5
    obtain ⟨n6, e6, f6, w6⟩ := DataW.trod_int Tryd.underlying3 h6
    obtain ⟨n7, e7, f7, w7⟩ := DataW.trod_int Tryd.underlying3 h7
    obtain ⟨n8, w8, e8, _⟩ := hash_cells h8
    obtain ⟨n9, w9, e9, _⟩ := hash_cells h9
    refine ⟨⟨n0, n1, n2, n3, n4, n5, n6, n7, n8, n9⟩, ⟨w8, w9, str_fits hwt (by rw [hde, f4]; unfold DataW.weights; rw [Tryd.underlying35]; exact DataW.weights_mem_each (j := 4) (t := 9) (d := .lit (.string n4.data.toList)) rfl rfl _ (by simp [DataW.weights])), bounds_i64 w0, bounds_i64 w1, bounds_i64 w2, bounds_i64 w3, bounds_i64 w6, bounds_i64 w7⟩, ?_⟩
    have e := seg_step (o := 0) (s := 1) e0 (seg_step (o := 1) (s := 1) e1 (seg_step (o := 2) (s := 1) e2 (seg_step (o := 3) (s := 1) e3 (seg_step (o := 4) (s := 1) e4 (seg_step (o := 5) (s := 1) e5 (seg_step (o := 6) (s := 1) e6 (seg_step (o := 7) (s := 1) e7 (seg_step (o := 8) (s := 32) e8 (seg_step (o := 40) (s := 32) e9 (List.drop_of_length_le (by rw [hcs]; decide)))))))))))
    rw [List.drop_zero] at e
    rw [e]
    unfold Tx.cells Tx.head
    simp
end
structure Act17 where
  kind : Int
  s : ByteArray
  tx : Tx
def Act17.cells (x : Act17) : List Value := [.int .i64 x.kind] ++ ([.string x.s] ++ (x.tx.cells ++ []))
structure Act17.Fits (x : Act17) : Prop where
  kind : (-9223372036854775808 ≤ x.kind ∧ x.kind ≤ 9223372036854775807)
  s : x.s.size ≤ 140737488351232
  tx : x.tx.Ok
theorem Act17.cells_len {x : Act17} (h : x.Fits) : x.cells.length = 74 := by
  unfold Act17.cells
  simp only [List.length_append, List.length_cons, List.length_nil, Tx.cells_length h.tx]
section
variable {H : Type} {enc : TypeId × Value → H} {fuel : Nat}
theorem Act17_cells {W : World} {cs : List Value} {x : DataW H × List MemPlace} (hcs : cs.length = 74) (h : DataW.trod enc Tryd.prog W 0 (fun _ => true) true fuel 37 cs = some x)
    (hwt : ∀ n ∈ x.1.weights Tryd.prog 37, n ≤ reachBytes) : ∃ y : Act17, y.Fits ∧ cs = y.cells := by
  obtain ⟨xs, n, _, hx, _, hlen, hg⟩ := DataW.trod_struct Tryd.underlying37 h
  have h0 : DataW.trod enc Tryd.prog W 0 (fun _ => true) true n 3 ((cs.drop 0).take (Tryd.prog.cellsOf 3)) = xs[0]? := hg 0 _ rfl
  rw [show Tryd.prog.cellsOf 3 = 1 by kernel_rfl] at h0
  have h1 : DataW.trod enc Tryd.prog W 0 (fun _ => true) true n 9 ((cs.drop 1).take (Tryd.prog.cellsOf 9)) = xs[1]? := hg 1 _ rfl
  rw [show Tryd.prog.cellsOf 9 = 1 by kernel_rfl] at h1
  have h2 : DataW.trod enc Tryd.prog W 0 (fun _ => true) true n 35 ((cs.drop 2).take (Tryd.prog.cellsOf 35)) = xs[2]? := hg 2 _ rfl
  rw [show Tryd.prog.cellsOf 35 = 72 by kernel_rfl] at h2
  match xs, hlen with
  | [y0, y1, y2], _ =>
    have hde : x.1 = .agg [y0.1, y1.1, y2.1] := by rw [hx]; rfl
    obtain ⟨n0, e0, f0, w0⟩ := DataW.trod_int Tryd.underlying3 h0
    obtain ⟨n1, e1, f1, w1⟩ := DataW.trod_string Tryd.underlying9 h1
    have hl2 : ((cs.drop 2).take 72).length = 72 := by rw [List.length_take, List.length_drop, hcs]; decide
    obtain ⟨n2, w2, e2⟩ := tx_cells hl2 h2 (fun m hm => hwt m (by rw [hde]; unfold DataW.weights; rw [Tryd.underlying37]; exact DataW.weights_mem_each (j := 2) (t := 35) (d := y2.1) rfl rfl m hm))
    refine ⟨⟨n0, n1, n2⟩, ⟨bounds_i64 w0, str_fits hwt (by rw [hde, f1]; unfold DataW.weights; rw [Tryd.underlying37]; exact DataW.weights_mem_each (j := 1) (t := 9) (d := .lit (.string n1.data.toList)) rfl rfl _ (by simp [DataW.weights])), w2⟩, ?_⟩
    have e := seg_step (o := 0) (s := 1) e0 (seg_step (o := 1) (s := 1) e1 (seg_step (o := 2) (s := 72) e2 (List.drop_of_length_le (by rw [hcs]; decide))))
    rw [List.drop_zero] at e
    exact e
end
/-- things of one size that lie at an address, as a list -/
theorem pick_list {α : Type} (W : World) (a : Addr) (n m sz : Nat) (hnm : n ≤ m) (C : α → List Value) (P : Nat → α → Prop) (hC : ∀ x, ∃ v, (C x)[0]? = some v) (hdef : α)
    (h : ∀ i, i < m → ∃ x : α, (∀ j v, (C x)[j]? = some v → W.cell? ((a.add (i * sz)).add j) = some v) ∧ P i x) :
    ∃ (f : Nat → α) , (∀ i, i < n → P i (f i)) ∧ (0 < n → ∃ b off, a = ⟨b, off, none⟩ ∧ b < W.heap.size ∧ ∀ i, i < n → W.rangeAt b (off + i * sz) (C (f i))) := by
  by_cases hn : n = 0
  · subst hn
    exact ⟨fun _ => hdef, fun i hi => absurd hi (by omega), fun h0 => absurd h0 (by omega)⟩
  · obtain ⟨x0, _⟩ := h 0 (by omega)
    have hch : ∃ f : Nat → α, ∀ i, i < n → (∀ j v, (C (f i))[j]? = some v → W.cell? ((a.add (i * sz)).add j) = some v) ∧ P i (f i) := by
      refine ⟨fun i => if h' : i < n then (h i (by omega)).choose else x0, fun i hi => ?_⟩
      simp only [dif_pos hi]
      exact (h i (by omega)).choose_spec
    obtain ⟨f, hf⟩ := hch
    refine ⟨f, fun i hi => (hf i hi).2, fun h0 => ?_⟩
    obtain ⟨v, hv⟩ := hC (f 0)
    have hc0 := (hf 0 h0).1 0 v hv
    have ez : (a.add (0 * sz)).add 0 = a := by simp [Addr.add]
    rw [ez] at hc0
    have hsp := World.cell?_spot hc0
    have hblt := World.block_lt_of_cell? W a hc0
    obtain ⟨b, off, sp⟩ := a
    subst hsp
    have hadd : ∀ k i, (⟨b, k, none⟩ : Addr).add i = ⟨b, k + i, none⟩ := fun k i => by unfold Addr.add; split <;> simp_all
    refine ⟨b, off, rfl, hblt, fun i hi j v hv => ?_⟩
    have := (hf i hi).1 j v hv
    rwa [hadd, hadd] at this
section
variable {H : Type} {enc : TypeId × Value → H} {W : World} {r : Reach} {b0 : Nat} {v : Value} {d : DataW H} {ps : List MemPlace} {ts : List TypeId} {ds : List (DataW H)} {j : Nat}
theorem open_Act171 (hv : Value.okWide Tryd.prog W r b0 37 v) (h : DataW.Trod enc Tryd.prog W 0 (fun _ => true) true 37 v d ps)
    (hsz : (DataW.weightsEach Tryd.prog ts ds).all (· ≤ reachBytes) = true) (ht : ts[j]? = some 37) (hd : ds[j]? = some d) :
    ∃ y : Act17, y.Fits ∧ v = .agg y.cells.toArray := by
  have hwt : ∀ n ∈ d.weights Tryd.prog 37, n ≤ reachBytes := fun n hn => by
    have := List.all_eq_true.1 hsz _ (DataW.weights_mem_each ht hd n hn)
    simpa using this
  obtain ⟨cs, rfl, hcz⟩ := okWide_struct Tryd.underlying37 hv
  obtain ⟨fuel, hf⟩ := h
  obtain ⟨y, h1, h2⟩ := Act17_cells (cs := cs.toList) (x := (d, ps)) (by rw [Array.length_toList, hcz]; kernel_rfl) hf hwt
  exact ⟨y, h1, by rw [← h2, Array.toArray_toList]⟩
/-- a list of them -/
def Act17sAt (W : World) (B : Nat) (A : Option Addr) (l : List Act17) : Prop :=
  (l ≠ [] → ∃ b off, A = some ⟨b, off, none⟩ ∧ b < B ∧ ∀ i (h : i < l.length), W.rangeAt b (off + i * 74) l[i].cells) ∧ (A = none → l = []) ∧ (∀ x ∈ l, x.Fits) ∧ l.length ≤ 9223372036854775807
theorem Act17sAt.below {W W' : World} {B : Nat} {A : Option Addr} {l : List Act17} (h : Act17sAt W B A l) (hb : Below B W W') : Act17sAt W' B A l :=
  ⟨fun hne => by
    obtain ⟨b, off, h1, h2, h3⟩ := h.1 hne
    exact ⟨b, off, h1, h2, fun i hi => (fun j v hv => by
      have := h3 i hi j v hv
      rw [← this]; exact hb.cell (p := ⟨b, off + i * 74 + j, none⟩) h2)⟩, h.2.1, h.2.2⟩
theorem Act17sAt.mono {W : World} {B B' : Nat} {A : Option Addr} {l : List Act17} (h : Act17sAt W B A l) (hB : B ≤ B') : Act17sAt W B' A l :=
  ⟨fun hne => by
    obtain ⟨b, off, h1, h2, h3⟩ := h.1 hne
    exact ⟨b, off, h1, by omega, h3⟩, h.2⟩
theorem open_Act17s (hv : Value.okWide Tryd.prog W r b0 22 v) (h : DataW.Trod enc Tryd.prog W 0 (fun _ => true) true 22 v d ps)
    (hsz : (DataW.weightsEach Tryd.prog ts ds).all (· ≤ reachBytes) = true) (ht : ts[j]? = some 22) (hd : ds[j]? = some d) :
    ∃ (A : Option Addr) (c : Nat) (l : List Act17), v = .slice A l.length c ∧ l.length ≤ c ∧ Act17sAt W W.heap.size A l := by
  have hwt : ∀ n ∈ d.weights Tryd.prog 22, n ≤ reachBytes := fun n hn => by
    have := List.all_eq_true.1 hsz _ (DataW.weights_mem_each ht hd n hn)
    simpa using this
  obtain ⟨A, n, cap, rfl⟩ := okWide_slice Tryd.underlying22 hv
  obtain ⟨fuel, hf⟩ := h
  have hC : Tryd.prog.cellsOf 37 = 74 := by kernel_rfl
  rcases open_slice Tryd.underlying22 hf with ⟨hcs, hx⟩ | ⟨a, len, cap', m, n', D, Pl, hcs, _, hlc, hcm, hm, hx, hi⟩
  · have hcs' : Value.slice A n cap = .slice none 0 0 := by simpa [Value.cells] using hcs
    injection hcs' with e1 e2 e3
    subst e1 e2 e3
    exact ⟨none, 0, [], rfl, Nat.le_refl _, fun hne => absurd rfl hne, fun _ => rfl, by simp, by simp⟩
  · have hcs' : Value.slice A n cap = .slice (some a) len cap' := by simpa [Value.cells] using hcs
    injection hcs' with e1 e2 e3
    subst e1 e2 e3
    rw [if_pos rfl] at hm
    subst hm
    obtain ⟨rfl, _⟩ := Prod.mk.inj hx
    obtain ⟨f, hf1, hf2⟩ := pick_list W a n m 74 hlc Act17.cells (fun i y => y.Fits) (fun x => ⟨_, rfl⟩) ⟨0, ByteArray.empty, Tx.none⟩ (fun i him => by
      obtain ⟨cs', hc, ht2⟩ := hi i him
      rw [hC] at hc
      obtain ⟨_, hcl, hat⟩ := World.cells?_some hc
      obtain ⟨y, q1, e⟩ := Act17_cells hcl ht2 (fun k hk => hwt k (by
        unfold DataW.weights
        rw [Tryd.underlying22]
        show k ∈ (_ :: (DataW.weightsAll Tryd.prog 37 ((List.range n).map D) ++ DataW.weightsAll Tryd.prog 37 ((List.range (m - n)).map fun j => D (n + j))))
        refine List.mem_cons_of_mem _ ?_
        by_cases hin : i < n
        · exact List.mem_append_left _ (weights_one (List.mem_map.2 ⟨i, List.mem_range.2 hin, rfl⟩) k hk)
        · refine List.mem_append_right _ (weights_one (List.mem_map.2 ⟨i - n, List.mem_range.2 (by omega), ?_⟩) k hk)
          rw [Nat.add_sub_cancel' (by omega)]))
      refine ⟨y, fun j v hv => ?_, q1⟩
      have hv : cs'[j]? = some v := by rw [e]; exact hv
      rw [hat j (by have := (List.getElem?_eq_some_iff.1 hv).1; omega), hv])
    have hmax : m ≤ 9223372036854775807 := by have := hcm; unfold maxLen at this; omega
    refine ⟨some a, m, (List.range n).map f, by simp, by simp; exact hlc, fun hne => ?_, fun e => (by cases e), fun x hx => ?_, by simp; omega⟩
    · have hpos : 0 < n := by
        rcases Nat.eq_zero_or_pos n with h0 | h0
        · subst h0; simp at hne
        · exact h0
      obtain ⟨b, off, e, hb, hr⟩ := hf2 hpos
      refine ⟨b, off, by rw [e], hb, fun i hi2 => ?_⟩
      have hi3 : i < n := by simpa using hi2
      simp only [List.getElem_map, List.getElem_range]
      exact hr i hi3
    · obtain ⟨i, hi1, rfl⟩ := List.mem_map.1 hx
      exact hf1 i (List.mem_range.1 hi1)
end
end Go.Proofs.YtoicpidiejhjeaaDoor
