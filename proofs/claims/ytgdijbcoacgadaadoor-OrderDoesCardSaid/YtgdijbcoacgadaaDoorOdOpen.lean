/- What comes in at layer 19: acts. -/
import Derived.Test.YtgdijbcoacgadaaDoorOdMem
import Derived.Deep.Slices
import Derived.Lib.SmallJoins
namespace Go.Proofs.YtgdijbcoacgadaaDoor
open Go.ChangeShapes Go.WideShapes Go.ChangeAt Go.RowKit Go.Joins Go.Deep
set_option linter.unusedVariables false
set_option linter.unusedSimpArgs false
set_option maxRecDepth 100000

theorem seg_step {cs seg rest : List Value} {o s : Nat} (h1 : (cs.drop o).take s = seg) (h2 : cs.drop (o + s) = rest) : cs.drop o = seg ++ rest := by
  rw [← h1, ← h2, ← List.drop_drop, List.take_append_drop]
theorem str_fits {H : Type} {s : ByteArray} {T : TypeId} {d : DataW H} (hwt : ∀ n ∈ d.weights Tryd.prog T, n ≤ reachBytes) (hm : s.data.toList.length ∈ d.weights Tryd.prog T) : s.size ≤ 140737488351232 := by
  have h6 := hwt _ hm
  have h7 : reachBytes = 140737488351232 := by decide
  have h8 : s.data.toList.length = s.size := rfl
  omega
theorem Rp.cells_length {r : Rp} (h : r.Fits) : r.cells.length = 68 := Rp.cells_len h.prev h.hash
structure Act19 where
  kind : Int
  later : Int
  body : ByteArray
  load : Bool
  r : Rp
def Act19.cells (x : Act19) : List Value := [.int .i64 x.kind] ++ ([.int .i64 x.later] ++ ([.string x.body] ++ ([.bool x.load] ++ (x.r.cells ++ []))))
structure Act19.Fits (x : Act19) : Prop where
  kind : (-9223372036854775808 ≤ x.kind ∧ x.kind ≤ 9223372036854775807)
  later : (-9223372036854775808 ≤ x.later ∧ x.later ≤ 9223372036854775807)
  body : x.body.size ≤ 140737488351232
  load : True
  r : x.r.Fits
theorem Act19.cells_len {x : Act19} (h : x.Fits) : x.cells.length = 72 := by
  unfold Act19.cells
  simp only [List.length_append, List.length_cons, List.length_nil, Rp.cells_length h.r]
section
variable {H : Type} {enc : TypeId × Value → H} {fuel : Nat}
theorem Act19_cells {W : World} {cs : List Value} {x : DataW H × List MemPlace} (hcs : cs.length = 72) (h : DataW.trod enc Tryd.prog W 0 (fun _ => true) true fuel 32 cs = some x)
    (hwt : ∀ n ∈ x.1.weights Tryd.prog 32, n ≤ reachBytes) : ∃ y : Act19, y.Fits ∧ cs = y.cells := by
  obtain ⟨xs, n, _, hx, _, hlen, hg⟩ := DataW.trod_struct Tryd.underlying32 h
  have h0 : DataW.trod enc Tryd.prog W 0 (fun _ => true) true n 3 ((cs.drop 0).take (Tryd.prog.cellsOf 3)) = xs[0]? := hg 0 _ rfl
  rw [show Tryd.prog.cellsOf 3 = 1 by kernel_rfl] at h0
  have h1 : DataW.trod enc Tryd.prog W 0 (fun _ => true) true n 3 ((cs.drop 1).take (Tryd.prog.cellsOf 3)) = xs[1]? := hg 1 _ rfl
  rw [show Tryd.prog.cellsOf 3 = 1 by kernel_rfl] at h1
  have h2 : DataW.trod enc Tryd.prog W 0 (fun _ => true) true n 9 ((cs.drop 2).take (Tryd.prog.cellsOf 9)) = xs[2]? := hg 2 _ rfl
  rw [show Tryd.prog.cellsOf 9 = 1 by kernel_rfl] at h2
  have h3 : DataW.trod enc Tryd.prog W 0 (fun _ => true) true n 4 ((cs.drop 3).take (Tryd.prog.cellsOf 4)) = xs[3]? := hg 3 _ rfl
  rw [show Tryd.prog.cellsOf 4 = 1 by kernel_rfl] at h3
  have h4 : DataW.trod enc Tryd.prog W 0 (fun _ => true) true n 30 ((cs.drop 4).take (Tryd.prog.cellsOf 30)) = xs[4]? := hg 4 _ rfl
  rw [show Tryd.prog.cellsOf 30 = 68 by kernel_rfl] at h4
  match xs, hlen with
  | [y0, y1, y2, y3, y4], _ =>
    have hde : x.1 = .agg [y0.1, y1.1, y2.1, y3.1, y4.1] := by rw [hx]; rfl
    obtain ⟨n0, e0, f0, w0⟩ := DataW.trod_int Tryd.underlying3 h0
    obtain ⟨n1, e1, f1, w1⟩ := DataW.trod_int Tryd.underlying3 h1
    obtain ⟨n2, e2, f2, w2⟩ := DataW.trod_string Tryd.underlying9 h2
    obtain ⟨n3, e3, f3⟩ := DataW.trod_bool Tryd.underlying4 h3
    have hl4 : ((cs.drop 4).take 68).length = 68 := by rw [List.length_take, List.length_drop, hcs]; decide
    obtain ⟨n4, w4, e4⟩ := rcpt_cells hl4 h4 (fun m hm => hwt m (by rw [hde]; unfold DataW.weights; rw [Tryd.underlying32]; exact DataW.weights_mem_each (j := 4) (t := 30) (d := y4.1) rfl rfl m hm))
    refine ⟨⟨n0, n1, n2, n3, n4⟩, ⟨bounds_i64 w0, bounds_i64 w1, str_fits hwt (by rw [hde, f2]; unfold DataW.weights; rw [Tryd.underlying32]; exact DataW.weights_mem_each (j := 2) (t := 9) (d := .lit (.string n2.data.toList)) rfl rfl _ (by simp [DataW.weights])), trivial, w4⟩, ?_⟩
    have e := seg_step (o := 0) (s := 1) e0 (seg_step (o := 1) (s := 1) e1 (seg_step (o := 2) (s := 1) e2 (seg_step (o := 3) (s := 1) e3 (seg_step (o := 4) (s := 68) e4 (List.drop_of_length_le (by rw [hcs]; decide))))))
    rw [List.drop_zero] at e
    exact e
end
/-- things of one size that lie at an address, as a list -/
theorem pick_list {α : Type} (W : World) (a : Addr) (n m sz : Nat) (hnm : n ≤ m) (C : α → List Value) (P : Nat → α → Prop) (hC : ∀ x, ∃ v, (C x)[0]? = some v) (hdef : α)
    (h : ∀ i, i < m → ∃ x : α, (∀ j v, (C x)[j]? = some v → W.cell? ((a.add (i * sz)).add j) = some v) ∧ P i x) :
    ∃ (f : Nat → α) , (∀ i, i < n → P i (f i)) ∧ (0 < n → ∃ b off, a = ⟨b, off, none⟩ ∧ b < W.heap.size ∧ ∀ i, i < n → W.rangeAt b (off + i * sz) (C (f i))) := by
  by_cases hn : n = 0
  · subst hn
    exact ⟨fun _ => hdef, fun i hi => absurd hi (by omega), fun h0 => absurd h0 (by omega)⟩
  · obtain ⟨x0, _⟩ := h 0 (by omega)
    have hch : ∃ f : Nat → α, ∀ i, i < n → (∀ j v, (C (f i))[j]? = some v → W.cell? ((a.add (i * sz)).add j) = some v) ∧ P i (f i) := by
      refine ⟨fun i => if h' : i < n then (h i (by omega)).choose else x0, fun i hi => ?_⟩
      simp only [dif_pos hi]
      exact (h i (by omega)).choose_spec
    obtain ⟨f, hf⟩ := hch
    refine ⟨f, fun i hi => (hf i hi).2, fun h0 => ?_⟩
    obtain ⟨v, hv⟩ := hC (f 0)
    have hc0 := (hf 0 h0).1 0 v hv
    have ez : (a.add (0 * sz)).add 0 = a := by simp [Addr.add]
    rw [ez] at hc0
    have hsp := World.cell?_spot hc0
    have hblt := World.block_lt_of_cell? W a hc0
    obtain ⟨b, off, sp⟩ := a
    subst hsp
    have hadd : ∀ k i, (⟨b, k, none⟩ : Addr).add i = ⟨b, k + i, none⟩ := fun k i => by unfold Addr.add; split <;> simp_all
    refine ⟨b, off, rfl, hblt, fun i hi j v hv => ?_⟩
    have := (hf i hi).1 j v hv
    rwa [hadd, hadd] at this
section
variable {H : Type} {enc : TypeId × Value → H} {W : World} {r : Reach} {b0 : Nat} {v : Value} {d : DataW H} {ps : List MemPlace} {ts : List TypeId} {ds : List (DataW H)} {j : Nat}
theorem open_Act191 (hv : Value.okWide Tryd.prog W r b0 32 v) (h : DataW.Trod enc Tryd.prog W 0 (fun _ => true) true 32 v d ps)
    (hsz : (DataW.weightsEach Tryd.prog ts ds).all (· ≤ reachBytes) = true) (ht : ts[j]? = some 32) (hd : ds[j]? = some d) :
    ∃ y : Act19, y.Fits ∧ v = .agg y.cells.toArray := by
  have hwt : ∀ n ∈ d.weights Tryd.prog 32, n ≤ reachBytes := fun n hn => by
    have := List.all_eq_true.1 hsz _ (DataW.weights_mem_each ht hd n hn)
    simpa using this
  obtain ⟨cs, rfl, hcz⟩ := okWide_struct Tryd.underlying32 hv
  obtain ⟨fuel, hf⟩ := h
  obtain ⟨y, h1, h2⟩ := Act19_cells (cs := cs.toList) (x := (d, ps)) (by rw [Array.length_toList, hcz]; kernel_rfl) hf hwt
  exact ⟨y, h1, by rw [← h2, Array.toArray_toList]⟩
/-- a list of them -/
def Act19sAt (W : World) (B : Nat) (A : Option Addr) (l : List Act19) : Prop :=
  (l ≠ [] → ∃ b off, A = some ⟨b, off, none⟩ ∧ b < B ∧ ∀ i (h : i < l.length), W.rangeAt b (off + i * 72) l[i].cells) ∧ (A = none → l = []) ∧ (∀ x ∈ l, x.Fits) ∧ l.length ≤ 9223372036854775807
theorem Act19sAt.below {W W' : World} {B : Nat} {A : Option Addr} {l : List Act19} (h : Act19sAt W B A l) (hb : Below B W W') : Act19sAt W' B A l :=
  ⟨fun hne => by
    obtain ⟨b, off, h1, h2, h3⟩ := h.1 hne
    exact ⟨b, off, h1, h2, fun i hi => (fun j v hv => by
      have := h3 i hi j v hv
      rw [← this]; exact hb.cell (p := ⟨b, off + i * 72 + j, none⟩) h2)⟩, h.2.1, h.2.2⟩
theorem Act19sAt.mono {W : World} {B B' : Nat} {A : Option Addr} {l : List Act19} (h : Act19sAt W B A l) (hB : B ≤ B') : Act19sAt W B' A l :=
  ⟨fun hne => by
    obtain ⟨b, off, h1, h2, h3⟩ := h.1 hne
    exact ⟨b, off, h1, by omega, h3⟩, h.2⟩
theorem open_Act19s (hv : Value.okWide Tryd.prog W r b0 22 v) (h : DataW.Trod enc Tryd.prog W 0 (fun _ => true) true 22 v d ps)
    (hsz : (DataW.weightsEach Tryd.prog ts ds).all (· ≤ reachBytes) = true) (ht : ts[j]? = some 22) (hd : ds[j]? = some d) :
    ∃ (A : Option Addr) (c : Nat) (l : List Act19), v = .slice A l.length c ∧ l.length ≤ c ∧ Act19sAt W W.heap.size A l := by
  have hwt : ∀ n ∈ d.weights Tryd.prog 22, n ≤ reachBytes := fun n hn => by
    have := List.all_eq_true.1 hsz _ (DataW.weights_mem_each ht hd n hn)
    simpa using this
  obtain ⟨A, n, cap, rfl⟩ := okWide_slice Tryd.underlying22 hv
  obtain ⟨fuel, hf⟩ := h
  have hC : Tryd.prog.cellsOf 32 = 72 := by kernel_rfl
  rcases open_slice Tryd.underlying22 hf with ⟨hcs, hx⟩ | ⟨a, len, cap', m, n', D, Pl, hcs, _, hlc, hcm, hm, hx, hi⟩
  · have hcs' : Value.slice A n cap = .slice none 0 0 := by simpa [Value.cells] using hcs
    injection hcs' with e1 e2 e3
    subst e1 e2 e3
    exact ⟨none, 0, [], rfl, Nat.le_refl _, fun hne => absurd rfl hne, fun _ => rfl, by simp, by simp⟩
  · have hcs' : Value.slice A n cap = .slice (some a) len cap' := by simpa [Value.cells] using hcs
    injection hcs' with e1 e2 e3
    subst e1 e2 e3
    rw [if_pos rfl] at hm
    subst hm
    obtain ⟨rfl, _⟩ := Prod.mk.inj hx
    obtain ⟨f, hf1, hf2⟩ := pick_list W a n m 72 hlc Act19.cells (fun i y => y.Fits) (fun x => ⟨_, rfl⟩) ⟨0, 0, ByteArray.empty, false, Rp.zero⟩ (fun i him => by
      obtain ⟨cs', hc, ht2⟩ := hi i him
      rw [hC] at hc
      obtain ⟨_, hcl, hat⟩ := World.cells?_some hc
      obtain ⟨y, q1, e⟩ := Act19_cells hcl ht2 (fun k hk => hwt k (by
        unfold DataW.weights
        rw [Tryd.underlying22]
        show k ∈ (_ :: (DataW.weightsAll Tryd.prog 32 ((List.range n).map D) ++ DataW.weightsAll Tryd.prog 32 ((List.range (m - n)).map fun j => D (n + j))))
        refine List.mem_cons_of_mem _ ?_
        by_cases hin : i < n
        · exact List.mem_append_left _ (weights_one (List.mem_map.2 ⟨i, List.mem_range.2 hin, rfl⟩) k hk)
        · refine List.mem_append_right _ (weights_one (List.mem_map.2 ⟨i - n, List.mem_range.2 (by omega), ?_⟩) k hk)
          rw [Nat.add_sub_cancel' (by omega)]))
      refine ⟨y, fun j v hv => ?_, q1⟩
      have hv : cs'[j]? = some v := by rw [e]; exact hv
      rw [hat j (by have := (List.getElem?_eq_some_iff.1 hv).1; omega), hv])
    have hmax : m ≤ 9223372036854775807 := by have := hcm; unfold maxLen at this; omega
    refine ⟨some a, m, (List.range n).map f, by simp, by simp; exact hlc, fun hne => ?_, fun e => (by cases e), fun x hx => ?_, by simp; omega⟩
    · have hpos : 0 < n := by
        rcases Nat.eq_zero_or_pos n with h0 | h0
        · subst h0; simp at hne
        · exact h0
      obtain ⟨b, off, e, hb, hr⟩ := hf2 hpos
      refine ⟨b, off, by rw [e], hb, fun i hi2 => ?_⟩
      have hi3 : i < n := by simpa using hi2
      simp only [List.getElem_map, List.getElem_range]
      exact hr i hi3
    · obtain ⟨i, hi1, rfl⟩ := List.mem_map.1 hx
      exact hf1 i (List.mem_range.1 hi1)
end
end Go.Proofs.YtgdijbcoacgadaaDoor
