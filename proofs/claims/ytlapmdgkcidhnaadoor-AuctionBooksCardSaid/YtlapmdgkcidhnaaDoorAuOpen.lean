/- What comes in at layer 15: cases, acts. -/
import Derived.Test.YtlapmdgkcidhnaaDoorAuAwk
import Derived.Deep.Slices
import Derived.Lib.SmallJoins
namespace Go.Proofs.YtlapmdgkcidhnaaDoor
open Go.ChangeShapes Go.WideShapes Go.ChangeAt Go.RowKit Go.Joins Go.Deep
set_option linter.unusedVariables false
set_option linter.unusedSimpArgs false
set_option maxRecDepth 100000

theorem seg_step {cs seg rest : List Value} {o s : Nat} (h1 : (cs.drop o).take s = seg) (h2 : cs.drop (o + s) = rest) : cs.drop o = seg ++ rest := by
  rw [← h1, ← h2, ← List.drop_drop, List.take_append_drop]
theorem str_fits {H : Type} {s : ByteArray} {T : TypeId} {d : DataW H} (hwt : ∀ n ∈ d.weights Tryd.prog T, n ≤ reachBytes) (hm : s.data.toList.length ∈ d.weights Tryd.prog T) : s.size ≤ 140737488351232 := by
  have h6 := hwt _ hm
  have h7 : reachBytes = 140737488351232 := by decide
  have h8 : s.data.toList.length = s.size := rfl
  omega
theorem Bd.cells_length {b : Bd} (h : b.Fits) : b.cells.length = 36 := Bd.cells_len h.tag
theorem four_cells15 {a b c e : Value} : ∀ (l : List Value), l.length = 4 → (l.drop 0).take 1 = [a] → (l.drop 1).take 1 = [b] → (l.drop 2).take 1 = [c] → (l.drop 3).take 1 = [e] → l = [a, b, c, e]
  | [x, y, z, u], _, h0, h1, h2, h3 => by
    simp at h0 h1 h2 h3
    rw [h0, h1, h2, h3]
  | [], hl, _, _, _, _ => by simp at hl
  | [_], hl, _, _, _, _ => by simp at hl
  | [_, _], hl, _, _, _, _ => by simp at hl
  | [_, _, _], hl, _, _, _, _ => by simp at hl
  | _ :: _ :: _ :: _ :: _ :: _, hl, _, _, _, _ => by simp at hl
/-- things of one size that lie at an address, as a list -/
theorem pick_list {α : Type} (W : World) (a : Addr) (n m sz : Nat) (hnm : n ≤ m) (C : α → List Value) (P : Nat → α → Prop) (hC : ∀ x, ∃ v, (C x)[0]? = some v) (hdef : α)
    (h : ∀ i, i < m → ∃ x : α, (∀ j v, (C x)[j]? = some v → W.cell? ((a.add (i * sz)).add j) = some v) ∧ P i x) :
    ∃ (f : Nat → α) , (∀ i, i < n → P i (f i)) ∧ (0 < n → ∃ b off, a = ⟨b, off, none⟩ ∧ b < W.heap.size ∧ ∀ i, i < n → W.rangeAt b (off + i * sz) (C (f i))) := by
  by_cases hn : n = 0
  · subst hn
    exact ⟨fun _ => hdef, fun i hi => absurd hi (by omega), fun h0 => absurd h0 (by omega)⟩
  · obtain ⟨x0, _⟩ := h 0 (by omega)
    have hch : ∃ f : Nat → α, ∀ i, i < n → (∀ j v, (C (f i))[j]? = some v → W.cell? ((a.add (i * sz)).add j) = some v) ∧ P i (f i) := by
      refine ⟨fun i => if h' : i < n then (h i (by omega)).choose else x0, fun i hi => ?_⟩
      simp only [dif_pos hi]
      exact (h i (by omega)).choose_spec
    obtain ⟨f, hf⟩ := hch
    refine ⟨f, fun i hi => (hf i hi).2, fun h0 => ?_⟩
    obtain ⟨v, hv⟩ := hC (f 0)
    have hc0 := (hf 0 h0).1 0 v hv
    have ez : (a.add (0 * sz)).add 0 = a := by simp [Addr.add]
    rw [ez] at hc0
    have hsp := World.cell?_spot hc0
    have hblt := World.block_lt_of_cell? W a hc0
    obtain ⟨b, off, sp⟩ := a
    subst hsp
    have hadd : ∀ k i, (⟨b, k, none⟩ : Addr).add i = ⟨b, k + i, none⟩ := fun k i => by unfold Addr.add; split <;> simp_all
    refine ⟨b, off, rfl, hblt, fun i hi j v hv => ?_⟩
    have := (hf i hi).1 j v hv
    rwa [hadd, hadd] at this
section
variable {H : Type} {enc : TypeId × Value → H} {fuel : Nat}
/-- bids that a slice reads as -/
theorem bds_cells {W : World} {A : Option Addr} {n cap : Nat} {x : DataW H × List MemPlace} (h : DataW.trod enc Tryd.prog W 0 (fun _ => true) true fuel 22 [.slice A n cap] = some x) :
    ∃ l : List Bd, l.length = n ∧ BdsIn W W.heap.size A l ∧ (∀ b ∈ l, b.Fits) ∧ n ≤ cap ∧ l.length ≤ 9223372036854775807 ∧ (A = none → l = []) := by
  have hC : Tryd.prog.cellsOf 30 = 36 := by kernel_rfl
  rcases open_slice Tryd.underlying22 h with ⟨hcs, hx⟩ | ⟨a, len, cap', m, n', D, Pl, hcs, _, hlc, hcm, hm, hx, hi⟩
  · have hcs' : Value.slice A n cap = .slice none 0 0 := by injection hcs
    injection hcs' with e1 e2 e3
    subst e1 e2 e3
    exact ⟨[], rfl, fun hne => absurd rfl hne, by simp, Nat.le_refl _, by simp, fun _ => rfl⟩
  · have hcs' : Value.slice A n cap = .slice (some a) len cap' := by injection hcs
    injection hcs' with e1 e2 e3
    subst e1 e2 e3
    rw [if_pos rfl] at hm
    subst hm
    obtain ⟨f, hf1, hf2⟩ := pick_list W a n m 36 hlc Bd.cells (fun _ b => b.Fits) (fun x => ⟨_, rfl⟩) Bd.zero (fun i him => by
      obtain ⟨cs', hc, ht⟩ := hi i him
      rw [hC] at hc
      obtain ⟨_, hcl, hat⟩ := World.cells?_some hc
      obtain ⟨b, hb, e⟩ := bid_cells hcl ht
      refine ⟨b, fun j v hv => ?_, hb⟩
      have hv : cs'[j]? = some v := by rw [e]; exact hv
      rw [hat j (by have := (List.getElem?_eq_some_iff.1 hv).1; omega), hv])
    have hmax : m ≤ 9223372036854775807 := by have := hcm; unfold maxLen at this; omega
    refine ⟨(List.range n).map f, by simp, fun hne => ?_, fun b hb => ?_, hlc, by simp; omega, fun e => by cases e⟩
    · have hpos : 0 < n := by
        rcases Nat.eq_zero_or_pos n with h0 | h0
        · subst h0; simp at hne
        · exact h0
      obtain ⟨b, off, e, hb, hr⟩ := hf2 hpos
      refine ⟨b, off, by rw [e], hb, fun i hi2 => ?_⟩
      have hi3 : i < n := by simpa using hi2
      simp only [List.getElem_map, List.getElem_range]
      exact hr i hi3
    · obtain ⟨i, hi1, rfl⟩ := List.mem_map.1 hb
      exact hf1 i (List.mem_range.1 hi1)
/-- numbers that a slice reads as -/
theorem fns_cells {W : World} {A : Option Addr} {n cap : Nat} {x : DataW H × List MemPlace} (h : DataW.trod enc Tryd.prog W 0 (fun _ => true) true fuel 23 [.slice A n cap] = some x) :
    ∃ F : List Int, F.length = n ∧ FnIn W W.heap.size A F ∧ F.length ≤ 9223372036854775807 := by
  have hC : Tryd.prog.cellsOf 3 = 1 := by kernel_rfl
  rcases open_slice Tryd.underlying23 h with ⟨hcs, hx⟩ | ⟨a, len, cap', m, n', D, Pl, hcs, _, hlc, hcm, hm, hx, hi⟩
  · have hcs' : Value.slice A n cap = .slice none 0 0 := by injection hcs
    injection hcs' with e1 e2 e3
    subst e1 e2 e3
    exact ⟨[], rfl, fun hne => absurd rfl hne, by simp⟩
  · have hcs' : Value.slice A n cap = .slice (some a) len cap' := by injection hcs
    injection hcs' with e1 e2 e3
    subst e1 e2 e3
    rw [if_pos rfl] at hm
    subst hm
    obtain ⟨f, hf1, hf2⟩ := pick_list W a n m 1 hlc (fun x : Int => [Value.int .i64 x]) (fun _ _ => True) (fun x => ⟨_, rfl⟩) 0 (fun i him => by
      obtain ⟨cs', hc, ht⟩ := hi i him
      rw [hC] at hc
      obtain ⟨_, hcl, hat⟩ := World.cells?_some hc
      obtain ⟨n0, e0, _, _⟩ := DataW.trod_int Tryd.underlying3 ht
      refine ⟨n0, fun j v hv => ?_, trivial⟩
      have hv : cs'[j]? = some v := by rw [e0]; exact hv
      rw [hat j (by have := (List.getElem?_eq_some_iff.1 hv).1; omega), hv])
    have hmax : m ≤ 9223372036854775807 := by have := hcm; unfold maxLen at this; omega
    refine ⟨(List.range n).map f, by simp, fun hne => ?_, by simp; omega⟩
    have hpos : 0 < n := by
      rcases Nat.eq_zero_or_pos n with h0 | h0
      · subst h0; simp at hne
      · exact h0
    obtain ⟨b, off, e, hb, hr⟩ := hf2 hpos
    refine ⟨b, off, by rw [e], hb, fun i hi2 => ?_⟩
    have hi3 : i < n := by simpa using hi2
    have := hr i hi3 0 _ rfl
    rw [Nat.mul_one, Nat.add_zero] at this
    rw [this, List.getD_eq_getElem?_getD]
    simp [hi3]
end
section
variable {H : Type} {enc : TypeId × Value → H} {W : World} {r : Reach} {b0 : Nat} {v : Value} {d : DataW H} {ps : List MemPlace}
/-- a case: bids, funds, a round and a floor -/
structure CaseIn (W : World) (A : Option Addr) (c : Nat) (l : List Bd) (A2 : Option Addr) (F : List Int) (rd fl : Int) : Prop where
  bids : BdsIn W W.heap.size A l
  fits : ∀ b ∈ l, b.Fits
  cap : l.length ≤ c
  len : l.length ≤ 9223372036854775807
  funds : FnIn W W.heap.size A2 F
  flen : F.length ≤ 9223372036854775807
  round : Tx.fits rd
  floor : Tx.fits fl
theorem open_case15 (hv : Value.okWide Tryd.prog W r b0 25 v) (h : DataW.Trod enc Tryd.prog W 0 (fun _ => true) true 25 v d ps) :
    ∃ (A : Option Addr) (c : Nat) (l : List Bd) (A2 : Option Addr) (c2 : Nat) (F : List Int) (rd fl : Int), v = .agg #[.slice A l.length c, .slice A2 F.length c2, .int .i64 rd, .int .i64 fl] ∧ CaseIn W A c l A2 F rd fl := by
  have hs := Tryd.underlying25
  obtain ⟨cs, rfl, hcz⟩ := okWide_struct hs hv
  obtain ⟨fuel, hf⟩ := h
  have hc : Tryd.prog.cellsOf 25 = 4 := by kernel_rfl
  have hl : cs.toList.length = 4 := by rw [Array.length_toList, hcz, hc]
  obtain ⟨xs, n, _, hx, _, hlen, hg⟩ := DataW.trod_struct hs hf
  have h0 : DataW.trod enc Tryd.prog W 0 (fun _ => true) true n 22 ((cs.toList.drop 0).take (Tryd.prog.cellsOf 22)) = xs[0]? := hg 0 _ rfl
  have h1 : DataW.trod enc Tryd.prog W 0 (fun _ => true) true n 23 ((cs.toList.drop 1).take (Tryd.prog.cellsOf 23)) = xs[1]? := hg 1 _ rfl
  have h2 : DataW.trod enc Tryd.prog W 0 (fun _ => true) true n 3 ((cs.toList.drop 2).take (Tryd.prog.cellsOf 3)) = xs[2]? := hg 2 _ rfl
  have h3 : DataW.trod enc Tryd.prog W 0 (fun _ => true) true n 3 ((cs.toList.drop 3).take (Tryd.prog.cellsOf 3)) = xs[3]? := hg 3 _ rfl
  rw [show Tryd.prog.cellsOf 22 = 1 by kernel_rfl] at h0
  rw [show Tryd.prog.cellsOf 23 = 1 by kernel_rfl] at h1
  rw [cellsI] at h2 h3
  match xs, hlen with
  | [y0, y1, y2, y3], _ =>
    obtain ⟨n2, e2, f2, w2⟩ := DataW.trod_int Tryd.underlying3 h2
    obtain ⟨n3, e3, f3, w3⟩ := DataW.trod_int Tryd.underlying3 h3
    have e0 : ∃ A k c, (cs.toList.drop 0).take 1 = [.slice A k c] := by
      rcases open_slice Tryd.underlying22 h0 with ⟨e, _⟩ | ⟨_, _, _, _, _, _, _, e, _⟩
      · exact ⟨_, _, _, e⟩
      · exact ⟨_, _, _, e⟩
    obtain ⟨A, k, c, e0⟩ := e0
    have e1 : ∃ A k c, (cs.toList.drop 1).take 1 = [.slice A k c] := by
      rcases open_slice Tryd.underlying23 h1 with ⟨e, _⟩ | ⟨_, _, _, _, _, _, _, e, _⟩
      · exact ⟨_, _, _, e⟩
      · exact ⟨_, _, _, e⟩
    obtain ⟨A2, k2, c2, e1⟩ := e1
    rw [e0] at h0
    rw [e1] at h1
    obtain ⟨l, hk, hB, hfit, hcap, hlm, _⟩ := bds_cells h0
    obtain ⟨F, hk2, hF, hFm⟩ := fns_cells h1
    subst hk hk2
    refine ⟨A, c, l, A2, c2, F, n2, n3, ?_, ⟨hB, hfit, hcap, hlm, hF, hFm, bounds_i64 w2, bounds_i64 w3⟩⟩
    show Value.agg cs = .agg _
    congr 1
    exact Array.toList_inj.1 (four_cells15 cs.toList hl e0 e1 e2 e3)
end
structure Act15 where
  kind : Int
  now : Int
  n : Int
  bid : Bd
def Act15.cells (x : Act15) : List Value := [.int .i64 x.kind] ++ ([.int .i64 x.now] ++ ([.int .i64 x.n] ++ (x.bid.cells ++ [])))
structure Act15.Fits (x : Act15) : Prop where
  kind : (-9223372036854775808 ≤ x.kind ∧ x.kind ≤ 9223372036854775807)
  now : (-9223372036854775808 ≤ x.now ∧ x.now ≤ 9223372036854775807)
  n : (-9223372036854775808 ≤ x.n ∧ x.n ≤ 9223372036854775807)
  bid : x.bid.Fits
theorem Act15.cells_len {x : Act15} (h : x.Fits) : x.cells.length = 39 := by
  unfold Act15.cells
  simp only [List.length_append, List.length_cons, List.length_nil, Bd.cells_length h.bid]
section
variable {H : Type} {enc : TypeId × Value → H} {fuel : Nat}
theorem Act15_cells {W : World} {cs : List Value} {x : DataW H × List MemPlace} (hcs : cs.length = 39) (h : DataW.trod enc Tryd.prog W 0 (fun _ => true) true fuel 53 cs = some x)
    (hwt : ∀ n ∈ x.1.weights Tryd.prog 53, n ≤ reachBytes) : ∃ y : Act15, y.Fits ∧ cs = y.cells := by
  obtain ⟨xs, n, _, hx, _, hlen, hg⟩ := DataW.trod_struct Tryd.underlying53 h
  have h0 : DataW.trod enc Tryd.prog W 0 (fun _ => true) true n 3 ((cs.drop 0).take (Tryd.prog.cellsOf 3)) = xs[0]? := hg 0 _ rfl
  rw [show Tryd.prog.cellsOf 3 = 1 by kernel_rfl] at h0
  have h1 : DataW.trod enc Tryd.prog W 0 (fun _ => true) true n 3 ((cs.drop 1).take (Tryd.prog.cellsOf 3)) = xs[1]? := hg 1 _ rfl
  rw [show Tryd.prog.cellsOf 3 = 1 by kernel_rfl] at h1
  have h2 : DataW.trod enc Tryd.prog W 0 (fun _ => true) true n 3 ((cs.drop 2).take (Tryd.prog.cellsOf 3)) = xs[2]? := hg 2 _ rfl
  rw [show Tryd.prog.cellsOf 3 = 1 by kernel_rfl] at h2
  have h3 : DataW.trod enc Tryd.prog W 0 (fun _ => true) true n 30 ((cs.drop 3).take (Tryd.prog.cellsOf 30)) = xs[3]? := hg 3 _ rfl
  rw [show Tryd.prog.cellsOf 30 = 36 by kernel_rfl] at h3
  match xs, hlen with
  | [y0, y1, y2, y3], _ =>
    have hde : x.1 = .agg [y0.1, y1.1, y2.1, y3.1] := by rw [hx]; rfl
    obtain ⟨n0, e0, f0, w0⟩ := DataW.trod_int Tryd.underlying3 h0
    obtain ⟨n1, e1, f1, w1⟩ := DataW.trod_int Tryd.underlying3 h1
    obtain ⟨n2, e2, f2, w2⟩ := DataW.trod_int Tryd.underlying3 h2
    have hl3 : ((cs.drop 3).take 36).length = 36 := by rw [List.length_take, List.length_drop, hcs]; decide
    obtain ⟨n3, w3, e3⟩ := bid_cells hl3 h3
    refine ⟨⟨n0, n1, n2, n3⟩, ⟨bounds_i64 w0, bounds_i64 w1, bounds_i64 w2, w3⟩, ?_⟩
    have e := seg_step (o := 0) (s := 1) e0 (seg_step (o := 1) (s := 1) e1 (seg_step (o := 2) (s := 1) e2 (seg_step (o := 3) (s := 36) e3 (List.drop_of_length_le (by rw [hcs]; decide)))))
    rw [List.drop_zero] at e
    exact e
end
section
variable {H : Type} {enc : TypeId × Value → H} {W : World} {r : Reach} {b0 : Nat} {v : Value} {d : DataW H} {ps : List MemPlace} {ts : List TypeId} {ds : List (DataW H)} {j : Nat}
theorem open_Act151 (hv : Value.okWide Tryd.prog W r b0 53 v) (h : DataW.Trod enc Tryd.prog W 0 (fun _ => true) true 53 v d ps)
    (hsz : (DataW.weightsEach Tryd.prog ts ds).all (· ≤ reachBytes) = true) (ht : ts[j]? = some 53) (hd : ds[j]? = some d) :
    ∃ y : Act15, y.Fits ∧ v = .agg y.cells.toArray := by
  have hwt : ∀ n ∈ d.weights Tryd.prog 53, n ≤ reachBytes := fun n hn => by
    have := List.all_eq_true.1 hsz _ (DataW.weights_mem_each ht hd n hn)
    simpa using this
  obtain ⟨cs, rfl, hcz⟩ := okWide_struct Tryd.underlying53 hv
  obtain ⟨fuel, hf⟩ := h
  obtain ⟨y, h1, h2⟩ := Act15_cells (cs := cs.toList) (x := (d, ps)) (by rw [Array.length_toList, hcz]; kernel_rfl) hf hwt
  exact ⟨y, h1, by rw [← h2, Array.toArray_toList]⟩
/-- a list of them -/
def Act15sAt (W : World) (B : Nat) (A : Option Addr) (l : List Act15) : Prop :=
  (l ≠ [] → ∃ b off, A = some ⟨b, off, none⟩ ∧ b < B ∧ ∀ i (h : i < l.length), W.rangeAt b (off + i * 39) l[i].cells) ∧ (A = none → l = []) ∧ (∀ x ∈ l, x.Fits) ∧ l.length ≤ 9223372036854775807
theorem Act15sAt.below {W W' : World} {B : Nat} {A : Option Addr} {l : List Act15} (h : Act15sAt W B A l) (hb : Below B W W') : Act15sAt W' B A l :=
  ⟨fun hne => by
    obtain ⟨b, off, h1, h2, h3⟩ := h.1 hne
    exact ⟨b, off, h1, h2, fun i hi => (fun j v hv => by
      have := h3 i hi j v hv
      rw [← this]; exact hb.cell (p := ⟨b, off + i * 39 + j, none⟩) h2)⟩, h.2.1, h.2.2⟩
theorem Act15sAt.mono {W : World} {B B' : Nat} {A : Option Addr} {l : List Act15} (h : Act15sAt W B A l) (hB : B ≤ B') : Act15sAt W B' A l :=
  ⟨fun hne => by
    obtain ⟨b, off, h1, h2, h3⟩ := h.1 hne
    exact ⟨b, off, h1, by omega, h3⟩, h.2⟩
theorem open_Act15s (hv : Value.okWide Tryd.prog W r b0 40 v) (h : DataW.Trod enc Tryd.prog W 0 (fun _ => true) true 40 v d ps)
    (hsz : (DataW.weightsEach Tryd.prog ts ds).all (· ≤ reachBytes) = true) (ht : ts[j]? = some 40) (hd : ds[j]? = some d) :
    ∃ (A : Option Addr) (c : Nat) (l : List Act15), v = .slice A l.length c ∧ l.length ≤ c ∧ Act15sAt W W.heap.size A l := by
  have hwt : ∀ n ∈ d.weights Tryd.prog 40, n ≤ reachBytes := fun n hn => by
    have := List.all_eq_true.1 hsz _ (DataW.weights_mem_each ht hd n hn)
    simpa using this
  obtain ⟨A, n, cap, rfl⟩ := okWide_slice Tryd.underlying40 hv
  obtain ⟨fuel, hf⟩ := h
  have hC : Tryd.prog.cellsOf 53 = 39 := by kernel_rfl
  rcases open_slice Tryd.underlying40 hf with ⟨hcs, hx⟩ | ⟨a, len, cap', m, n', D, Pl, hcs, _, hlc, hcm, hm, hx, hi⟩
  · have hcs' : Value.slice A n cap = .slice none 0 0 := by simpa [Value.cells] using hcs
    injection hcs' with e1 e2 e3
    subst e1 e2 e3
    exact ⟨none, 0, [], rfl, Nat.le_refl _, fun hne => absurd rfl hne, fun _ => rfl, by simp, by simp⟩
  · have hcs' : Value.slice A n cap = .slice (some a) len cap' := by simpa [Value.cells] using hcs
    injection hcs' with e1 e2 e3
    subst e1 e2 e3
    rw [if_pos rfl] at hm
    subst hm
    obtain ⟨rfl, _⟩ := Prod.mk.inj hx
    obtain ⟨f, hf1, hf2⟩ := pick_list W a n m 39 hlc Act15.cells (fun i y => y.Fits) (fun x => ⟨_, rfl⟩) ⟨0, 0, 0, Bd.zero⟩ (fun i him => by
      obtain ⟨cs', hc, ht2⟩ := hi i him
      rw [hC] at hc
      obtain ⟨_, hcl, hat⟩ := World.cells?_some hc
      obtain ⟨y, q1, e⟩ := Act15_cells hcl ht2 (fun k hk => hwt k (by
        unfold DataW.weights
        rw [Tryd.underlying40]
        show k ∈ (_ :: (DataW.weightsAll Tryd.prog 53 ((List.range n).map D) ++ DataW.weightsAll Tryd.prog 53 ((List.range (m - n)).map fun j => D (n + j))))
        refine List.mem_cons_of_mem _ ?_
        by_cases hin : i < n
        · exact List.mem_append_left _ (weights_one (List.mem_map.2 ⟨i, List.mem_range.2 hin, rfl⟩) k hk)
        · refine List.mem_append_right _ (weights_one (List.mem_map.2 ⟨i - n, List.mem_range.2 (by omega), ?_⟩) k hk)
          rw [Nat.add_sub_cancel' (by omega)]))
      refine ⟨y, fun j v hv => ?_, q1⟩
      have hv : cs'[j]? = some v := by rw [e]; exact hv
      rw [hat j (by have := (List.getElem?_eq_some_iff.1 hv).1; omega), hv])
    have hmax : m ≤ 9223372036854775807 := by have := hcm; unfold maxLen at this; omega
    refine ⟨some a, m, (List.range n).map f, by simp, by simp; exact hlc, fun hne => ?_, fun e => (by cases e), fun x hx => ?_, by simp; omega⟩
    · have hpos : 0 < n := by
        rcases Nat.eq_zero_or_pos n with h0 | h0
        · subst h0; simp at hne
        · exact h0
      obtain ⟨b, off, e, hb, hr⟩ := hf2 hpos
      refine ⟨b, off, by rw [e], hb, fun i hi2 => ?_⟩
      have hi3 : i < n := by simpa using hi2
      simp only [List.getElem_map, List.getElem_range]
      exact hr i hi3
    · obtain ⟨i, hi1, rfl⟩ := List.mem_map.1 hx
      exact hf1 i (List.mem_range.1 hi1)
end
end Go.Proofs.YtlapmdgkcidhnaaDoor
