/- A law's argument that is a list of blocks, a list of entries, or a call, opened. -/
import Derived.Test.YtjeooegkfjlejaaDoorEarD
import Derived.Test.YtjeooegkfjlejaaDoorInbBv
import Derived.Test.YtjeooegkfjlejaaDoorInbLaw1
import Derived.Deep.Slices
import Derived.Lib.SmallJoins
namespace Go.Proofs.YtjeooegkfjlejaaDoor
open Go.ChangeShapes Go.WideShapes Go.ChangeAt Go.RowKit Go.Joins Go.Deep
set_option linter.unusedVariables false
set_option linter.unusedSimpArgs false
set_option maxRecDepth 100000

theorem bulk_pos {H : Type} (d : DataW H) : 1 ≤ Rows.uptoBulk d := by
  unfold Rows.uptoBulk
  split <;> omega
theorem bulk_len {H : Type} : ∀ l : List (DataW H), l.length ≤ Rows.uptoBulkAll l
  | [] => Nat.zero_le _
  | d :: l => by
    have h1 := bulk_pos d
    have h2 := bulk_len l
    unfold Rows.uptoBulkAll
    simp only [List.length_cons]
    omega
theorem bulk_tot {H : Type} (f : Nat → Bv) (D : Nat → DataW H) : ∀ (is : List Nat), (∀ i ∈ is, (f i).b.items.length ≤ Rows.uptoBulk (D i)) → Inb.tot (bks (is.map f)) ≤ Rows.uptoBulkAll (is.map D)
  | [], _ => Nat.zero_le _
  | i :: is, h => by
    have h1 := h i (by simp)
    have h2 := bulk_tot f D is (fun j hj => h j (by simp [hj]))
    simp only [List.map_cons, Rows.uptoBulkAll]
    have e : Inb.tot (bks (f i :: is.map f)) = (f i).b.items.length + Inb.tot (bks (is.map f)) := by unfold Inb.tot bks; simp
    omega
/-- things of one size that lie at an address, as a list -/
theorem pick_list {α : Type} (W : World) (a : Addr) (n m sz : Nat) (hnm : n ≤ m) (C : α → List Value) (P : Nat → α → Prop) (hC : ∀ x, ∃ v, (C x)[0]? = some v) (hdef : α)
    (h : ∀ i, i < m → ∃ x : α, (∀ j v, (C x)[j]? = some v → W.cell? ((a.add (i * sz)).add j) = some v) ∧ P i x) :
    ∃ (f : Nat → α) , (∀ i, i < n → P i (f i)) ∧ (0 < n → ∃ b off, a = ⟨b, off, none⟩ ∧ b < W.heap.size ∧ ∀ i, i < n → W.rangeAt b (off + i * sz) (C (f i))) := by
  by_cases hn : n = 0
  · subst hn
    exact ⟨fun _ => hdef, fun i hi => absurd hi (by omega), fun h0 => absurd h0 (by omega)⟩
  · obtain ⟨x0, _⟩ := h 0 (by omega)
    have hch : ∃ f : Nat → α, ∀ i, i < n → (∀ j v, (C (f i))[j]? = some v → W.cell? ((a.add (i * sz)).add j) = some v) ∧ P i (f i) := by
      refine ⟨fun i => if h' : i < n then (h i (by omega)).choose else x0, fun i hi => ?_⟩
      simp only [dif_pos hi]
      exact (h i (by omega)).choose_spec
    obtain ⟨f, hf⟩ := hch
    refine ⟨f, fun i hi => (hf i hi).2, fun h0 => ?_⟩
    obtain ⟨v, hv⟩ := hC (f 0)
    have hc0 := (hf 0 h0).1 0 v hv
    have ez : (a.add (0 * sz)).add 0 = a := by simp [Addr.add]
    rw [ez] at hc0
    have hsp := World.cell?_spot hc0
    have hblt := World.block_lt_of_cell? W a hc0
    obtain ⟨b, off, sp⟩ := a
    subst hsp
    have hadd : ∀ k i, (⟨b, k, none⟩ : Addr).add i = ⟨b, k + i, none⟩ := fun k i => by unfold Addr.add; split <;> simp_all
    refine ⟨b, off, rfl, hblt, fun i hi j v hv => ?_⟩
    have := (hf i hi).1 j v hv
    rwa [hadd, hadd] at this
section
variable {H : Type} {enc : TypeId × Value → H} {fuel : Nat}
theorem cellsS12 : Tryd.prog.cellsOf 9 = 1 := by kernel_rfl
theorem cellsH12 : Tryd.prog.cellsOf 42 = 32 := by kernel_rfl
theorem cellsL12 : Tryd.prog.cellsOf 43 = 1 := by kernel_rfl
/-- items that a slice reads as -/
theorem items_cells {W : World} {A : Option Addr} {n cap : Nat} {x : DataW H × List MemPlace} (h : DataW.trod enc Tryd.prog W 0 (fun _ => true) true fuel 43 [.slice A n cap] = some x) :
    ∃ its : List It, its.length = n ∧ BkItems W W.heap.size A its ∧ its.length ≤ cap ∧ its.length ≤ Rows.uptoBulk x.1 := by
  have hC : Tryd.prog.cellsOf 98 = 4 := by kernel_rfl
  rcases open_slice Tryd.underlying43 h with ⟨hcs, hx⟩ | ⟨a, len, cap', m, n', D, Pl, hcs, _, hlc, hcm, hm, hx, hi⟩
  · have hcs' : Value.slice A n cap = .slice none 0 0 := by injection hcs
    injection hcs' with _ e2 e3
    subst e2 e3
    exact ⟨[], rfl, ⟨fun hne => absurd rfl hne, by simp⟩, by simp, Nat.zero_le _⟩
  · have hcs' : Value.slice A n cap = .slice (some a) len cap' := by injection hcs
    injection hcs' with e1 e2 e3
    subst e1 e2 e3
    rw [if_pos rfl] at hm
    subst hm
    obtain ⟨f, hf1, hf2⟩ := pick_list W a n m 4 hlc It.cells (fun _ _ => True) (fun x => ⟨_, rfl⟩) It.zero (fun i him => by
      obtain ⟨cs', hc, ht⟩ := hi i him
      rw [hC] at hc
      obtain ⟨_, hcl, hat⟩ := World.cells?_some hc
      obtain ⟨it, e⟩ := item_cells hcl ht
      refine ⟨it, fun j v hv => ?_, trivial⟩
      have hv : cs'[j]? = some v := by rw [e]; exact hv
      rw [hat j (by have := (List.getElem?_eq_some_iff.1 hv).1; omega), hv])
    have hmax : m ≤ 9223372036854775807 := by have := hcm; unfold maxLen at this; omega
    refine ⟨(List.range n).map f, by simp, ⟨fun hne => ?_, by simp; omega⟩, by simp; exact hlc, ?_⟩
    · have hpos : 0 < n := by
        rcases Nat.eq_zero_or_pos n with h0 | h0
        · subst h0; simp at hne
        · exact h0
      obtain ⟨b, off, e, hb, hr⟩ := hf2 hpos
      refine ⟨b, off, by rw [e], hb, fun i hi2 => ?_⟩
      have hi3 : i < n := by simpa using hi2
      simp only [List.getElem_map, List.getElem_range]
      exact hr i hi3
    · have hx1 : x.1 = .slice ((List.range n).map D) ((List.range (m - n)).map fun i => D (n + i)) ∨ Rows.uptoBulkAll ((List.range n).map D) ≤ Rows.uptoBulk x.1 := by
        right
        rw [(Prod.mk.inj hx).1]
        simp only [Rows.uptoBulk]
        omega
      have h2 := bulk_len ((List.range n).map D)
      simp only [List.length_map, List.length_range] at h2 ⊢
      have h3 : Rows.uptoBulkAll ((List.range n).map D) ≤ Rows.uptoBulk x.1 := by
        rw [(Prod.mk.inj hx).1]
        simp only [Rows.uptoBulk]
        omega
      omega
theorem bk_four {a b s : Value} {r : List Value} : ∀ (l : List Value), l.length = 35 → (l.drop 0).take 1 = [a] → (l.drop 1).take 1 = [b] → (l.drop 2).take 32 = r → (l.drop 34).take 1 = [s] → l = [a, b] ++ (r ++ [s])
  | x0 :: x1 :: q, hl, h0, h1, h2, h3 => by
    have hq : q.length = 33 := by simpa using hl
    simp at h0 h1 h2 h3
    rw [h0, h1, ← h2]
    have e : q.drop 32 = [s] := by
      rw [← h3, List.take_of_length_le (by simp; omega)]
    rw [← e, List.take_append_drop]; rfl
  | [], hl, _, _, _, _ => by simp at hl
  | [_], hl, _, _, _, _ => by simp at hl
theorem block_cells {W : World} {cs : List Value} {x : DataW H × List MemPlace} (hcs : cs.length = 35) (h : DataW.trod enc Tryd.prog W 0 (fun _ => true) true fuel 45 cs = some x) :
    ∃ y : Bv, y.Fits ∧ cs = y.cells ∧ BkItems W W.heap.size y.A y.b.items ∧ y.b.items.length ≤ y.cap ∧ y.b.items.length ≤ Rows.uptoBulk x.1 := by
  obtain ⟨xs, n, _, hx, _, hlen, hg⟩ := DataW.trod_struct Tryd.underlying45 h
  have h0 : DataW.trod enc Tryd.prog W 0 (fun _ => true) true n 3 ((cs.drop 0).take (Tryd.prog.cellsOf 3)) = xs[0]? := hg 0 _ rfl
  have h1 : DataW.trod enc Tryd.prog W 0 (fun _ => true) true n 3 ((cs.drop 1).take (Tryd.prog.cellsOf 3)) = xs[1]? := hg 1 _ rfl
  have h2 : DataW.trod enc Tryd.prog W 0 (fun _ => true) true n 42 ((cs.drop 2).take (Tryd.prog.cellsOf 42)) = xs[2]? := hg 2 _ rfl
  have h3 : DataW.trod enc Tryd.prog W 0 (fun _ => true) true n 43 ((cs.drop 34).take (Tryd.prog.cellsOf 43)) = xs[3]? := hg 3 _ rfl
  rw [cellsI] at h0 h1
  rw [cellsH12] at h2
  rw [cellsL12] at h3
  match xs, hlen with
  | [y0, y1, y2, y3], _ =>
    obtain ⟨n0, e0, f0, w0⟩ := DataW.trod_int Tryd.underlying3 h0
    obtain ⟨n1, e1, f1, w1⟩ := DataW.trod_int Tryd.underlying3 h1
    obtain ⟨R, hR, e2, _⟩ := hash_cells h2
    have e3 : ∃ A k c, (cs.drop 34).take 1 = [.slice A k c] := by
      rcases open_slice Tryd.underlying43 h3 with ⟨e, _⟩ | ⟨_, _, _, _, _, _, _, e, _⟩
      · exact ⟨_, _, _, e⟩
      · exact ⟨_, _, _, e⟩
    obtain ⟨A, k, c, e3⟩ := e3
    rw [e3] at h3
    obtain ⟨its, hk, hI, hcap, hbk⟩ := items_cells h3
    subst hk
    have hde : x.1 = .agg [y0.1, y1.1, y2.1, y3.1] := by rw [hx]; rfl
    refine ⟨⟨⟨n0, n1, R, its⟩, A, c⟩, ⟨hR, bounds_i64 w0⟩, bk_four cs hcs e0 e1 e2 e3, hI, hcap, ?_⟩
    rw [hde]
    simp only [Rows.uptoBulk, Rows.uptoBulkAll]
    show its.length ≤ _
    omega
theorem en_three {a b d : Value} {r : List Value} : ∀ (l : List Value), l.length = 35 → (l.drop 0).take 1 = [a] → (l.drop 1).take 1 = [b] → (l.drop 2).take 1 = [d] → (l.drop 3).take 32 = r → l = [a, b, d] ++ r
  | x0 :: x1 :: x2 :: q, hl, h0, h1, h2, h3 => by
    have hq : q.length = 32 := by simpa using hl
    simp at h0 h1 h2 h3
    rw [List.take_of_length_le (by omega)] at h3
    rw [h0, h1, h2, h3]; rfl
  | [], hl, _, _, _, _ => by simp at hl
  | [_], hl, _, _, _, _ => by simp at hl
  | [_, _], hl, _, _, _, _ => by simp at hl
theorem entry_cells {W : World} {cs : List Value} {x : DataW H × List MemPlace} (hcs : cs.length = 35) (h : DataW.trod enc Tryd.prog W 0 (fun _ => true) true fuel 78 cs = some x) :
    ∃ y : En, y.acc.length = 32 ∧ cs = y.cells := by
  obtain ⟨xs, n, _, hx, _, hlen, hg⟩ := DataW.trod_struct Tryd.underlying78 h
  have h0 : DataW.trod enc Tryd.prog W 0 (fun _ => true) true n 3 ((cs.drop 0).take (Tryd.prog.cellsOf 3)) = xs[0]? := hg 0 _ rfl
  have h1 : DataW.trod enc Tryd.prog W 0 (fun _ => true) true n 9 ((cs.drop 1).take (Tryd.prog.cellsOf 9)) = xs[1]? := hg 1 _ rfl
  have h2 : DataW.trod enc Tryd.prog W 0 (fun _ => true) true n 3 ((cs.drop 2).take (Tryd.prog.cellsOf 3)) = xs[2]? := hg 2 _ rfl
  have h3 : DataW.trod enc Tryd.prog W 0 (fun _ => true) true n 42 ((cs.drop 3).take (Tryd.prog.cellsOf 42)) = xs[3]? := hg 3 _ rfl
  rw [cellsI] at h0 h2
  rw [cellsS12] at h1
  rw [cellsH12] at h3
  match xs, hlen with
  | [y0, y1, y2, y3], _ =>
    obtain ⟨n0, e0, f0, w0⟩ := DataW.trod_int Tryd.underlying3 h0
    obtain ⟨s, e1, f1, _⟩ := DataW.trod_string Tryd.underlying9 h1
    obtain ⟨n2, e2, f2, w2⟩ := DataW.trod_int Tryd.underlying3 h2
    obtain ⟨R, hR, e3, _⟩ := hash_cells h3
    exact ⟨⟨n0, s, n2, R⟩, hR, en_three cs hcs e0 e1 e2 e3⟩
end
section
variable {H : Type} {enc : TypeId × Value → H} {W : World} {r : Reach} {b0 : Nat} {v : Value} {d : DataW H} {ps : List MemPlace}
/-- a list of blocks -/
theorem open_bvs (hv : Value.okWide Tryd.prog W r b0 36 v) (h : DataW.Trod enc Tryd.prog W 0 (fun _ => true) true 36 v d ps) :
    ∃ (A : Option Addr) (c : Nat) (l : List Bv), v = .slice A l.length c ∧ BvIn W W.heap.size A c l ∧ (∀ x ∈ l, x.Fits) ∧ l.length ≤ 9223372036854775807 ∧ Inb.tot (bks l) ≤ Rows.uptoBulk d := by
  obtain ⟨A, n, cap, rfl⟩ := okWide_slice Tryd.underlying36 hv
  obtain ⟨fuel, hf⟩ := h
  have hC : Tryd.prog.cellsOf 45 = 35 := by kernel_rfl
  rcases open_slice Tryd.underlying36 hf with ⟨hcs, hx⟩ | ⟨a, len, cap', m, n', D, Pl, hcs, _, hlc, hcm, hm, hx, hi⟩
  · have hcs' : Value.slice A n cap = .slice none 0 0 := by simpa [Value.cells] using hcs
    injection hcs' with e1 e2 e3
    subst e1 e2 e3
    exact ⟨none, 0, [], rfl, ⟨fun hne => absurd rfl hne, fun _ => ⟨rfl, rfl⟩, Nat.le_refl _⟩, by simp, by simp, Nat.zero_le _⟩
  · have hcs' : Value.slice A n cap = .slice (some a) len cap' := by simpa [Value.cells] using hcs
    injection hcs' with e1 e2 e3
    subst e1 e2 e3
    rw [if_pos rfl] at hm
    subst hm
    obtain ⟨rfl, _⟩ := Prod.mk.inj hx
    obtain ⟨f, hf1, hf2⟩ := pick_list W a n m 35 hlc Bv.cells (fun i y => y.Fits ∧ BkItems W W.heap.size y.A y.b.items ∧ y.b.items.length ≤ y.cap ∧ y.b.items.length ≤ Rows.uptoBulk (D i)) (fun x => ⟨_, rfl⟩) ⟨Bk.zero, none, 0⟩ (fun i him => by
      obtain ⟨cs', hc, ht⟩ := hi i him
      rw [hC] at hc
      obtain ⟨_, hcl, hat⟩ := World.cells?_some hc
      obtain ⟨y, q1, e, q2, q3, q4⟩ := block_cells hcl ht
      refine ⟨y, fun j v hv => ?_, q1, q2, q3, q4⟩
      have hv : cs'[j]? = some v := by rw [e]; exact hv
      rw [hat j (by have := (List.getElem?_eq_some_iff.1 hv).1; omega), hv])
    have hmax : m ≤ 9223372036854775807 := by have := hcm; unfold maxLen at this; omega
    refine ⟨some a, m, (List.range n).map f, by simp, ⟨fun hne => ?_, fun e => (by cases e), by simp; exact hlc⟩, fun x hx => ?_, by simp; omega, ?_⟩
    · have hpos : 0 < n := by
        rcases Nat.eq_zero_or_pos n with h0 | h0
        · subst h0; simp at hne
        · exact h0
      obtain ⟨b, off, e, hb, hr⟩ := hf2 hpos
      refine ⟨b, off, by rw [e], hb, fun i hi2 => ?_⟩
      have hi3 : i < n := by simpa using hi2
      simp only [List.getElem_map, List.getElem_range]
      exact ⟨hr i hi3, (hf1 i hi3).2.1, (hf1 i hi3).2.2.1⟩
    · obtain ⟨i, hi1, rfl⟩ := List.mem_map.1 hx
      exact (hf1 i (List.mem_range.1 hi1)).1
    · have h1 := bulk_tot f D (List.range n) (fun i hi => (hf1 i (List.mem_range.1 hi)).2.2.2)
      simp only [Rows.uptoBulk]
      omega
/-- a list of entries -/
theorem open_ens (hv : Value.okWide Tryd.prog W r b0 68 v) (h : DataW.Trod enc Tryd.prog W 0 (fun _ => true) true 68 v d ps) :
    ∃ (A : Option Addr) (c : Nat) (l : List En), v = .slice A l.length c ∧ ListAt 35 EnR W W.heap.size A l ∧ l.length ≤ 9223372036854775807 := by
  obtain ⟨A, n, cap, rfl⟩ := okWide_slice Tryd.underlying68 hv
  obtain ⟨fuel, hf⟩ := h
  have hC : Tryd.prog.cellsOf 78 = 35 := by kernel_rfl
  rcases open_slice Tryd.underlying68 hf with ⟨hcs, hx⟩ | ⟨a, len, cap', m, n', D, Pl, hcs, _, hlc, hcm, hm, hx, hi⟩
  · have hcs' : Value.slice A n cap = .slice none 0 0 := by simpa [Value.cells] using hcs
    injection hcs' with e1 e2 e3
    subst e1 e2 e3
    exact ⟨none, 0, [], rfl, fun hne => absurd rfl hne, by simp⟩
  · have hcs' : Value.slice A n cap = .slice (some a) len cap' := by simpa [Value.cells] using hcs
    injection hcs' with e1 e2 e3
    subst e1 e2 e3
    rw [if_pos rfl] at hm
    subst hm
    obtain ⟨f, hf1, hf2⟩ := pick_list W a n m 35 hlc En.cells (fun _ _ => True) (fun x => ⟨_, rfl⟩) En.zero (fun i him => by
      obtain ⟨cs', hc, ht⟩ := hi i him
      rw [hC] at hc
      obtain ⟨_, hcl, hat⟩ := World.cells?_some hc
      obtain ⟨y, _, e⟩ := entry_cells hcl ht
      refine ⟨y, fun j v hv => ?_, trivial⟩
      have hv : cs'[j]? = some v := by rw [e]; exact hv
      rw [hat j (by have := (List.getElem?_eq_some_iff.1 hv).1; omega), hv])
    have hmax : m ≤ 9223372036854775807 := by have := hcm; unfold maxLen at this; omega
    refine ⟨some a, m, (List.range n).map f, by simp, fun hne => ?_, by simp; omega⟩
    have hpos : 0 < n := by
      rcases Nat.eq_zero_or_pos n with h0 | h0
      · subst h0; simp at hne
      · exact h0
    obtain ⟨b, off, e, hb, hr⟩ := hf2 hpos
    refine ⟨b, off, by rw [e], hb, fun i hi2 => ?_⟩
    have hi3 : i < n := by simpa using hi2
    simp only [List.getElem_map, List.getElem_range]
    exact hr i hi3
theorem three_cells {a b c : Value} : ∀ (l : List Value), l.length = 3 → (l.drop 0).take 1 = [a] → (l.drop 1).take 1 = [b] → (l.drop 2).take 1 = [c] → l = [a, b, c]
  | [x, y, z], _, h0, h1, h2 => by
    simp at h0 h1 h2
    rw [h0, h1, h2]
  | [], hl, _, _, _ => by simp at hl
  | [_], hl, _, _, _ => by simp at hl
  | [_, _], hl, _, _, _ => by simp at hl
  | _ :: _ :: _ :: _ :: _, hl, _, _, _ => by simp at hl
/-- a call -/
theorem open_call (hv : Value.okWide Tryd.prog W r b0 72 v) (h : DataW.Trod enc Tryd.prog W 0 (fun _ => true) true 72 v d ps) :
    ∃ n a t : Int, fits12 n ∧ fits12 a ∧ fits12 t ∧ v = .agg (callC n a t).toArray := by
  have hs := Tryd.underlying72
  obtain ⟨cs, rfl, hcz⟩ := okWide_struct hs hv
  obtain ⟨fuel, hf⟩ := h
  have hc : Tryd.prog.cellsOf 72 = 3 := by kernel_rfl
  have hl : cs.toList.length = 3 := by rw [Array.length_toList, hcz, hc]
  obtain ⟨xs, n, _, hx, _, hlen, hg⟩ := DataW.trod_struct hs hf
  have h0 : DataW.trod enc Tryd.prog W 0 (fun _ => true) true n 3 ((cs.toList.drop 0).take (Tryd.prog.cellsOf 3)) = xs[0]? := hg 0 _ rfl
  have h1 : DataW.trod enc Tryd.prog W 0 (fun _ => true) true n 3 ((cs.toList.drop 1).take (Tryd.prog.cellsOf 3)) = xs[1]? := hg 1 _ rfl
  have h2 : DataW.trod enc Tryd.prog W 0 (fun _ => true) true n 3 ((cs.toList.drop 2).take (Tryd.prog.cellsOf 3)) = xs[2]? := hg 2 _ rfl
  rw [cellsI] at h0 h1 h2
  match xs, hlen with
  | [y0, y1, y2], _ =>
    obtain ⟨n0, e0, f0, w0⟩ := DataW.trod_int Tryd.underlying3 h0
    obtain ⟨n1, e1, f1, w1⟩ := DataW.trod_int Tryd.underlying3 h1
    obtain ⟨n2, e2, f2, w2⟩ := DataW.trod_int Tryd.underlying3 h2
    refine ⟨n0, n1, n2, bounds_i64 w0, bounds_i64 w1, bounds_i64 w2, ?_⟩
    show Value.agg cs = .agg _
    congr 1
    exact Array.toList_inj.1 (three_cells cs.toList hl e0 e1 e2)
end
end Go.Proofs.YtjeooegkfjlejaaDoor
