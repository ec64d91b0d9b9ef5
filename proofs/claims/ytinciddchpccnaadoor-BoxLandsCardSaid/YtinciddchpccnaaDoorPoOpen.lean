/- A []Block that came in, opened. -/
import Derived.Test.YtinciddchpccnaaDoorPoA
import Derived.Deep.Slices
import Derived.Lib.SmallJoins
/- ---- InbOpen ---- -/
/- A law's argument that is a list of blocks, a list of entries, or a call, opened. -/
namespace Go.Proofs.YtinciddchpccnaaDoor
open Go.ChangeShapes Go.WideShapes Go.ChangeAt Go.RowKit Go.Joins Go.Deep
set_option linter.unusedVariables false
set_option linter.unusedSimpArgs false
set_option maxRecDepth 100000

theorem bulk_pos {H : Type} (d : DataW H) : 1 ≤ Rows.uptoBulk d := by
  unfold Rows.uptoBulk
  split <;> omega
theorem bulk_len {H : Type} : ∀ l : List (DataW H), l.length ≤ Rows.uptoBulkAll l
  | [] => Nat.zero_le _
  | d :: l => by
    have h1 := bulk_pos d
    have h2 := bulk_len l
    unfold Rows.uptoBulkAll
    simp only [List.length_cons]
    omega
namespace Inb
def tot (l : List Bk) : Nat := (l.map fun b => b.items.length).sum
theorem tot_take (l : List Bk) (k : Nat) (hk : k < l.length) : tot (l.take k) + l[k].items.length = tot (l.take (k + 1)) := by
  rw [List.take_succ_eq_append_getElem hk]
  unfold tot
  rw [List.map_append, List.sum_append]
  simp only [List.map_cons, List.map_nil, List.sum_cons, List.sum_nil, Nat.add_zero]
theorem tot_le (l : List Bk) (k : Nat) : tot (l.take k) ≤ tot l := by
  have e : tot l = tot (l.take k) + tot (l.drop k) := by
    unfold tot
    rw [← List.sum_append, ← List.map_append, List.take_append_drop]
  omega
end Inb
theorem bulk_tot {H : Type} (f : Nat → Bv) (D : Nat → DataW H) : ∀ (is : List Nat), (∀ i ∈ is, (f i).b.items.length ≤ Rows.uptoBulk (D i)) → Inb.tot (bks (is.map f)) ≤ Rows.uptoBulkAll (is.map D)
  | [], _ => Nat.zero_le _
  | i :: is, h => by
    have h1 := h i (by simp)
    have h2 := bulk_tot f D is (fun j hj => h j (by simp [hj]))
    simp only [List.map_cons, Rows.uptoBulkAll]
    have e : Inb.tot (bks (f i :: is.map f)) = (f i).b.items.length + Inb.tot (bks (is.map f)) := by unfold Inb.tot bks; simp
    omega
/-- things of one size that lie at an address, as a list -/
theorem pick_list {α : Type} (W : World) (a : Addr) (n m sz : Nat) (hnm : n ≤ m) (C : α → List Value) (P : Nat → α → Prop) (hC : ∀ x, ∃ v, (C x)[0]? = some v) (hdef : α)
    (h : ∀ i, i < m → ∃ x : α, (∀ j v, (C x)[j]? = some v → W.cell? ((a.add (i * sz)).add j) = some v) ∧ P i x) :
    ∃ (f : Nat → α) , (∀ i, i < n → P i (f i)) ∧ (0 < n → ∃ b off, a = ⟨b, off, none⟩ ∧ b < W.heap.size ∧ ∀ i, i < n → W.rangeAt b (off + i * sz) (C (f i))) := by
  by_cases hn : n = 0
  · subst hn
    exact ⟨fun _ => hdef, fun i hi => absurd hi (by omega), fun h0 => absurd h0 (by omega)⟩
  · obtain ⟨x0, _⟩ := h 0 (by omega)
    have hch : ∃ f : Nat → α, ∀ i, i < n → (∀ j v, (C (f i))[j]? = some v → W.cell? ((a.add (i * sz)).add j) = some v) ∧ P i (f i) := by
      refine ⟨fun i => if h' : i < n then (h i (by omega)).choose else x0, fun i hi => ?_⟩
      simp only [dif_pos hi]
      exact (h i (by omega)).choose_spec
    obtain ⟨f, hf⟩ := hch
    refine ⟨f, fun i hi => (hf i hi).2, fun h0 => ?_⟩
    obtain ⟨v, hv⟩ := hC (f 0)
    have hc0 := (hf 0 h0).1 0 v hv
    have ez : (a.add (0 * sz)).add 0 = a := by simp [Addr.add]
    rw [ez] at hc0
    have hsp := World.cell?_spot hc0
    have hblt := World.block_lt_of_cell? W a hc0
    obtain ⟨b, off, sp⟩ := a
    subst hsp
    have hadd : ∀ k i, (⟨b, k, none⟩ : Addr).add i = ⟨b, k + i, none⟩ := fun k i => by unfold Addr.add; split <;> simp_all
    refine ⟨b, off, rfl, hblt, fun i hi j v hv => ?_⟩
    have := (hf i hi).1 j v hv
    rwa [hadd, hadd] at this
section
variable {H : Type} {enc : TypeId × Value → H} {fuel : Nat}
theorem cellsH12 : Tryd.prog.cellsOf 51 = 32 := by kernel_rfl
theorem cellsL12 : Tryd.prog.cellsOf 60 = 1 := by kernel_rfl
/-- items that a slice reads as -/
theorem items_cells {W : World} {A : Option Addr} {n cap : Nat} {x : DataW H × List MemPlace} (h : DataW.trod enc Tryd.prog W 0 (fun _ => true) true fuel 60 [.slice A n cap] = some x) :
    ∃ its : List It, its.length = n ∧ BkItems W W.heap.size A its ∧ its.length ≤ cap ∧ its.length ≤ Rows.uptoBulk x.1 := by
  have hC : Tryd.prog.cellsOf 59 = 4 := by kernel_rfl
  rcases open_slice Tryd.underlying60 h with ⟨hcs, hx⟩ | ⟨a, len, cap', m, n', D, Pl, hcs, _, hlc, hcm, hm, hx, hi⟩
  · have hcs' : Value.slice A n cap = .slice none 0 0 := by injection hcs
    injection hcs' with _ e2 e3
    subst e2 e3
    exact ⟨[], rfl, ⟨fun hne => absurd rfl hne, by simp⟩, by simp, Nat.zero_le _⟩
  · have hcs' : Value.slice A n cap = .slice (some a) len cap' := by injection hcs
    injection hcs' with e1 e2 e3
    subst e1 e2 e3
    rw [if_pos rfl] at hm
    subst hm
    obtain ⟨f, hf1, hf2⟩ := pick_list W a n m 4 hlc It.cells (fun _ _ => True) (fun x => ⟨_, rfl⟩) It.zero (fun i him => by
      obtain ⟨cs', hc, ht⟩ := hi i him
      rw [hC] at hc
      obtain ⟨_, hcl, hat⟩ := World.cells?_some hc
      obtain ⟨it, e⟩ := item_cells hcl ht
      refine ⟨it, fun j v hv => ?_, trivial⟩
      have hv : cs'[j]? = some v := by rw [e]; exact hv
      rw [hat j (by have := (List.getElem?_eq_some_iff.1 hv).1; omega), hv])
    have hmax : m ≤ 9223372036854775807 := by have := hcm; unfold maxLen at this; omega
    refine ⟨(List.range n).map f, by simp, ⟨fun hne => ?_, by simp; omega⟩, by simp; exact hlc, ?_⟩
    · have hpos : 0 < n := by
        rcases Nat.eq_zero_or_pos n with h0 | h0
        · subst h0; simp at hne
        · exact h0
      obtain ⟨b, off, e, hb, hr⟩ := hf2 hpos
      refine ⟨b, off, by rw [e], hb, fun i hi2 => ?_⟩
      have hi3 : i < n := by simpa using hi2
      simp only [List.getElem_map, List.getElem_range]
      exact hr i hi3
    · have hx1 : x.1 = .slice ((List.range n).map D) ((List.range (m - n)).map fun i => D (n + i)) ∨ Rows.uptoBulkAll ((List.range n).map D) ≤ Rows.uptoBulk x.1 := by
        right
        rw [(Prod.mk.inj hx).1]
        simp only [Rows.uptoBulk]
        omega
      have h2 := bulk_len ((List.range n).map D)
      simp only [List.length_map, List.length_range] at h2 ⊢
      have h3 : Rows.uptoBulkAll ((List.range n).map D) ≤ Rows.uptoBulk x.1 := by
        rw [(Prod.mk.inj hx).1]
        simp only [Rows.uptoBulk]
        omega
      omega
theorem bk_four {a b s : Value} {r : List Value} : ∀ (l : List Value), l.length = 35 → (l.drop 0).take 1 = [a] → (l.drop 1).take 1 = [b] → (l.drop 2).take 32 = r → (l.drop 34).take 1 = [s] → l = [a, b] ++ (r ++ [s])
  | x0 :: x1 :: q, hl, h0, h1, h2, h3 => by
    have hq : q.length = 33 := by simpa using hl
    simp at h0 h1 h2 h3
    rw [h0, h1, ← h2]
    have e : q.drop 32 = [s] := by
      rw [← h3, List.take_of_length_le (by simp; omega)]
    rw [← e, List.take_append_drop]; rfl
  | [], hl, _, _, _, _ => by simp at hl
  | [_], hl, _, _, _, _ => by simp at hl
theorem block_cells {W : World} {cs : List Value} {x : DataW H × List MemPlace} (hcs : cs.length = 35) (h : DataW.trod enc Tryd.prog W 0 (fun _ => true) true fuel 62 cs = some x) :
    ∃ y : Bv, y.Fits ∧ cs = y.cells ∧ BkItems W W.heap.size y.A y.b.items ∧ y.b.items.length ≤ y.cap ∧ y.b.items.length ≤ Rows.uptoBulk x.1 := by
  obtain ⟨xs, n, _, hx, _, hlen, hg⟩ := DataW.trod_struct Tryd.underlying62 h
  have h0 : DataW.trod enc Tryd.prog W 0 (fun _ => true) true n 3 ((cs.drop 0).take (Tryd.prog.cellsOf 3)) = xs[0]? := hg 0 _ rfl
  have h1 : DataW.trod enc Tryd.prog W 0 (fun _ => true) true n 3 ((cs.drop 1).take (Tryd.prog.cellsOf 3)) = xs[1]? := hg 1 _ rfl
  have h2 : DataW.trod enc Tryd.prog W 0 (fun _ => true) true n 51 ((cs.drop 2).take (Tryd.prog.cellsOf 51)) = xs[2]? := hg 2 _ rfl
  have h3 : DataW.trod enc Tryd.prog W 0 (fun _ => true) true n 60 ((cs.drop 34).take (Tryd.prog.cellsOf 60)) = xs[3]? := hg 3 _ rfl
  rw [cellsI] at h0 h1
  rw [cellsH12] at h2
  rw [cellsL12] at h3
  match xs, hlen with
  | [y0, y1, y2, y3], _ =>
    obtain ⟨n0, e0, f0, w0⟩ := DataW.trod_int Tryd.underlying3 h0
    obtain ⟨n1, e1, f1, w1⟩ := DataW.trod_int Tryd.underlying3 h1
    obtain ⟨R, hR, e2, _⟩ := hash_cells h2
    have e3 : ∃ A k c, (cs.drop 34).take 1 = [.slice A k c] := by
      rcases open_slice Tryd.underlying60 h3 with ⟨e, _⟩ | ⟨_, _, _, _, _, _, _, e, _⟩
      · exact ⟨_, _, _, e⟩
      · exact ⟨_, _, _, e⟩
    obtain ⟨A, k, c, e3⟩ := e3
    rw [e3] at h3
    obtain ⟨its, hk, hI, hcap, hbk⟩ := items_cells h3
    subst hk
    have hde : x.1 = .agg [y0.1, y1.1, y2.1, y3.1] := by rw [hx]; rfl
    refine ⟨⟨⟨n0, n1, R, its⟩, A, c⟩, ⟨hR, bounds_i64 w0⟩, bk_four cs hcs e0 e1 e2 e3, hI, hcap, ?_⟩
    rw [hde]
    simp only [Rows.uptoBulk, Rows.uptoBulkAll]
    show its.length ≤ _
    omega
end
section
variable {H : Type} {enc : TypeId × Value → H} {W : World} {r : Reach} {b0 : Nat} {v : Value} {d : DataW H} {ps : List MemPlace}
/-- a list of blocks -/
theorem open_bvs (hv : Value.okWide Tryd.prog W r b0 34 v) (h : DataW.Trod enc Tryd.prog W 0 (fun _ => true) true 34 v d ps) :
    ∃ (A : Option Addr) (c : Nat) (l : List Bv), v = .slice A l.length c ∧ BvIn W W.heap.size A c l ∧ (∀ x ∈ l, x.Fits) ∧ l.length ≤ 9223372036854775807 ∧ Inb.tot (bks l) ≤ Rows.uptoBulk d := by
  obtain ⟨A, n, cap, rfl⟩ := okWide_slice Tryd.underlying34 hv
  obtain ⟨fuel, hf⟩ := h
  have hC : Tryd.prog.cellsOf 62 = 35 := by kernel_rfl
  rcases open_slice Tryd.underlying34 hf with ⟨hcs, hx⟩ | ⟨a, len, cap', m, n', D, Pl, hcs, _, hlc, hcm, hm, hx, hi⟩
  · have hcs' : Value.slice A n cap = .slice none 0 0 := by simpa [Value.cells] using hcs
    injection hcs' with e1 e2 e3
    subst e1 e2 e3
    exact ⟨none, 0, [], rfl, ⟨fun hne => absurd rfl hne, fun _ => ⟨rfl, rfl⟩, Nat.le_refl _⟩, by simp, by simp, Nat.zero_le _⟩
  · have hcs' : Value.slice A n cap = .slice (some a) len cap' := by simpa [Value.cells] using hcs
    injection hcs' with e1 e2 e3
    subst e1 e2 e3
    rw [if_pos rfl] at hm
    subst hm
    obtain ⟨rfl, _⟩ := Prod.mk.inj hx
    obtain ⟨f, hf1, hf2⟩ := pick_list W a n m 35 hlc Bv.cells (fun i y => y.Fits ∧ BkItems W W.heap.size y.A y.b.items ∧ y.b.items.length ≤ y.cap ∧ y.b.items.length ≤ Rows.uptoBulk (D i)) (fun x => ⟨_, rfl⟩) ⟨Bk.zero, none, 0⟩ (fun i him => by
      obtain ⟨cs', hc, ht⟩ := hi i him
      rw [hC] at hc
      obtain ⟨_, hcl, hat⟩ := World.cells?_some hc
      obtain ⟨y, q1, e, q2, q3, q4⟩ := block_cells hcl ht
      refine ⟨y, fun j v hv => ?_, q1, q2, q3, q4⟩
      have hv : cs'[j]? = some v := by rw [e]; exact hv
      rw [hat j (by have := (List.getElem?_eq_some_iff.1 hv).1; omega), hv])
    have hmax : m ≤ 9223372036854775807 := by have := hcm; unfold maxLen at this; omega
    refine ⟨some a, m, (List.range n).map f, by simp, ⟨fun hne => ?_, fun e => (by cases e), by simp; exact hlc⟩, fun x hx => ?_, by simp; omega, ?_⟩
    · have hpos : 0 < n := by
        rcases Nat.eq_zero_or_pos n with h0 | h0
        · subst h0; simp at hne
        · exact h0
      obtain ⟨b, off, e, hb, hr⟩ := hf2 hpos
      refine ⟨b, off, by rw [e], hb, fun i hi2 => ?_⟩
      have hi3 : i < n := by simpa using hi2
      simp only [List.getElem_map, List.getElem_range]
      exact ⟨hr i hi3, (hf1 i hi3).2.1, (hf1 i hi3).2.2.1⟩
    · obtain ⟨i, hi1, rfl⟩ := List.mem_map.1 hx
      exact (hf1 i (List.mem_range.1 hi1)).1
    · have h1 := bulk_tot f D (List.range n) (fun i hi => (hf1 i (List.mem_range.1 hi)).2.2.2)
      simp only [Rows.uptoBulk]
      omega
end
end Go.Proofs.YtinciddchpccnaaDoor
