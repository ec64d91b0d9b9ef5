/- A law's argument that is what a poster sees, or a list of that, opened. -/
import Derived.Test.YtedncgidjllapaaLawEnd
import Derived.Test.YtedncgidjllapaaPostLaw1
import Derived.Deep.Slices
import Derived.Lib.SmallJoins
namespace Go.Proofs.Ytedncgidjllapaa
open Go.ChangeShapes Go.WideShapes Go.ChangeAt Go.RowKit Go.Joins Go.Deep
set_option linter.unusedVariables false
set_option linter.unusedSimpArgs false

/-- v reads as what was seen, in order -/
def SeenV (w : World) (v : Value) (l : List Seen) : Prop :=
  ∃ (A : Option Addr) (c : Nat), v = .slice A l.length c ∧ (l ≠ [] → ∃ b off, A = some ⟨b, off, none⟩ ∧ b < w.heap.size ∧
    ∀ i (h : i < l.length), w.cell? ⟨b, off + i * 3, none⟩ = some (.int .i64 l[i].h) ∧ w.cell? ⟨b, off + i * 3 + 1, none⟩ = some (.int .i64 l[i].landed) ∧ w.cell? ⟨b, off + i * 3 + 2, none⟩ = some (.int .i64 l[i].cuts) ∧
      l[i].h ≤ 9223372036854775807 ∧ l[i].landed ≤ 9223372036854775807 ∧ l[i].cuts ≤ 9223372036854775807)

theorem bounds_u16_ {n : Int} (h : (Lit.int .u16 n).wf = true) : 0 ≤ n ∧ n ≤ 65535 := by
  simp [Lit.wf, IntKind.min, IntKind.max, IntKind.signed, IntKind.bits] at h
  omega
theorem one_of {v u : Value} (h : [v] = [u]) : v = u := by injection h
theorem open_seen {H : Type} {enc : TypeId × Value → H} {W : World} {r : Reach} {b0 : Nat} {v : Value} {d : DataW H} {ps : List MemPlace}
    (hv : Value.okWide Try.prog W r b0 31 v) (h : DataW.Trod enc Try.prog W 0 (fun _ => true) true 31 v d ps) :
    ∃ x : Seen, v = x.v ∧ ps = [] := by
  obtain ⟨v0, v1, v2, y0, y1, y2, n, rfl, _, hp, h0, h1, h2⟩ := open_agg3 Try.underlying31 (by kernel_rfl) (by kernel_rfl) hv h
  obtain ⟨n0, e0, f0, _⟩ := DataW.trod_int Try.underlying3 h0
  obtain ⟨n1, e1, f1, _⟩ := DataW.trod_int Try.underlying3 h1
  obtain ⟨n2, e2, f2, _⟩ := DataW.trod_int Try.underlying3 h2
  obtain rfl := one_of e0
  obtain rfl := one_of e1
  obtain rfl := one_of e2
  refine ⟨⟨n0, n1, n2⟩, rfl, ?_⟩
  rw [hp, f0, f1, f2]; rfl

theorem three_of {a b c : Value} : ∀ (l : List Value), l.length = 3 → (l.drop 0).take 1 = [a] → (l.drop 1).take 1 = [b] → (l.drop 2).take 1 = [c] → l = [a, b, c]
  | [x, y, z], _, h0, h1, h2 => by
    simp at h0 h1 h2
    rw [h0, h1, h2]
  | [], hl, _, _, _ => by simp at hl
  | [_], hl, _, _, _ => by simp at hl
  | [_, _], hl, _, _, _ => by simp at hl
  | _ :: _ :: _ :: _ :: _, hl, _, _, _ => by simp at hl
theorem add_off (b off i : Nat) : (⟨b, off, none⟩ : Addr).add i = ⟨b, off + i, none⟩ := by unfold Addr.add; split <;> simp_all

theorem open_seens {H : Type} {enc : TypeId × Value → H} {W : World} {r : Reach} {b0 : Nat} {v : Value} {d : DataW H} {ps : List MemPlace}
    (hv : Value.okWide Try.prog W r b0 22 v) (h : DataW.Trod enc Try.prog W 0 (fun _ => true) true 22 v d ps) (hlt : ∀ p ∈ ps, p.block < W.heap.size) :
    ∃ l : List Seen, SeenV W v l ∧ l.length ≤ 9223372036854775807 := by
  obtain ⟨A, n, cap, rfl⟩ := okWide_slice Try.underlying22 hv
  obtain ⟨fuel, hf⟩ := h
  have hC : Try.prog.cellsOf 31 = 3 := by kernel_rfl
  have hI : Try.prog.cellsOf 3 = 1 := by kernel_rfl
  rcases open_slice Try.underlying22 hf with ⟨hcs, hx⟩ | ⟨a, len, cap', m, n', D, Pl, hcs, _, hlc, hcm, hm, hx, hi⟩
  · have hcs' : Value.slice A n cap = .slice none 0 0 := by simpa [Value.cells] using hcs
    rw [hcs']
    exact ⟨[], ⟨none, 0, rfl, fun h => absurd rfl h⟩, by simp⟩
  · have hcs' : Value.slice A n cap = .slice (some a) len cap' := by simpa [Value.cells] using hcs
    rw [hcs']
    rw [if_pos rfl] at hm
    subst hm
    have hel : ∀ i, i < m → ∃ x : Seen, (W.cell? (a.add (i * 3)) = some (.int .i64 x.h) ∧ W.cell? ((a.add (i * 3)).add 1) = some (.int .i64 x.landed) ∧ W.cell? ((a.add (i * 3)).add 2) = some (.int .i64 x.cuts)) ∧
        x.h ≤ 9223372036854775807 ∧ x.landed ≤ 9223372036854775807 ∧ x.cuts ≤ 9223372036854775807 := by
      intro i him
      obtain ⟨cs', hc, ht⟩ := hi i him
      rw [hC] at hc
      obtain ⟨_, hcl, hat⟩ := World.cells?_some hc
      obtain ⟨xs, k, _, hx3, _, hlen3, hg⟩ := DataW.trod_struct Try.underlying31 ht
      match xs, hlen3 with
      | [y0, y1, y2], _ =>
        have h0 := hg 0 _ rfl
        have h1 := hg 1 _ rfl
        have h2 := hg 2 _ rfl
        obtain ⟨n0, e0, _, w0⟩ := DataW.trod_int Try.underlying3 (x := y0) (by simpa using h0)
        obtain ⟨n1, e1, _, w1⟩ := DataW.trod_int Try.underlying3 (x := y1) (by simpa using h1)
        obtain ⟨n2, e2, _, w2⟩ := DataW.trod_int Try.underlying3 (x := y2) (by simpa using h2)
        rw [show Try.prog.cellsOf _ = 1 from hI] at e1 e2
        have e0' : (cs'.drop 0).take 1 = [.int .i64 n0] := by
          rw [List.drop_zero]
          first | (rw [show Try.prog.cellsOf _ = 1 from hI] at e0; exact e0) | exact e0 | simpa [hI] using e0
        have e1' : (cs'.drop 1).take 1 = [.int .i64 n1] := by simpa using e1
        have e2' : (cs'.drop 2).take 1 = [.int .i64 n2] := by simpa using e2
        have hcs3 := three_of cs' hcl e0' e1' e2'
        subst hcs3
        have q0 := hat 0 (by omega)
        have q1 := hat 1 (by omega)
        have q2 := hat 2 (by omega)
        have ez : (a.add (i * 3)).add 0 = a.add (i * 3) := by simp [Addr.add]
        rw [ez] at q0
        exact ⟨⟨n0, n1, n2⟩, ⟨q0, q1, q2⟩, (bounds_i64 w0).2, (bounds_i64 w1).2, (bounds_i64 w2).2⟩
    have hch : ∃ f : Nat → Seen, ∀ i, i < m → (W.cell? (a.add (i * 3)) = some (.int .i64 (f i).h) ∧ W.cell? ((a.add (i * 3)).add 1) = some (.int .i64 (f i).landed) ∧ W.cell? ((a.add (i * 3)).add 2) = some (.int .i64 (f i).cuts)) ∧
        (f i).h ≤ 9223372036854775807 ∧ (f i).landed ≤ 9223372036854775807 ∧ (f i).cuts ≤ 9223372036854775807 := by
      refine ⟨fun i => if h : i < m then (hel i h).choose else ⟨0, 0, 0⟩, fun i h => ?_⟩
      simp only [dif_pos h]
      exact (hel i h).choose_spec
    obtain ⟨f, hfi⟩ := hch
    have hmax : m ≤ 9223372036854775807 := by
      have := hcm; unfold maxLen at this; omega
    refine ⟨(List.range len).map f, ⟨some a, m, by simp, fun hne => ?_⟩, by simp; omega⟩
    have hpos : 0 < len := by
      rcases Nat.eq_zero_or_pos len with h0 | h0
      · subst h0; simp at hne
      · exact h0
    have hc0 := (hfi 0 (by omega)).1.1
    have ez : a.add (0 * 3) = a := by simp [Addr.add]
    rw [ez] at hc0
    have hsp := World.cell?_spot hc0
    have hblt := World.block_lt_of_cell? W a hc0
    obtain ⟨b, off, sp⟩ := a
    subst hsp
    refine ⟨b, off, rfl, hblt, fun i hil => ?_⟩
    have hil' : i < len := by simpa using hil
    have := hfi i (by omega)
    simp only [add_off] at this
    simp only [List.getElem_map, List.getElem_range]
    exact ⟨this.1.1, this.1.2.1, this.1.2.2, this.2⟩
end Go.Proofs.Ytedncgidjllapaa
