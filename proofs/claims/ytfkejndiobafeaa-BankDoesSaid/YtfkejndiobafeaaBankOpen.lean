/- A law's argument that is a list of a bank's calls, or one call, opened. -/
import Derived.Test.YtfkejndiobafeaaLawEnd
import Derived.Test.YtfkejndiobafeaaBankActs
import Derived.Deep.Slices
import Derived.Lib.SmallJoins
namespace Go.Proofs.Ytfkejndiobafeaa
open Go.ChangeShapes Go.WideShapes Go.ChangeAt Go.RowKit Go.Joins Go.Deep
set_option linter.unusedVariables false
set_option linter.unusedSimpArgs false

theorem one_of {v u : Value} (h : [v] = [u]) : v = u := by injection h
theorem open_act {H : Type} {enc : TypeId × Value → H} {W : World} {r : Reach} {b0 : Nat} {v : Value} {d : DataW H} {ps : List MemPlace}
    (hv : Value.okWide Try.prog W r b0 30 v) (h : DataW.Trod enc Try.prog W 0 (fun _ => true) true 30 v d ps) :
    ∃ x : BAct, v = x.v ∧ ps = [] := by
  obtain ⟨v0, v1, v2, v3, y0, y1, y2, y3, n, rfl, _, hp, h0, h1, h2, h3⟩ := open_agg4 Try.underlying30 (by kernel_rfl) (by kernel_rfl) hv h
  obtain ⟨n0, e0, f0, _⟩ := DataW.trod_int Try.underlying3 h0
  obtain ⟨n1, e1, f1, _⟩ := DataW.trod_int Try.underlying3 h1
  obtain ⟨n2, e2, f2, _⟩ := DataW.trod_int Try.underlying3 h2
  obtain ⟨n3, e3, f3, _⟩ := DataW.trod_int Try.underlying3 h3
  obtain rfl := one_of e0
  obtain rfl := one_of e1
  obtain rfl := one_of e2
  obtain rfl := one_of e3
  refine ⟨⟨n0, n1, n2, n3⟩, rfl, ?_⟩
  rw [hp, f0, f1, f2, f3]; rfl

theorem four_of {a b c e : Value} : ∀ (l : List Value), l.length = 4 → (l.drop 0).take 1 = [a] → (l.drop 1).take 1 = [b] → (l.drop 2).take 1 = [c] → (l.drop 3).take 1 = [e] → l = [a, b, c, e]
  | [x, y, z, u], _, h0, h1, h2, h3 => by
    simp at h0 h1 h2 h3
    rw [h0, h1, h2, h3]
  | [], hl, _, _, _, _ => by simp at hl
  | [_], hl, _, _, _, _ => by simp at hl
  | [_, _], hl, _, _, _, _ => by simp at hl
  | [_, _, _], hl, _, _, _, _ => by simp at hl
  | _ :: _ :: _ :: _ :: _ :: _, hl, _, _, _, _ => by simp at hl

theorem add_off (b off i : Nat) : (⟨b, off, none⟩ : Addr).add i = ⟨b, off + i, none⟩ := by unfold Addr.add; split <;> simp_all

theorem open_acts {H : Type} {enc : TypeId × Value → H} {W : World} {r : Reach} {b0 : Nat} {v : Value} {d : DataW H} {ps : List MemPlace}
    (hv : Value.okWide Try.prog W r b0 22 v) (h : DataW.Trod enc Try.prog W 0 (fun _ => true) true 22 v d ps) (hlt : ∀ p ∈ ps, p.block < W.heap.size) :
    ∃ l : List BAct, ActsV W v l ∧ l.length ≤ 9223372036854775807 := by
  obtain ⟨A, n, cap, rfl⟩ := okWide_slice Try.underlying22 hv
  obtain ⟨fuel, hf⟩ := h
  have hC : Try.prog.cellsOf 30 = 4 := by kernel_rfl
  have hI : Try.prog.cellsOf 3 = 1 := by kernel_rfl
  rcases open_slice Try.underlying22 hf with ⟨hcs, hx⟩ | ⟨a, len, cap', m, n', D, Pl, hcs, _, hlc, hcm, hm, hx, hi⟩
  · have hcs' : Value.slice A n cap = .slice none 0 0 := by simpa [Value.cells] using hcs
    rw [hcs']
    exact ⟨[], ⟨none, 0, rfl, fun h => absurd rfl h⟩, by simp⟩
  · have hcs' : Value.slice A n cap = .slice (some a) len cap' := by simpa [Value.cells] using hcs
    rw [hcs']
    rw [if_pos rfl] at hm
    subst hm
    have hel : ∀ i, i < m → ∃ x : BAct, W.cell? (a.add (i * 4)) = some (.int .i64 x.kind) ∧ W.cell? ((a.add (i * 4)).add 1) = some (.int .i64 x.a) ∧ W.cell? ((a.add (i * 4)).add 2) = some (.int .i64 x.b) ∧ W.cell? ((a.add (i * 4)).add 3) = some (.int .i64 x.n) := by
      intro i him
      obtain ⟨cs', hc, ht⟩ := hi i him
      rw [hC] at hc
      obtain ⟨_, hcl, hat⟩ := World.cells?_some hc
      obtain ⟨y0, y1, y2, y3, k, _, _, h0, h1, h2, h3⟩ := trod_struct4 Try.underlying30 ht
      obtain ⟨n0, e0, _, _⟩ := DataW.trod_int Try.underlying3 h0
      obtain ⟨n1, e1, _, _⟩ := DataW.trod_int Try.underlying3 h1
      obtain ⟨n2, e2, _, _⟩ := DataW.trod_int Try.underlying3 h2
      obtain ⟨n3, e3, _, _⟩ := DataW.trod_int Try.underlying3 h3
      rw [show Try.prog.cellsOf _ = 1 from hI] at e0 e1 e2 e3
      have hcs4 := four_of cs' hcl e0 e1 e2 e3
      subst hcs4
      have q0 := hat 0 (by omega)
      have q1 := hat 1 (by omega)
      have q2 := hat 2 (by omega)
      have q3 := hat 3 (by omega)
      refine ⟨⟨n0, n1, n2, n3⟩, ?_, q1, q2, q3⟩
      have ez : (a.add (i * 4)).add 0 = a.add (i * 4) := by simp [Addr.add]
      rw [ez] at q0
      exact q0
    have hch : ∃ f : Nat → BAct, ∀ i, i < m → W.cell? (a.add (i * 4)) = some (.int .i64 (f i).kind) ∧ W.cell? ((a.add (i * 4)).add 1) = some (.int .i64 (f i).a) ∧ W.cell? ((a.add (i * 4)).add 2) = some (.int .i64 (f i).b) ∧ W.cell? ((a.add (i * 4)).add 3) = some (.int .i64 (f i).n) := by
      refine ⟨fun i => if h : i < m then (hel i h).choose else ⟨0, 0, 0, 0⟩, fun i h => ?_⟩
      simp only [dif_pos h]
      exact (hel i h).choose_spec
    obtain ⟨f, hfi⟩ := hch
    have hmax : m ≤ 9223372036854775807 := by
      have := hcm; unfold maxLen at this; omega
    refine ⟨(List.range len).map f, ⟨some a, m, by simp, fun hne => ?_⟩, by simp; omega⟩
    have hpos : 0 < len := by
      rcases Nat.eq_zero_or_pos len with h0 | h0
      · subst h0; simp at hne
      · exact h0
    have hc0 := (hfi 0 (by omega)).1
    have ez : a.add (0 * 4) = a := by simp [Addr.add]
    rw [ez] at hc0
    have hsp := World.cell?_spot hc0
    have hblt := World.block_lt_of_cell? W a hc0
    obtain ⟨b, off, sp⟩ := a
    subst hsp
    refine ⟨b, off, rfl, hblt, fun i hil => ?_⟩
    have hil' : i < len := by simpa using hil
    have := hfi i (by omega)
    simp only [add_off] at this
    simpa using this
end Go.Proofs.Ytfkejndiobafeaa
