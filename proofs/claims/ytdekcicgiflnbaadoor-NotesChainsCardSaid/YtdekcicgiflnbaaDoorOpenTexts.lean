/- An argument that is a slice of strings, opened: it reads as a list of texts. -/
import Derived.Test.YtdekcicgiflnbaaDoorLawEnd
import Derived.Test.YtdekcicgiflnbaaDoorMOctA
import Derived.SliceStrings
namespace Go.Proofs.YtdekcicgiflnbaaDoor
open Go.ChangeShapes Go.WideShapes Go.ChangeAt Go.RowKit
set_option linter.unusedVariables false
set_option linter.unusedSimpArgs false
set_option maxRecDepth 100000

theorem add_at (b off i : Nat) : (⟨b, off, none⟩ : Addr).add i = ⟨b, off + i, none⟩ := by unfold Addr.add; split <;> simp_all
theorem add_zero_ (a : Addr) : a.add 0 = a := by simp [Addr.add]

theorem open_texts {H : Type} {enc : TypeId × Value → H} {W : World} {r : Reach} {b0 : Nat} {v : Value} {d : DataW H} {ps : List MemPlace}
    (hv : Value.okWide Tryd.prog W r b0 73 v) (h : DataW.Trod enc Tryd.prog W 0 (fun _ => true) true 73 v d ps) (hlt : ∀ p ∈ ps, p.block < W.heap.size) :
    ∃ L : List (List UInt8), TextsV W v L ∧ ((d = .nil ∧ L = []) ∨ ∃ spare, d = .slice (L.map fun l => .lit (.string l)) spare) := by
  obtain ⟨A, n, cap, rfl⟩ := okWide_slice Tryd.underlying73 hv
  obtain ⟨fuel, hf⟩ := h
  rcases open_strings Tryd.underlying73 Tryd.underlying9 (by kernel_rfl) hf with ⟨hcs, hx⟩ | ⟨a, len, cap', ss, hcs, _, hl, hm, hz, hx, hcell, _⟩
  · have hcs' : Value.slice A n cap = .slice none 0 0 := by simpa [Value.cells] using hcs
    rw [hcs']
    exact ⟨[], ⟨none, 0, rfl, fun h => absurd rfl h⟩, .inl ⟨(Prod.mk.inj hx).1, rfl⟩⟩
  · have hcs' : Value.slice A n cap = .slice (some a) len cap' := by simpa [Value.cells] using hcs
    rw [hcs']
    rw [if_pos rfl] at hz
    have hlen : ((ss.take len).map fun s => s.data.toList).length = len := by rw [List.length_map, List.length_take]; omega
    refine ⟨(ss.take len).map fun s => s.data.toList, ⟨some a, cap', by rw [hlen], fun hne => ?_⟩, .inr ⟨_, (Prod.mk.inj hx).1.trans (by congr 1; rw [List.map_map]; rfl)⟩⟩
    have hpos : 0 < len := by
      rcases Nat.eq_zero_or_pos len with h0 | h0
      · subst h0; simp at hne
      · exact h0
    have hc0 := hcell 0 (by omega)
    rw [add_zero_] at hc0
    have hsp := World.cell?_spot hc0
    obtain ⟨b, off, sp⟩ := a
    subst hsp
    have hps := (Prod.mk.inj hx).2
    refine ⟨b, off, rfl, ?_, fun i hi => ?_⟩
    · have := hlt (.cell b (off + 0)) (by rw [hps]; unfold MemPlace.row; exact List.mem_map.2 ⟨0, List.mem_range.2 (by omega), rfl⟩)
      exact this
    · rw [hlen] at hi
      have := hcell i (by omega)
      rw [add_at] at this
      rw [this]
      simp [List.getD, hi, show i < ss.length by omega]
end Go.Proofs.YtdekcicgiflnbaaDoor
