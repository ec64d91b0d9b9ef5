/- A law's argument that is a list of numbers, opened. -/
import Derived.Test.YtpphljdnnlfjhaaDoorLawEnd
import Derived.Test.YtpphljdnnlfjhaaDoorDiskCrash
import Derived.Deep.Slices
import Derived.Lib.SmallJoins
import Derived.SizedLaws
namespace Go.Proofs.YtpphljdnnlfjhaaDoor
open Go.ChangeShapes Go.WideShapes Go.ChangeAt Go.RowKit Go.Joins Go.Deep
set_option linter.unusedVariables false
set_option linter.unusedSimpArgs false
set_option maxRecDepth 100000

theorem bounds_u8 {n : Int} (h : (Lit.int .u8 n).wf = true) : 0 ≤ n ∧ n ≤ 255 := by
  simp [Lit.wf, IntKind.min, IntKind.max, IntKind.signed, IntKind.bits] at h
  omega
section
variable {H : Type} {enc : TypeId × Value → H} {fuel : Nat}
theorem cellsI : Tryd.prog.cellsOf 3 = 1 := by kernel_rfl
/-- numbers that a slice reads as -/
theorem keep_cells {W : World} {A : Option Addr} {n cap : Nat} {x : DataW H × List MemPlace} (h : DataW.trod enc Tryd.prog W 0 (fun _ => true) true fuel 29 [.slice A n cap] = some x) :
    ∃ ks : List Int, ks.length = n ∧ KeepV W (.slice A n cap) ks := by
  rcases open_slice Tryd.underlying29 h with ⟨hcs, hx⟩ | ⟨a, len, cap', m, n', D, Pl, hcs, _, hlc, hcm, hm, hx, hi⟩
  · have hcs' : Value.slice A n cap = .slice none 0 0 := by injection hcs
    injection hcs' with e1 e2 e3
    subst e1 e2 e3
    exact ⟨[], rfl, none, 0, rfl, fun hne => absurd rfl hne⟩
  · have hcs' : Value.slice A n cap = .slice (some a) len cap' := by injection hcs
    injection hcs' with e1 e2 e3
    subst e1 e2 e3
    rw [if_pos rfl] at hm
    subst hm
    have hel : ∀ i, i < m → ∃ k : Int, W.cell? (a.add (i * 1)) = some (.int .i64 k) := by
      intro i him
      obtain ⟨cs', hc, ht⟩ := hi i him
      rw [cellsI] at hc
      obtain ⟨_, hcl, hat⟩ := World.cells?_some hc
      obtain ⟨n0, e0, _, _⟩ := DataW.trod_int Tryd.underlying3 ht
      subst e0
      have q0 := hat 0 (by omega)
      have ez : (a.add (i * 1)).add 0 = a.add (i * 1) := by simp [Addr.add]
      rw [ez] at q0
      exact ⟨n0, q0⟩
    have hch : ∃ f : Nat → Int, ∀ i, i < m → W.cell? (a.add (i * 1)) = some (.int .i64 (f i)) := by
      refine ⟨fun i => if h : i < m then (hel i h).choose else 0, fun i h => ?_⟩
      simp only [dif_pos h]
      exact (hel i h).choose_spec
    obtain ⟨f, hfi⟩ := hch
    refine ⟨(List.range n).map f, by simp, some a, m, by simp, fun hne => ?_⟩
    have hpos : 0 < n := by
      rcases Nat.eq_zero_or_pos n with h0 | h0
      · subst h0; simp at hne
      · exact h0
    have hc0 := hfi 0 (by omega)
    have ez : a.add (0 * 1) = a := by simp [Addr.add]
    rw [ez] at hc0
    have hsp := World.cell?_spot hc0
    have hblt := World.block_lt_of_cell? W a hc0
    obtain ⟨b, off, sp⟩ := a
    subst hsp
    have hadd : ∀ k i, (⟨b, k, none⟩ : Addr).add i = ⟨b, k + i, none⟩ := fun k i => by unfold Addr.add; split <;> simp_all
    refine ⟨b, off, rfl, hblt, fun i hil => ?_⟩
    have hil' : i < n := by simpa using hil
    have := hfi i (by omega)
    simp only [hadd, Nat.mul_one] at this
    simpa using this
end
section
variable {H : Type} {enc : TypeId × Value → H} {W : World} {r : Reach} {b0 : Nat} {v : Value} {d : DataW H} {ps : List MemPlace}
theorem open_ints (hv : Value.okWide Tryd.prog W r b0 29 v) (h : DataW.Trod enc Tryd.prog W 0 (fun _ => true) true 29 v d ps) : ∃ ks : List Int, KeepV W v ks := by
  obtain ⟨A, n, cap, rfl⟩ := okWide_slice Tryd.underlying29 hv
  obtain ⟨fuel, hf⟩ := h
  obtain ⟨ks, _, hK⟩ := keep_cells (by simpa [Value.cells] using hf)
  exact ⟨ks, hK⟩
end
theorem KeepV.below {w W : World} {v : Value} {ks : List Int} (h : KeepV w v ks) (hb : Below w.heap.size w W) : KeepV W v ks := by
  obtain ⟨A, c, e, hc⟩ := h
  refine ⟨A, c, e, fun hne => ?_⟩
  obtain ⟨b, off, rfl, hbl, hcs⟩ := hc hne
  exact ⟨b, off, rfl, Nat.lt_of_lt_of_le hbl hb.size, fun i hi => (hb.cell (p := ⟨b, off + i, none⟩) hbl).trans (hcs i hi)⟩
theorem KeepV.apart {w : World} {v : Value} {ks : List Int} (h : KeepV w v ks) {S : Nat → Prop} (hS : ∀ k, S k → w.heap.size ≤ k) : KeepA v S := by
  intro bb off n c e hp hk
  obtain ⟨A, c9, e9, hc⟩ := h
  rw [e] at e9
  injection e9 with e1 e2 e3
  obtain ⟨b9, o9, e4, hb9, _⟩ := hc (by intro h; rw [h] at e2; simp at e2; omega)
  rw [← e1] at e4
  injection e4 with e4
  injection e4 with e4
  subst e4
  have := hS _ hk
  omega
end Go.Proofs.YtpphljdnnlfjhaaDoor
