/- What later texts need of the earlier layers. -/
import Derived.Test.YtjeooegkfjlejaaDoorEarO
import Derived.Test.YtjeooegkfjlejaaDoorEarS
import Derived.Test.YtjeooegkfjlejaaDoorEarT
import Derived.Test.YtjeooegkfjlejaaDoorEarC
import Derived.Test.YtjeooegkfjlejaaDoorEarA
import Derived.Test.YtjeooegkfjlejaaDoorEarB
import Derived.Test.YtjeooegkfjlejaaDoorIbA
import Derived.Test.YtjeooegkfjlejaaDoorEarD
import Derived.Deep.Slices
import Derived.Lib.SmallJoins
/- ---- InbOpen ---- -/
/- A law's argument that is a list of blocks, a list of entries, or a call, opened. -/
namespace Go.Proofs.YtjeooegkfjlejaaDoor
open Go.ChangeShapes Go.WideShapes Go.ChangeAt Go.RowKit Go.Joins Go.Deep
set_option linter.unusedVariables false
set_option linter.unusedSimpArgs false
set_option maxRecDepth 100000

theorem bulk_pos {H : Type} (d : DataW H) : 1 ≤ Rows.uptoBulk d := by
  unfold Rows.uptoBulk
  split <;> omega
theorem bulk_len {H : Type} : ∀ l : List (DataW H), l.length ≤ Rows.uptoBulkAll l
  | [] => Nat.zero_le _
  | d :: l => by
    have h1 := bulk_pos d
    have h2 := bulk_len l
    unfold Rows.uptoBulkAll
    simp only [List.length_cons]
    omega
/-- things of one size that lie at an address, as a list -/
theorem pick_list {α : Type} (W : World) (a : Addr) (n m sz : Nat) (hnm : n ≤ m) (C : α → List Value) (P : Nat → α → Prop) (hC : ∀ x, ∃ v, (C x)[0]? = some v) (hdef : α)
    (h : ∀ i, i < m → ∃ x : α, (∀ j v, (C x)[j]? = some v → W.cell? ((a.add (i * sz)).add j) = some v) ∧ P i x) :
    ∃ (f : Nat → α) , (∀ i, i < n → P i (f i)) ∧ (0 < n → ∃ b off, a = ⟨b, off, none⟩ ∧ b < W.heap.size ∧ ∀ i, i < n → W.rangeAt b (off + i * sz) (C (f i))) := by
  by_cases hn : n = 0
  · subst hn
    exact ⟨fun _ => hdef, fun i hi => absurd hi (by omega), fun h0 => absurd h0 (by omega)⟩
  · obtain ⟨x0, _⟩ := h 0 (by omega)
    have hch : ∃ f : Nat → α, ∀ i, i < n → (∀ j v, (C (f i))[j]? = some v → W.cell? ((a.add (i * sz)).add j) = some v) ∧ P i (f i) := by
      refine ⟨fun i => if h' : i < n then (h i (by omega)).choose else x0, fun i hi => ?_⟩
      simp only [dif_pos hi]
      exact (h i (by omega)).choose_spec
    obtain ⟨f, hf⟩ := hch
    refine ⟨f, fun i hi => (hf i hi).2, fun h0 => ?_⟩
    obtain ⟨v, hv⟩ := hC (f 0)
    have hc0 := (hf 0 h0).1 0 v hv
    have ez : (a.add (0 * sz)).add 0 = a := by simp [Addr.add]
    rw [ez] at hc0
    have hsp := World.cell?_spot hc0
    have hblt := World.block_lt_of_cell? W a hc0
    obtain ⟨b, off, sp⟩ := a
    subst hsp
    have hadd : ∀ k i, (⟨b, k, none⟩ : Addr).add i = ⟨b, k + i, none⟩ := fun k i => by unfold Addr.add; split <;> simp_all
    refine ⟨b, off, rfl, hblt, fun i hi j v hv => ?_⟩
    have := (hf i hi).1 j v hv
    rwa [hadd, hadd] at this
section
variable {H : Type} {enc : TypeId × Value → H} {fuel : Nat}
/-- items that a slice reads as -/
theorem items_cells {W : World} {A : Option Addr} {n cap : Nat} {x : DataW H × List MemPlace} (h : DataW.trod enc Tryd.prog W 0 (fun _ => true) true fuel 43 [.slice A n cap] = some x) :
    ∃ its : List It, its.length = n ∧ BkItems W W.heap.size A its ∧ its.length ≤ cap ∧ its.length ≤ Rows.uptoBulk x.1 := by
  have hC : Tryd.prog.cellsOf 98 = 4 := by kernel_rfl
  rcases open_slice Tryd.underlying43 h with ⟨hcs, hx⟩ | ⟨a, len, cap', m, n', D, Pl, hcs, _, hlc, hcm, hm, hx, hi⟩
  · have hcs' : Value.slice A n cap = .slice none 0 0 := by injection hcs
    injection hcs' with _ e2 e3
    subst e2 e3
    exact ⟨[], rfl, ⟨fun hne => absurd rfl hne, by simp⟩, by simp, Nat.zero_le _⟩
  · have hcs' : Value.slice A n cap = .slice (some a) len cap' := by injection hcs
    injection hcs' with e1 e2 e3
    subst e1 e2 e3
    rw [if_pos rfl] at hm
    subst hm
    obtain ⟨f, hf1, hf2⟩ := pick_list W a n m 4 hlc It.cells (fun _ _ => True) (fun x => ⟨_, rfl⟩) It.zero (fun i him => by
      obtain ⟨cs', hc, ht⟩ := hi i him
      rw [hC] at hc
      obtain ⟨_, hcl, hat⟩ := World.cells?_some hc
      obtain ⟨it, e⟩ := item_cells hcl ht
      refine ⟨it, fun j v hv => ?_, trivial⟩
      have hv : cs'[j]? = some v := by rw [e]; exact hv
      rw [hat j (by have := (List.getElem?_eq_some_iff.1 hv).1; omega), hv])
    have hmax : m ≤ 9223372036854775807 := by have := hcm; unfold maxLen at this; omega
    refine ⟨(List.range n).map f, by simp, ⟨fun hne => ?_, by simp; omega⟩, by simp; exact hlc, ?_⟩
    · have hpos : 0 < n := by
        rcases Nat.eq_zero_or_pos n with h0 | h0
        · subst h0; simp at hne
        · exact h0
      obtain ⟨b, off, e, hb, hr⟩ := hf2 hpos
      refine ⟨b, off, by rw [e], hb, fun i hi2 => ?_⟩
      have hi3 : i < n := by simpa using hi2
      simp only [List.getElem_map, List.getElem_range]
      exact hr i hi3
    · have hx1 : x.1 = .slice ((List.range n).map D) ((List.range (m - n)).map fun i => D (n + i)) ∨ Rows.uptoBulkAll ((List.range n).map D) ≤ Rows.uptoBulk x.1 := by
        right
        rw [(Prod.mk.inj hx).1]
        simp only [Rows.uptoBulk]
        omega
      have h2 := bulk_len ((List.range n).map D)
      simp only [List.length_map, List.length_range] at h2 ⊢
      have h3 : Rows.uptoBulkAll ((List.range n).map D) ≤ Rows.uptoBulk x.1 := by
        rw [(Prod.mk.inj hx).1]
        simp only [Rows.uptoBulk]
        omega
      omega
end
section
variable {H : Type} {enc : TypeId × Value → H} {W : World} {r : Reach} {b0 : Nat} {v : Value} {d : DataW H} {ps : List MemPlace}
end
end Go.Proofs.YtjeooegkfjlejaaDoor
