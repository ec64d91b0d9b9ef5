/- An argument that is a slice of strings, opened; JournalOrder. -/
import Derived.Test.YtpphljdnnlfjhaaDoorLawEnd
import Derived.Test.YtpphljdnnlfjhaaDoorJrLaw3
import Derived.SizedLaws
import Derived.SliceStrings
namespace Go.Proofs.YtpphljdnnlfjhaaDoor
open Go.ChangeShapes Go.WideShapes Go.ChangeAt Go.RowKit
set_option maxRecDepth 100000
set_option linter.unusedVariables false
set_option linter.unusedSimpArgs false

/-- a slice value that reads as these texts -/
def TextsV (w : World) (v : Value) (l : List (List UInt8)) : Prop := ∃ A c, v = .slice A l.length c ∧ Texts w w.heap.size A l
theorem add_at (b off i : Nat) : (⟨b, off, none⟩ : Addr).add i = ⟨b, off + i, none⟩ := by unfold Addr.add; split <;> simp_all
theorem add_zero_ (a : Addr) : a.add 0 = a := by simp [Addr.add]

theorem open_texts {H : Type} {enc : TypeId × Value → H} {W : World} {r : Reach} {b0 : Nat} {v : Value} {d : DataW H} {ps : List MemPlace}
    (hv : Value.okWide Tryd.prog W r b0 22 v) (h : DataW.Trod enc Tryd.prog W 0 (fun _ => true) true 22 v d ps) (hlt : ∀ p ∈ ps, p.block < W.heap.size) :
    ∃ L : List (List UInt8), TextsV W v L ∧ ((d = .nil ∧ L = []) ∨ ∃ spare, d = .slice (L.map fun l => .lit (.string l)) spare) := by
  obtain ⟨A, n, cap, rfl⟩ := okWide_slice Tryd.underlying22 hv
  obtain ⟨fuel, hf⟩ := h
  rcases open_strings Tryd.underlying22 Tryd.underlying9 (by kernel_rfl) hf with ⟨hcs, hx⟩ | ⟨a, len, cap', ss, hcs, _, hl, hm, hz, hx, hcell, _⟩
  · have hcs' : Value.slice A n cap = .slice none 0 0 := by simpa [Value.cells] using hcs
    rw [hcs']
    exact ⟨[], ⟨none, 0, rfl, fun h => absurd rfl h⟩, .inl ⟨(Prod.mk.inj hx).1, rfl⟩⟩
  · have hcs' : Value.slice A n cap = .slice (some a) len cap' := by simpa [Value.cells] using hcs
    rw [hcs']
    rw [if_pos rfl] at hz
    have hlen : ((ss.take len).map fun s => s.data.toList).length = len := by rw [List.length_map, List.length_take]; omega
    refine ⟨(ss.take len).map fun s => s.data.toList, ⟨some a, cap', by rw [hlen], fun hne => ?_⟩, .inr ⟨_, (Prod.mk.inj hx).1.trans (by congr 1; rw [List.map_map]; rfl)⟩⟩
    have hpos : 0 < len := by
      rcases Nat.eq_zero_or_pos len with h0 | h0
      · subst h0; simp at hne
      · exact h0
    have hc0 := hcell 0 (by omega)
    rw [add_zero_] at hc0
    have hsp := World.cell?_spot hc0
    obtain ⟨b, off, sp⟩ := a
    subst hsp
    have hps := (Prod.mk.inj hx).2
    refine ⟨b, off, rfl, ?_, fun i hi => ?_⟩
    · have := hlt (.cell b (off + 0)) (by rw [hps]; unfold MemPlace.row; exact List.mem_map.2 ⟨0, List.mem_range.2 (by omega), rfl⟩)
      exact this
    · rw [hlen] at hi
      have := hcell i (by omega)
      rw [add_at] at this
      rw [this]
      simp [List.getD, hi, show i < ss.length by omega]
theorem weights_mem_all {H : Type} {P : Program} {e : TypeId} : ∀ {ds : List (DataW H)} {d : DataW H}, d ∈ ds → ∀ n ∈ d.weights P e, n ∈ DataW.weightsAll P e ds
  | d0 :: ds, d, hd, n, hn => by
    simp only [DataW.weightsAll, List.mem_append]
    rcases List.mem_cons.1 hd with rfl | hd
    · exact .inl hn
    · exact .inr (weights_mem_all hd n hn)
  | [], _, hd, _, _ => by cases hd
/-- each text of a list is as long as may come in; the list is -/
theorem sized_list {H : Type} {ts : List TypeId} {ds : List (DataW H)} {j : Nat} {L : List (List UInt8)} {d : DataW H} (h : (DataW.weightsEach Tryd.prog ts ds).all (· ≤ reachBytes) = true)
    (ht : ts[j]? = some 22) (hd : ds[j]? = some d) (hL : (d = .nil ∧ L = []) ∨ ∃ spare, d = .slice (L.map fun l => .lit (.string l)) spare) : ∀ l ∈ L, l.length ≤ 140737488351232 := by
  intro l hl
  rcases hL with ⟨_, rfl⟩ | ⟨spare, rfl⟩
  · cases hl
  · have hm : l.length ∈ (DataW.slice (L.map fun l => (.lit (.string l) : DataW H)) spare).weights Tryd.prog 22 := by
      simp only [DataW.weights, Tryd.underlying22, List.mem_cons, List.mem_append]
      exact .inr (.inl (weights_mem_all (d := .lit (.string l)) (List.mem_map.2 ⟨l, hl, rfl⟩) _ (by simp [DataW.weights])))
    have := List.all_eq_true.1 h _ (DataW.weights_mem_each ht hd _ hm)
    have h2 : l.length ≤ reachBytes := by simpa using this
    exact h2
theorem bounds_u8 {n : Int} (h : (Lit.int .u8 n).wf = true) : 0 ≤ n ∧ n ≤ 255 := by
  simp [Lit.wf, IntKind.min, IntKind.max, IntKind.signed, IntKind.bits] at h
  omega
theorem bytesOf_str : Tryd.prog.bytesOf 9 = 16 := by kernel_rfl
theorem sized_many {H : Type} {ts : List TypeId} {ds : List (DataW H)} {j : Nat} {L : List (List UInt8)} {d : DataW H} (h : (DataW.weightsEach Tryd.prog ts ds).all (· ≤ reachBytes) = true)
    (ht : ts[j]? = some 22) (hd : ds[j]? = some d) (hL : (d = .nil ∧ L = []) ∨ ∃ spare, d = .slice (L.map fun l => .lit (.string l)) spare) : L.length ≤ 8796093022208 := by
  rcases hL with ⟨_, rfl⟩ | ⟨spare, rfl⟩
  · exact Nat.zero_le _
  · have hm : ((L.map fun l => (.lit (.string l) : DataW H)).length + spare.length) * Tryd.prog.bytesOf 9 ∈ (DataW.slice (L.map fun l => (.lit (.string l) : DataW H)) spare).weights Tryd.prog 22 := by
      simp only [DataW.weights, Tryd.underlying22, List.mem_cons, List.mem_append]
      exact .inl trivial
    have := List.all_eq_true.1 h _ (DataW.weights_mem_each ht hd _ hm)
    have h2 : ((L.map fun l => (.lit (.string l) : DataW H)).length + spare.length) * Tryd.prog.bytesOf 9 ≤ reachBytes := by simpa using this
    rw [List.length_map, bytesOf_str] at h2
    have h3 : reachBytes = 140737488351232 := by decide
    omega
theorem journalOrder_v (v : Value) (L : List (List UInt8)) (n : Int) (w : World) (hv : TextsV w v L) (hL : L.length ≤ 8796093022208) (hs : ∀ l ∈ L, l.length ≤ 140737488351232) (hn : 0 ≤ n ∧ n ≤ 255) :
    Calls Tryd.prog 6 #[v, .int .u8 n] w fun e w' => e = .returned (.bool true) ∧ Below w.heap.size w w' := by
  obtain ⟨A, c, rfl, h⟩ := hv
  exact journalOrder_any A c L n w h hL hs hn
end Go.Proofs.YtpphljdnnlfjhaaDoor
