/- Arguments opened: a list of texts; a case of a proof. -/
import Derived.Test.YtdifbndpgbdkbaaDoorLawEnd
import Derived.Test.YtdifbndpgbdkbaaDoorSealOpen
import Derived.Test.YtdifbndpgbdkbaaDoorShaLaw4
import Derived.Test.YtdifbndpgbdkbaaDoorShaLaw3
import Derived.SliceStrings
namespace Go.Proofs.YtdifbndpgbdkbaaDoor
open Go.ChangeShapes Go.WideShapes Go.ChangeAt Go.RowKit
set_option linter.unusedVariables false
set_option linter.unusedSimpArgs false

/-- a list of texts that came in -/
def Came (w : World) (A : Option Addr) (L : List (List UInt8)) : Prop := L ≠ [] → ∃ b off, A = some ⟨b, off, none⟩ ∧ Lies w w.heap.size b off L
theorem open_list {H : Type} {enc : TypeId × Value → H} {W : World} {r : Reach} {b0 : Nat} {v : Value} {d : DataW H} {ps : List MemPlace}
    (hv : Value.okWide Tryd.prog W r b0 30 v) (h : DataW.Trod enc Tryd.prog W 0 (fun _ => true) true 30 v d ps) (hlt : ∀ p ∈ ps, p.block < W.heap.size) :
    ∃ (L : List (List UInt8)) (A : Option Addr) (cap : Nat), v = .slice A L.length cap ∧ L.length ≤ cap ∧ L.length ≤ 9223372036854775807 ∧ Came W A L ∧ ((d = .nil ∧ L = []) ∨ ∃ spare, d = .slice (L.map fun l => .lit (.string l)) spare) := by
  obtain ⟨A, n, cap, rfl⟩ := okWide_slice Tryd.underlying30 hv
  obtain ⟨fuel, hf⟩ := h
  rcases open_strings Tryd.underlying30 Tryd.underlying9 (by kernel_rfl) hf with ⟨hcs, hx⟩ | ⟨a, len, cap', ss, hcs, _, hl, hm, hz, hx, hcell, _⟩
  · have hcs' : Value.slice A n cap = .slice none 0 0 := by simpa [Value.cells] using hcs
    rw [hcs']
    exact ⟨[], none, 0, rfl, Nat.le_refl _, Nat.zero_le _, fun h => absurd rfl h, .inl ⟨(Prod.mk.inj hx).1, rfl⟩⟩
  · have hcs' : Value.slice A n cap = .slice (some a) len cap' := by simpa [Value.cells] using hcs
    rw [hcs']
    rw [if_pos rfl] at hz
    have hlen : ((ss.take len).map fun s => s.data.toList).length = len := by rw [List.length_map, List.length_take]; omega
    refine ⟨(ss.take len).map fun s => s.data.toList, some a, cap', by rw [hlen], by rw [hlen]; exact hl, by rw [hlen]; unfold maxLen at hm; omega, fun hne => ?_, .inr ⟨_, (Prod.mk.inj hx).1.trans (by congr 1; rw [List.map_map]; rfl)⟩⟩
    have hpos : 0 < len := by
      rcases Nat.eq_zero_or_pos len with h0 | h0
      · subst h0; simp at hne
      · exact h0
    have hc0 := hcell 0 (by omega)
    rw [show a.add 0 = a by simp [Addr.add]] at hc0
    have hsp := World.cell?_spot hc0
    obtain ⟨b, off, sp⟩ := a
    subst hsp
    have hps := (Prod.mk.inj hx).2
    refine ⟨b, off, rfl, ?_, fun i hi => ?_⟩
    · have := hlt (.cell b (off + 0)) (by rw [hps]; unfold MemPlace.row; exact List.mem_map.2 ⟨0, List.mem_range.2 (by omega), rfl⟩)
      exact this
    · rw [hlen] at hi
      have := hcell i (by omega)
      rw [add0] at this
      rw [this]
      simp [List.getD, hi, show i < ss.length by omega]
theorem weights_mem_all {H : Type} {P : Program} {e : TypeId} : ∀ {ds : List (DataW H)} {d : DataW H}, d ∈ ds → ∀ n ∈ d.weights P e, n ∈ DataW.weightsAll P e ds
  | d0 :: ds, d, hd, n, hn => by
    simp only [DataW.weightsAll, List.mem_append]
    rcases List.mem_cons.1 hd with rfl | hd
    · exact .inl hn
    · exact .inr (weights_mem_all hd n hn)
  | [], _, hd, _, _ => by cases hd
/-- each text of a list is as long as may come in; the list is -/
theorem sized_list {H : Type} {ts : List TypeId} {ds : List (DataW H)} {j : Nat} {L : List (List UInt8)} {d : DataW H} (h : (DataW.weightsEach Tryd.prog ts ds).all (· ≤ reachBytes) = true)
    (ht : ts[j]? = some 30) (hd : ds[j]? = some d) (hL : (d = .nil ∧ L = []) ∨ ∃ spare, d = .slice (L.map fun l => .lit (.string l)) spare) : ∀ l ∈ L, l.length ≤ 140737488351232 := by
  intro l hl
  rcases hL with ⟨_, rfl⟩ | ⟨spare, rfl⟩
  · cases hl
  · have hm : l.length ∈ (DataW.slice (L.map fun l => (.lit (.string l) : DataW H)) spare).weights Tryd.prog 30 := by
      simp only [DataW.weights, Tryd.underlying30, List.mem_cons, List.mem_append]
      exact .inr (.inl (weights_mem_all (d := .lit (.string l)) (List.mem_map.2 ⟨l, hl, rfl⟩) _ (by simp [DataW.weights])))
    have := List.all_eq_true.1 h _ (DataW.weights_mem_each ht hd _ hm)
    have h2 : l.length ≤ reachBytes := by simpa using this
    exact h2
theorem small_of {L : List (List UInt8)} (h : ∀ l ∈ L, l.length ≤ 140737488351232) : ∀ k, k < L.length → (L.getD k []).length ≤ 140737488351232 := fun k hk => by
  rw [List.getD_eq_getElem?_getD, List.getElem?_eq_getElem hk, Option.getD_some]
  exact h _ (List.getElem_mem hk)
theorem small_take {L : List (List UInt8)} (h : ∀ l ∈ L, l.length ≤ 140737488351232) (n : Nat) : ∀ l ∈ L.take n, l.length ≤ 140737488351232 := fun l hl => h l (List.mem_of_mem_take hl)
theorem digestTurned_any (L : List (List UInt8)) (A : Option Addr) (cap : Nat) (i bit : Int) (w : World) (hT : Tab w) (hL : Came w A L) (hc : L.length ≤ cap) (hn : L.length ≤ 9223372036854775807) (hS : ∀ l ∈ L, l.length ≤ 140737488351232) :
    Calls Tryd.prog 8 #[.slice A L.length cap, .int .i64 i, .int .i64 bit] w fun e w' => e = .returned (.bool true) ∧ Below w.heap.size w w' := by
  by_cases h : i < 0 ∨ ((min L.length 100 : Nat) : Int) ≤ i
  · exact turned_out A L.length cap i bit w hT hc hn h
  · obtain ⟨i', rfl⟩ : ∃ i' : Nat, i = i' := ⟨i.toNat, by omega⟩
    have hne : L ≠ [] := by intro h0; rw [h0] at h; simp at h
    obtain ⟨b, off, rfl, hl⟩ := hL hne
    have ht : (L.take 100).length = min L.length 100 := by rw [List.length_take, Nat.min_comm]
    have hs := small_of (small_take hS 100)
    exact turned_in (L.take 100) b off L.length cap i' bit w hT (hl.take 100) (fun k hk => by have := hs k hk; omega) ht hc hn (by omega) hs
end Go.Proofs.YtdifbndpgbdkbaaDoor
