/- What later texts need of the earlier layers. -/
import Derived.Test.YtjeooegkfjlejaaDoorEarO
import Derived.Test.YtjeooegkfjlejaaDoorEarS
import Derived.Test.YtjeooegkfjlejaaDoorEarT
import Derived.Test.YtjeooegkfjlejaaDoorEarC
import Derived.Test.YtjeooegkfjlejaaDoorEarA
import Derived.Test.YtjeooegkfjlejaaDoorEarB
import Derived.Test.YtjeooegkfjlejaaDoorIbA
import Derived.Test.YtjeooegkfjlejaaDoorTrMath
import Derived.Test.YtjeooegkfjlejaaDoorTrHash
import Derived.Lib.SliceRun
/- ---- TrMem ---- -/
/- Links in memory; slices.Clone of items. -/
namespace Go.Proofs.YtjeooegkfjlejaaDoor
open Go.RowKit
set_option linter.unusedVariables false
set_option linter.unusedSimpArgs false

def itFlat (l : List It) : List Value := l.flatMap It.cells
theorem itFlat_len : ∀ l : List It, (itFlat l).length = l.length * 4
  | [] => rfl
  | x :: r => by
    show (x.cells ++ itFlat r).length = _
    rw [List.length_append, itFlat_len r, List.length_cons]
    have : x.cells.length = 4 := rfl
    omega
theorem itFlat_one : ∀ l : List It, ∀ v ∈ itFlat l, v.oneCell' = true
  | [], v, hv => by cases hv
  | x :: r, v, hv => by
    rcases List.mem_append.1 (show v ∈ x.cells ++ itFlat r from hv) with hv | hv
    · exact item_one x v hv
    · exact itFlat_one r v hv
theorem itFlat_at : ∀ (l : List It) (i : Nat) (hi : i < l.length) (j : Nat) (v : Value), l[i].cells[j]? = some v → (itFlat l)[i * 4 + j]? = some v
  | x :: r, 0, hi, j, v, h => by
    show (x.cells ++ itFlat r)[_]? = _
    simp only [List.getElem_cons_zero] at h
    have hj := (List.getElem?_eq_some_iff.1 h).1
    rw [Nat.zero_mul, Nat.zero_add, List.getElem?_append_left hj]
    exact h
  | x :: r, i + 1, hi, j, v, h => by
    have hc : x.cells.length = 4 := rfl
    show (x.cells ++ itFlat r)[_]? = _
    simp only [List.getElem_cons_succ] at h
    rw [List.getElem?_append_right (by omega), hc, show (i + 1) * 4 + j - 4 = i * 4 + j by omega]
    exact itFlat_at r i (by simpa using hi) j v h
theorem itFlat_range {w : World} {g : Nat} : ∀ (l : List It) (off : Nat), (∀ i (h : i < l.length), w.rangeAt g (off + i * 4) l[i].cells) → w.rangeAt g off (itFlat l)
  | [], off, _ => fun j v hv => by simp [itFlat] at hv
  | x :: r, off, h => fun j v hv => by
    have hc : x.cells.length = 4 := rfl
    have hv : (x.cells ++ itFlat r)[j]? = some v := hv
    by_cases hj : j < 4
    · rw [List.getElem?_append_left (by omega)] at hv
      have := h 0 (by simp) j v hv
      rwa [Nat.zero_mul, Nat.add_zero] at this
    · rw [List.getElem?_append_right (by omega), hc] at hv
      have := itFlat_range r (off + 4) (fun i hi => by
        have := h (i + 1) (by simpa using hi)
        rw [show off + 4 + i * 4 = off + (i + 1) * 4 by omega]
        simpa using this) (j - 4) v hv
      rwa [show off + 4 + (j - 4) = off + j by omega] at this
/-- an own row of items, as items in memory -/
theorem items_own {w : World} {base : Nat} {A : Option Addr} {n c : Nat} {l : List It} (h : w.ownsRow base 98 4 (.slice A n c) n (itFlat l)) (hn : n = l.length) : BkItems w w.heap.size A l := by
  refine ⟨fun hne => ?_, ?_⟩
  · have hpos : 0 < n := by rw [hn]; exact List.length_pos_iff.2 hne
    obtain ⟨m, rfl⟩ : ∃ m, n = m + 1 := ⟨n - 1, by omega⟩
    obtain ⟨g, cap, e⟩ := ownsRow_succ h
    rw [e] at h
    injection e with e1 e2 e3
    subst e1
    refine ⟨g, 0, rfl, (h.lt g rfl).2, fun i hi j v hv => ?_⟩
    have hf := itFlat_at l i hi j v hv
    have hlt := (List.getElem?_eq_some_iff.1 hf).1
    rw [h.1] at hlt
    rw [Nat.zero_add]
    exact (h.cellAt _ hlt).trans hf
  · rw [← hn]
    rcases h.2 with ⟨e, hn⟩ | ⟨g, cap, cur, e, _, _, h1, h2, _⟩
    · omega
    · unfold maxLen at h2; omega
/-- a slice of items that came in, or that the call made -/
def SlIn (w : World) (B : Nat) (A : Option Addr) (c : Nat) (l : List It) : Prop := BkItems w B A l ∧ (A = none → l = [] ∧ c = 0) ∧ l.length ≤ c ∧ l.length ≤ 4000000000000
theorem SlIn.below {w w' : World} {B : Nat} {A : Option Addr} {c : Nat} {l : List It} (h : SlIn w B A c l) (hb : Below B w w') : SlIn w' B A c l := ⟨h.1.below hb, h.2⟩
theorem SlIn.mono {w : World} {B B' : Nat} {A : Option Addr} {c : Nat} {l : List It} (h : SlIn w B A c l) (hB : B ≤ B') : SlIn w B' A c l := ⟨h.1.mono hB, h.2⟩
theorem SlIn.nil (w : World) (B : Nat) : SlIn w B none 0 [] := ⟨⟨fun h => absurd rfl h, by simp⟩, fun _ => ⟨rfl, rfl⟩, by simp, by simp⟩
theorem SlIn.own {w : World} {base : Nat} {A : Option Addr} {c : Nat} {l : List It} (h : w.ownsRow base 98 4 (.slice A l.length c) l.length (itFlat l)) (hl : l.length ≤ 4000000000000) : SlIn w w.heap.size A c l := by
  refine ⟨items_own h rfl, fun e => ?_, ?_, hl⟩
  · subst e
    rcases h.2 with ⟨e, hn⟩ | ⟨g, cap, cur, e, _⟩
    · injection e with e1 e2 e3
      exact ⟨List.length_eq_zero_iff.1 hn, e3⟩
    · injection e with e1 e2 e3
      cases e1
  · rcases h.2 with ⟨e, hn⟩ | ⟨g, cap, cur, e, _, _, h1, _⟩
    · omega
    · injection e with e1 e2 e3
      omega
theorem it_info11 : (Tryd.prog.info? 98).map (fun i => (i.zero, i.size, i.bytes)) = some (some (.agg It.zero.cells.toArray), 4, 40) := by kernel_rfl
/-- the answer of a Clone -/
def CloneOut (base : Nat) (l : List It) (e : Ending) (w' : World) : Prop := ∃ A c, e = .returned (.slice A l.length c) ∧ w'.ownsRow base 98 4 (.slice A l.length c) l.length (itFlat l)
set_option maxRecDepth 20000 in
set_option maxHeartbeats 1600000 in
theorem clone_any (A : Option Addr) (c : Nat) (l : List It) (w : World) (hin : SlIn w w.heap.size A c l) :
    Calls Tryd.prog 67 #[.slice A l.length c] w fun e w' => CloneOut w.heap.size l e w' ∧ Below w.heap.size w w' := by
  obtain ⟨i0, hi0, h2⟩ := Option.map_eq_some_iff.1 it_info11
  simp only [Prod.mk.injEq] at h2
  have Hi := Lib.hid hi0
  have Hz := Lib.hid h2.1
  have Hsz := Lib.hid h2.2.1
  have Hby := Lib.hid h2.2.2
  clear hi0 h2
  cases A with
  | none =>
    obtain ⟨rfl, rfl⟩ := hin.2.1 rfl
    clear hin
    have heq := fun W : World => Lib.run_eql_slice_nil (P := Tryd.prog) W 43 98 none 0 0 0 0 Tryd.underlying43
    go_enter Tryd.func67, Tryd.ntmps67
    go_wp2_with fail
    go_ret
    exact ⟨⟨none, 0, rfl, by simp [itFlat], .inl ⟨rfl, rfl⟩⟩, Below.refl _ _⟩
  | some a =>
    have hown0 : (w.alloc (.cells #[] 98)).ownsRow w.heap.size 98 4 (.slice (some ⟨w.heap.size, 0, none⟩) 0 0) 0 [] := ⟨rfl, .inr ⟨w.heap.size, 0, #[], rfl, Nat.le_refl _, heap_alloc_new _ _, Nat.le_refl _, Nat.zero_le _, rfl, rfl⟩⟩
    have hb0 := (Below.refl w.heap.size w).alloc (Nat.le_refl _) (.cells #[] 98)
    have Hown0 := Lib.hid hown0
    have Hb0 := Lib.hid hb0
    have hz0 : w.heap.size ≤ (w.alloc (.cells #[] 98)).heap.size := hb0.size
    have HN : Hid (∀ j u, (itFlat l)[j]? = some u → (w.alloc (.cells #[] 98)).cell? (a.add j) = some u) := Lib.hid (fun j u hj => by
      have hne : l ≠ [] := fun e => by rw [e] at hj; simp [itFlat] at hj
      obtain ⟨g, off, e, hlt, hat⟩ := hin.1.1 hne
      injection e with e
      subst e
      have e : (⟨g, off, none⟩ : Addr).add j = ⟨g, off + j, none⟩ := by unfold Addr.add; split <;> simp_all
      rw [e]
      exact itFlat_range l off (fun i hi => range_below (hat i hi) hb0 hlt) j u hj)
    have hlen := hin.2.2.2
    have HL := Lib.hid (itFlat_len l)
    have HO := Lib.hid (itFlat_one l)
    have hk63 : 0 + l.length ≤ maxLen := by unfold maxLen; omega
    have hk48 : ((0 + l.length) + (0 + l.length) / 4 + 192) * 40 ≤ 281474976710656 := by omega
    obtain ⟨F, hF⟩ : ∃ F, F = itFlat l := ⟨_, rfl⟩
    rw [← hF] at HN HL HO
    have HF := Lib.hid hF
    clear hF
    generalize hn : l.length = n at *
    have heq := fun W : World => Lib.run_eql_slice_nil (P := Tryd.prog) W 43 98 (some a) n c 0 0 Tryd.underlying43
    clear hin hown0 hb0
    go_enter Tryd.func67, Tryd.ntmps67
    go_wp2_with (at_builtin; refine wpList_append_own_wide _ rfl (.tmp 5) (.tmp 6) 43 rfl w.heap.size 98 i0 (.agg It.zero.cells.toArray) 4 40 Tryd.underlying43 Hi.out Hz.out Hsz.out Hby.out rfl (by decide) (.slice (some ⟨w.heap.size, 0, none⟩) 0 0) 0 [] rfl Hown0.out a n c F rfl HL.out HN.out HO.out hk63 hk48 hz0 ?_
                 intro v' w1 hown1 hgrow1 _
                 have Hown1 := Lib.hid hown1
                 have Hb1 := Lib.hid (below_row Hb0.out hz0 Hown0.out hgrow1)
                 clear hown1 hgrow1)
    go_ret
    have ho := Hown1.out
    rw [Nat.zero_add, List.nil_append] at ho
    obtain ⟨A', c', rfl⟩ := own_form12 ho
    refine ⟨⟨A', c', ?_, ?_⟩, Hb1.out⟩
    · rw [hn]; rfl
    · rw [hn, ← HF.out]; exact ho
end Go.Proofs.YtjeooegkfjlejaaDoor
