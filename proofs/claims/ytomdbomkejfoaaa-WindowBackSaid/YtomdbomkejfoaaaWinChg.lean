/- Layer 7: what may have changed: blocks of a set, and new ones. -/
import Derived.Test.YtomdbomkejfoaaaWinKnown
namespace Go.Proofs.Ytomdbomkejfoaaa
open Go.RowKit Go.Maps
set_option linter.unusedVariables false
set_option linter.unusedSimpArgs false
structure Chg (S : Nat → Prop) (w w' : World) : Prop where
  os : w'.os = w.os
  tape : w'.tape = w.tape
  output : w'.output = w.output
  size : w.heap.size ≤ w'.heap.size
  block : ∀ k, k < w.heap.size → ¬ S k → w'.heap[k]? = w.heap[k]?
theorem Chg.refl (S : Nat → Prop) (w : World) : Chg S w w := ⟨rfl, rfl, rfl, Nat.le_refl _, fun _ _ _ => rfl⟩
theorem Chg.trans {S S2 : Nat → Prop} {a b c : World} (h : Chg S a b) (k : Chg S2 b c) (hS : ∀ i, S2 i → S i ∨ a.heap.size ≤ i) : Chg S a c :=
  ⟨k.os.trans h.os, k.tape.trans h.tape, k.output.trans h.output, Nat.le_trans h.size k.size, fun i hi hn =>
    (k.block i (Nat.lt_of_lt_of_le hi h.size) (fun h2 => by rcases hS i h2 with h3 | h3 <;> first | exact hn h3 | omega)).trans (h.block i hi hn)⟩
theorem Chg.mono {S S2 : Nat → Prop} {a b : World} (h : Chg S a b) (hS : ∀ i, S i → S2 i) : Chg S2 a b := ⟨h.os, h.tape, h.output, h.size, fun i hi hn => h.block i hi (fun h2 => hn (hS i h2))⟩
theorem Chg.of_grown {S : Nat → Prop} {w w' : World} {r : Option Nat} (h : w.grownBy w' r) (hr : ∀ k, r = some k → S k ∨ w.heap.size ≤ k) : Chg S w w' :=
  ⟨h.os, h.tape, h.output, h.size, fun i hi hn => h.block i hi (fun e => by rcases hr i e.symm with h3 | h3 <;> first | exact hn h3 | omega)⟩
theorem Chg.of_below {S : Nat → Prop} {w w' : World} (h : Below w.heap.size w w') : Chg S w w' := ⟨h.os, h.tape, h.output, h.size, fun i hi _ => h.block i hi⟩
theorem Chg.below {S : Nat → Prop} {w w' : World} {B : Nat} (h : Chg S w w') (hB : B ≤ w.heap.size) (hS : ∀ k, S k → B ≤ k) : Below B w w' :=
  ⟨h.os, h.tape, h.output, h.size, fun k hk => h.block k (by omega) (fun h2 => by have := hS k h2; omega)⟩
theorem Chg.row {S : Nat → Prop} {w w' : World} (h : Chg S w w') {g : Nat} {T : TypeId} {xs : List Value} (hr : Row w g T xs) (hS : ¬ S g) : Row w' g T xs := (h.block g hr.lt hS).trans hr
theorem Chg.ownsRow {S : Nat → Prop} {w w' : World} (h : Chg S w w') {B : Nat} {e : TypeId} {n sz : Nat} {v : Value} {xs : List Value} (ho : w.ownsRow B e sz v n xs) (hS : ∀ k, v.ownBlock = some k → ¬ S k) : w'.ownsRow B e sz v n xs := by
  obtain ⟨h1, h2⟩ := ho
  refine ⟨h1, ?_⟩
  rcases h2 with h2 | ⟨g, cap, cur, hv, hb, hh, rest⟩
  · exact .inl h2
  · refine .inr ⟨g, cap, cur, hv, hb, ?_, rest⟩
    rw [h.block g (lt_of_block hh) (hS g (by rw [hv]; rfl))]
    exact hh
theorem Chg.map {S : Nat → Prop} {w w' : World} (h : Chg S w w') {M n : Nat} {D : DataW Unit} (hm : w.ownsMap Try.prog 45 (plainElem Try.prog 3) M n D) (hS : ¬ S M) : w'.ownsMap Try.prog 45 (plainElem Try.prog 3) M n D := by
  obtain ⟨es, clock, hb, rest⟩ := hm
  exact ⟨es, clock, (h.block M (lt_of_block hb) hS).trans hb, rest⟩
theorem KAt.kept {w w' : World} {B M G : Nat} {s : ByteArray} {n : Nat} {S : Nat → Prop} (h : KAt w B M G s n) (hc : Chg S w w') (hB : ¬ S B) (hM : ¬ S M) (hG : ¬ S G) : KAt w' B M G s n := by
  obtain ⟨D, N, h1, h2, h3⟩ := h.map
  obtain ⟨L, h4, h5, h6⟩ := h.ahead
  exact ⟨hc.row h.row hB, ⟨D, N, h1, hc.map h2 hM, h3⟩, ⟨L, hc.row h4 hG, h5, h6⟩⟩
/-- the three blocks are three -/
theorem KAt.ne {w : World} {B M G : Nat} {s : ByteArray} {n : Nat} (h : KAt w B M G s n) : B ≠ M ∧ B ≠ G ∧ M ≠ G := by
  obtain ⟨D, N, h1, ⟨es, clock, hb, _⟩, h3⟩ := h.map
  obtain ⟨L, h4, h5, h6⟩ := h.ahead
  have hr := h.row
  unfold Row at hr h4
  refine ⟨fun e => ?_, fun e => ?_, fun e => ?_⟩
  · subst e; rw [hr] at hb; cases hb
  · subst e; rw [hr] at h4; injection h4 with h4; injection h4 with _ h4; cases h4
  · subst e; rw [h4] at hb; cases hb
theorem KAt.lt {w : World} {B M G : Nat} {s : ByteArray} {n : Nat} (h : KAt w B M G s n) : B < w.heap.size ∧ M < w.heap.size ∧ G < w.heap.size := by
  obtain ⟨D, N, h1, ⟨es, clock, hb, _⟩, h3⟩ := h.map
  obtain ⟨L, h4, h5, h6⟩ := h.ahead
  exact ⟨h.row.lt, lt_of_block hb, h4.lt⟩
theorem KAt.after {w3 w5 w6 : World} {B M G n N : Nat} {s : ByteArray} {L : List Int} {x : Int} {D : DataW Unit} (h : KAt w3 B M G s n) (hL1 : Row w3 G 3 (Is L)) (hL2 : L.length = s.size)
    (hL3 : ∀ i, i < n → i + 4 ≤ s.size → L.getD i 0 = aheadI (Win.lastAt s.data.toList (Win.four s.data.toList i) i)) (hn : n < s.size) (hx : x = aheadI (Win.lastAt s.data.toList (Win.four s.data.toList n) n))
    (hw5 : w5 = (w3.setCell ⟨G, n, none⟩ (.int .i64 x)).drew) (hm : w6.ownsMap Try.prog 45 (plainElem Try.prog 3) M N D) (hN : N ≤ n + 1) (hV : Reads4 D (fun x => Win.lastAt s.data.toList x (n + 1))) (hg : w5.grownBy w6 (some M)) :
    KAt w6 B M G s (n + 1) ∧ Chg (fun k => k = M ∨ k = G) w3 w6 := by
  obtain ⟨n1, n2, n3⟩ := h.ne
  have hg5 : w3.grownBy w5 (some G) := by rw [hw5]; exact (grownBy_set _ _ _ _).trans (grownBy_drew _ _)
  have hr5 : Row w5 G 3 (Is (L.set n x)) := by rw [hw5]; exact (hL1.setNum n x (by omega)).kept (grownBy_drew _ none) (by simp)
  refine ⟨⟨(h.row.kept hg5 (by simpa using n2)).kept hg (by simpa using n1), ⟨D, N, hN, hm, hV⟩, ⟨L.set n x, hr5.kept hg (by simpa using fun e => n3 e.symm), by rw [List.length_set]; exact hL2, fun i hi hl => ?_⟩⟩,
    (Chg.of_grown (S := fun k => k = M ∨ k = G) hg5 (fun k e => by cases e; exact .inl (.inr rfl))).trans (Chg.of_grown (S := fun k => k = M ∨ k = G) hg (fun k e => by cases e; exact .inl (.inl rfl))) (fun i h => .inl h)⟩
  by_cases e : i = n
  · subst e
    rw [List.getD_eq_getElem?_getD, List.getElem?_set_self (by omega)]
    exact hx
  · rw [List.getD_eq_getElem?_getD, List.getElem?_set_ne (fun e2 => e e2.symm), ← List.getD_eq_getElem?_getD]
    exact hL3 i (by omega) hl
end Go.Proofs.Ytomdbomkejfoaaa
