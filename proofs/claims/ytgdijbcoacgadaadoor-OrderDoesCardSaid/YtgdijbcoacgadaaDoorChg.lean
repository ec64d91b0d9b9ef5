/- Only some blocks, and new ones, have changed. -/
import Derived.Test.YtgdijbcoacgadaaDoorRwOwn
import Derived.Maps.OwnSet
namespace Go.Proofs.YtgdijbcoacgadaaDoor
open Go.RowKit Go.Maps
set_option linter.unusedVariables false
set_option linter.unusedSimpArgs false

/-- only blocks of S and new ones have changed -/
structure Chg (S : Nat → Prop) (w w' : World) : Prop where
  os : w'.os = w.os
  tape : w'.tape = w.tape
  output : w'.output = w.output
  size : w.heap.size ≤ w'.heap.size
  block : ∀ k, k < w.heap.size → ¬ S k → w'.heap[k]? = w.heap[k]?
theorem Chg.refl (S : Nat → Prop) (w : World) : Chg S w w := ⟨rfl, rfl, rfl, Nat.le_refl _, fun _ _ _ => rfl⟩
theorem Chg.trans {S S2 : Nat → Prop} {a b c : World} (h : Chg S a b) (k : Chg S2 b c) (hS : ∀ i, S2 i → S i ∨ a.heap.size ≤ i) : Chg S a c :=
  ⟨k.os.trans h.os, k.tape.trans h.tape, k.output.trans h.output, Nat.le_trans h.size k.size, fun i hi hn =>
    (k.block i (Nat.lt_of_lt_of_le hi h.size) (fun h2 => by rcases hS i h2 with h3 | h3 <;> first | exact hn h3 | omega)).trans (h.block i hi hn)⟩
theorem Chg.mono {S S2 : Nat → Prop} {a b : World} (h : Chg S a b) (hS : ∀ i, S i → S2 i) : Chg S2 a b := ⟨h.os, h.tape, h.output, h.size, fun i hi hn => h.block i hi (fun h2 => hn (hS i h2))⟩
theorem Chg.of_grown {S : Nat → Prop} {w w' : World} {r : Option Nat} (h : w.grownBy w' r) (hr : ∀ k, r = some k → S k ∨ w.heap.size ≤ k) : Chg S w w' :=
  ⟨h.os, h.tape, h.output, h.size, fun i hi hn => h.block i hi (fun e => by rcases hr i e.symm with h3 | h3 <;> first | exact hn h3 | omega)⟩
theorem Chg.of_below {S : Nat → Prop} {w w' : World} (h : Below w.heap.size w w') : Chg S w w' := ⟨h.os, h.tape, h.output, h.size, fun i hi _ => h.block i hi⟩
theorem Chg.below {S : Nat → Prop} {w w' : World} {B : Nat} (h : Chg S w w') (hB : B ≤ w.heap.size) (hS : ∀ k, S k → B ≤ k) : Below B w w' :=
  ⟨h.os, h.tape, h.output, h.size, fun i hi => h.block i (by omega) (fun h2 => by have := hS i h2; omega)⟩
theorem Chg.grown {S : Nat → Prop} {w w' : World} (h : Chg S w w') {r : Option Nat} (hS : ∀ k, S k → some k = r) : w.grownBy w' r :=
  ⟨h.os, h.tape, h.output, h.size, fun i hi hn => h.block i hi (fun h2 => hn (hS i h2))⟩
theorem Chg.row {S : Nat → Prop} {w w' : World} (h : Chg S w w') {g : Nat} {T : TypeId} {xs : List Value} (hr : Row w g T xs) (hS : ¬ S g) : Row w' g T xs := (h.block g hr.lt hS).trans hr
theorem Chg.ownsMap {S : Nat → Prop} {w w' : World} (h : Chg S w w') {P : Program} {K : TypeId} {H : Type} {R : Value → Option (DataW H × List MemPlace)} {M n : Nat} {D : DataW H} (hm : w.ownsMap P K R M n D) (hS : ¬ S M) : w'.ownsMap P K R M n D := by
  obtain ⟨es, clock, hb, rest⟩ := hm
  exact ⟨es, clock, (h.block M (Array.getElem?_eq_some_iff.1 hb).1 hS).trans hb, rest⟩
theorem OwnL.chg {S : Nat → Prop} {w w' : World} {α : Type} {base : Nat} {e : TypeId} {m : Nat} {f : α → List Value} {v : Value} {l : List α} (h : OwnL w base e m f v l) (hc : Chg S w w') (hS : ∀ k, v.ownBlock = some k → ¬ S k) : OwnL w' base e m f v l := by
  constructor
  refine ⟨h.own.1, ?_⟩
  rcases h.own.2 with hn | ⟨g, cap, cur, rfl, hb, hh, rest⟩
  · exact .inl hn
  · exact .inr ⟨g, cap, cur, rfl, hb, (hc.block g (Array.getElem?_eq_some_iff.1 hh).1 (hS g rfl)).trans hh, rest⟩
/-- two changes, one behind the other, as seen from what lies below -/
theorem below_chg {S : Nat → Prop} {a b c : World} {B : Nat} (h : Below B a b) (hc : Chg S b c) (hB : B ≤ b.heap.size) (hS : ∀ k, S k → B ≤ k) : Below B a c :=
  h.trans (hc.below hB hS)
/-- a map's block bears no row -/
theorem row_ne_map {w : World} {P : Program} {K : TypeId} {H : Type} {R : Value → Option (DataW H × List MemPlace)} {M n : Nat} {D : DataW H} (hm : w.ownsMap P K R M n D) {g : Nat} {T : TypeId} {xs : List Value} (hr : Row w g T xs) : g ≠ M := by
  rintro rfl
  obtain ⟨es, clock, hb, _⟩ := hm
  unfold Row at hr
  rw [hr] at hb
  simp at hb
theorem own_ne_map {w : World} {P : Program} {K : TypeId} {H : Type} {R : Value → Option (DataW H × List MemPlace)} {M n : Nat} {D : DataW H} (hm : w.ownsMap P K R M n D) {α : Type} {base : Nat} {e : TypeId} {m : Nat} {f : α → List Value} {v : Value} {l : List α} (h : OwnL w base e m f v l) : v.ownBlock ≠ some M := by
  intro e1
  rcases h.own.2 with ⟨e2, _⟩ | ⟨q, cap, cur, hv, hb, hh, _⟩
  · rw [e2] at e1; cases e1
  · rw [hv] at e1
    obtain ⟨es, clock, hb2, _⟩ := hm
    have : M = q := by injection e1 with e1; exact e1.symm
    subst this
    rw [hh] at hb2
    cases hb2
theorem row_ne_row {w : World} {g h : Nat} {T U : TypeId} {xs ys : List Value} (h1 : Row w g T xs) (h2 : Row w h U ys) (hT : T ≠ U) : g ≠ h := by
  rintro rfl
  unfold Row at h1 h2
  rw [h1] at h2
  simp at h2
  exact hT h2.2
end Go.Proofs.YtgdijbcoacgadaaDoor
