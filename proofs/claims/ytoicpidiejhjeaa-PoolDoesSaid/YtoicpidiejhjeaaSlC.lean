/- What later texts need of the earlier layers. -/
import Derived.Test.YtoicpidiejhjeaaSlO
import Derived.Test.YtoicpidiejhjeaaSlT
import Derived.Deep.QuietTactic
import Derived.BigQuiet
import Derived.Test.YtoicpidiejhjeaaProg
import Derived.ArgAppend
import Derived.Lib.ConvBytes
import Derived.Laws.BytesArg
import Derived.Laws.IdiomCopy
import Derived.Below
import Derived.OwnWalk
import Derived.WalkKit
import Derived.Laws.MakeOwn
import Derived.Deep.MidRow
/- ---- MShaC ---- -/
/- Contracts of the reference of layer 2, ahead of its Sum. -/
/- ---- ShaRef1 ---- -/
namespace Go.Proofs.Ytoicpidiejhjeaa
open Go.RowKit
set_option linter.unusedVariables false
set_option linter.unusedSimpArgs false

end Go.Proofs.Ytoicpidiejhjeaa

/- ---- Own1 ---- -/
namespace Go.Proofs.Ytoicpidiejhjeaa
open Go.RowKit
set_option linter.unusedVariables false
set_option linter.unusedSimpArgs false

/-- v holds the values xs in a row of the call's own, from block 'base' on; all its places up to the capacity can be written -/
def Own1 (w : World) (base : Nat) (v : Value) (xs : List Value) : Prop :=
  ∃ g cap, v = .slice (some ⟨g, 0, none⟩) xs.length cap ∧ base ≤ g ∧ g < w.heap.size ∧ xs.length ≤ cap ∧ cap ≤ maxLen ∧
    (∀ i, i < cap → (w.cell? ⟨g, i, none⟩).isSome = true ∧ w.frozen? ⟨g, i, none⟩ = false) ∧
    ∀ i x, xs[i]? = some x → w.cell? ⟨g, i, none⟩ = some x
theorem Own1.below {w w1 : World} {base : Nat} {v : Value} {xs : List Value} (h : Own1 w base v xs) (hb : Below w.heap.size w w1) : Own1 w1 base v xs := by
  obtain ⟨g, cap, rfl, hg, hgs, hn, hm, hw, hc⟩ := h
  refine ⟨g, cap, rfl, hg, Nat.lt_of_lt_of_le hgs hb.size, hn, hm, fun i hi => ?_, fun i x hi => ?_⟩
  · rw [hb.cell (p := ⟨g, i, none⟩) hgs, hb.frozen (p := ⟨g, i, none⟩) hgs]; exact hw i hi
  · rw [hb.cell (p := ⟨g, i, none⟩) hgs]; exact hc i x hi
theorem Own1.mono {w : World} {base b2 : Nat} {v : Value} {xs : List Value} (h : Own1 w base v xs) (hb : b2 ≤ base) : Own1 w b2 v xs := by
  obtain ⟨g, cap, h1, hg, h2⟩ := h
  exact ⟨g, cap, h1, Nat.le_trans hb hg, h2⟩
end Go.Proofs.Ytoicpidiejhjeaa

/- ---- ShaRef2 ---- -/
namespace Go.Proofs.Ytoicpidiejhjeaa
open Go.RowKit
set_option linter.unusedVariables false
set_option linter.unusedSimpArgs false

def u8s (l : List UInt8) : List Value := l.map fun (b : UInt8) => Value.int .u8 (b.toNat : Int)
theorem u8s_len (l : List UInt8) : (u8s l).length = l.length := by simp [u8s]
theorem u8s_at (l : List UInt8) (i : Nat) (h : i < l.length) : (u8s l)[i]? = some (.int .u8 ((l.getD i 0).toNat : Int)) := by
  simp [u8s, h, List.getD]
theorem Own1.text {P : Program} {w : World} {base : Nat} {v : Value} {bs : List UInt8} (h : Own1 w base v (u8s bs)) (src e : TypeId) (hs : P.underlying src = some (.slice e)) (he : P.underlying e = some (.int .u8))
    (dst : TypeId) (hd : P.underlying dst = some .string) : (convert src dst v).run P w = .ok (S bs) w := by
  obtain ⟨g, cap, rfl, hg, hgs, hn, hm, hw, hc⟩ := h
  rw [u8s_len]
  have hr := run_convert_bytes_arg (P := P) w src e hs he g 0 bs.length cap (bs.map fun b => (b.toNat : Int)) (by simp) (fun i hi => by
    rw [Nat.zero_add, hc i _ (u8s_at bs i hi)]; simp [List.getD, hi]) dst hd
  rw [hr, bytes_of_]
end Go.Proofs.Ytoicpidiejhjeaa

/- ---- ShaRef3 ---- -/
namespace Go.Proofs.Ytoicpidiejhjeaa
open Go.RowKit
set_option linter.unusedVariables false
set_option linter.unusedSimpArgs false

end Go.Proofs.Ytoicpidiejhjeaa

/- ---- ShaCp ---- -/
namespace Go.Proofs.Ytoicpidiejhjeaa
open Go.RowKit
set_option linter.unusedVariables false
set_option linter.unusedSimpArgs false

/-- bytes lie in memory -/
def Bts (w : World) (g : Nat) (P : List UInt8) : Prop := ∀ i, i < P.length → w.cell? ⟨g, i, none⟩ = some (.int .u8 ((P.getD i 0).toNat : Int))
theorem Bts.below {w w' : World} {B g : Nat} {P : List UInt8} (h : Bts w g P) (hb : Below B w w') (hg : g < B) : Bts w' g P := fun i hi => (hb.cell (p := ⟨g, i, none⟩) hg).trans (h i hi)
/-- a state's words lie in memory -/
def Eight (w : World) (g : Nat) (st : Sha.St) : Prop := ∀ i, i < 8 → w.cell? ⟨g, i, none⟩ = (st8 st)[i]?
theorem Eight.below {w w' : World} {B g : Nat} {st : Sha.St} (h : Eight w g st) (hb : Below B w w') (hg : g < B) : Eight w' g st := fun i hi => (hb.cell (p := ⟨g, i, none⟩) hg).trans (h i hi)
theorem Eight.far {w : World} {g : Nat} {st : Sha.St} (h : Eight w g st) {p : Addr} (hp : g ≠ p.block) (u : Value) : Eight (w.setCell p u) g st := fun i hi =>
  (World.cell?_setCell_other w p ⟨g, i, none⟩ u (by intro e; exact hp (by rw [e]))).trans (h i hi)
end Go.Proofs.Ytoicpidiejhjeaa

/- ---- ShaRef4 ---- -/
namespace Go.Proofs.Ytoicpidiejhjeaa
open Go.RowKit
set_option linter.unusedVariables false
set_option linter.unusedSimpArgs false

end Go.Proofs.Ytoicpidiejhjeaa

/- ---- KeptR ---- -/
namespace Go.Proofs.Ytoicpidiejhjeaa
open Go.RowKit
set_option linter.unusedVariables false
set_option linter.unusedSimpArgs false

/-- below stands what stood; the result's row (32 cells) lies in block g; these rows lie -/
def KeptR (w : World) (g : Nat) (L : List (Nat × Array Value)) (w' : World) : Prop :=
  Below w.heap.size w w' ∧ (∃ cs : Array Value, cs.size = 32 ∧ Holds w' g cs) ∧ ∀ p ∈ L, Holds w' p.1 p.2
section
variable {w w' w'' : World} {g : Nat} {L : List (Nat × Array Value)}
theorem KeptR.step (h : KeptR w g L w') (hb : Below w'.heap.size w' w'') : KeptR w g L w'' := by
  obtain ⟨h1, ⟨cs, h2, h3⟩, h4⟩ := h
  exact ⟨h1.trans (hb.mono h1.size), ⟨cs, h2, h3.below hb h3.lt⟩, fun p hp => (h4 p hp).below hb (h4 p hp).lt⟩
theorem KeptR.alloc (h : KeptR w g L w') (o : Obj) : KeptR w g L (w'.alloc o) := h.step ((Below.refl _ _).alloc (Nat.le_refl _) _)
theorem KeptR.range (h : KeptR w g L w') {b : Nat} {cs : Array Value} (hp : (b, cs) ∈ L) : w'.rangeAt b 0 cs.toList := fun j v hj => by
  have := (h.2.2 _ hp).cell j
  rw [Nat.zero_add, this]
  simpa using hj
theorem KeptR.set (h : KeptR w g L w') {V : Array Value} (hV : V.size = 32) (hg : w.heap.size ≤ g) (hL : ∀ p ∈ L, p.1 ≠ g) :
    KeptR w g L (w'.setCells g 0 V.toList) ∧ Holds (w'.setCells g 0 V.toList) g V := by
  obtain ⟨h1, ⟨cs, h2, h3⟩, h4⟩ := h
  have h5 := h3.cells (V := V) (h2.trans hV.symm)
  refine ⟨⟨below_cells hg _ _ _ h1, ⟨V, hV, h5⟩, fun p hp => ?_⟩, h5⟩
  have : ∀ (vs : List Value) (o : Nat) (w : World), Holds w p.1 p.2 → Holds (w.setCells g o vs) p.1 p.2 := by
    intro vs
    induction vs with
    | nil => intro o w h; exact h
    | cons v vs ih => intro o w h; exact ih _ _ (h.far (p := ⟨g, o, none⟩) (hL p hp) v)
  exact this _ _ _ (h4 p hp)
end
end Go.Proofs.Ytoicpidiejhjeaa

/- ---- ShaCr ---- -/
namespace Go.Proofs.Ytoicpidiejhjeaa
open Go.RowKit
set_option linter.unusedVariables false
set_option linter.unusedSimpArgs false
end Go.Proofs.Ytoicpidiejhjeaa
