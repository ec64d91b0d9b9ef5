/- What is kept over a region that loads rows, calls, and stores a row. -/
import Derived.Test.YtdifbndpgbdkbaaDoorShaRoot
import Derived.Deep.MidRow
namespace Go.Proofs.YtdifbndpgbdkbaaDoor
open Go.RowKit
set_option linter.unusedVariables false
set_option linter.unusedSimpArgs false

/-- below stands what stood; the result's row (32 cells) lies in block g; these rows lie -/
def KeptR (w : World) (g : Nat) (L : List (Nat × Array Value)) (w' : World) : Prop :=
  Below w.heap.size w w' ∧ (∃ cs : Array Value, cs.size = 32 ∧ Holds w' g cs) ∧ ∀ p ∈ L, Holds w' p.1 p.2
section
variable {w w' w'' : World} {g : Nat} {L : List (Nat × Array Value)}
theorem KeptR.step (h : KeptR w g L w') (hb : Below w'.heap.size w' w'') : KeptR w g L w'' := by
  obtain ⟨h1, ⟨cs, h2, h3⟩, h4⟩ := h
  exact ⟨h1.trans (hb.mono h1.size), ⟨cs, h2, h3.below hb h3.lt⟩, fun p hp => (h4 p hp).below hb (h4 p hp).lt⟩
theorem KeptR.drew (h : KeptR w g L w') : KeptR w g L w'.drew := h.step (Below.refl _ _).drew
theorem KeptR.alloc (h : KeptR w g L w') (o : Obj) : KeptR w g L (w'.alloc o) := h.step ((Below.refl _ _).alloc (Nat.le_refl _) _)
theorem KeptR.there (h : KeptR w g L w') {n : Nat} (hn : n = 32) : w'.there g 0 n := by
  obtain ⟨h1, ⟨cs, h2, h3⟩, h4⟩ := h
  exact h3.there (by omega)
theorem KeptR.range (h : KeptR w g L w') {b : Nat} {cs : Array Value} (hp : (b, cs) ∈ L) : w'.rangeAt b 0 cs.toList := fun j v hj => by
  have := (h.2.2 _ hp).cell j
  rw [Nat.zero_add, this]
  simpa using hj
theorem KeptR.set (h : KeptR w g L w') {V : Array Value} (hV : V.size = 32) (hg : w.heap.size ≤ g) (hL : ∀ p ∈ L, p.1 ≠ g) :
    KeptR w g L (w'.setCells g 0 V.toList) ∧ Holds (w'.setCells g 0 V.toList) g V := by
  obtain ⟨h1, ⟨cs, h2, h3⟩, h4⟩ := h
  have h5 := h3.cells (V := V) (h2.trans hV.symm)
  refine ⟨⟨below_cells hg _ _ _ h1, ⟨V, hV, h5⟩, fun p hp => ?_⟩, h5⟩
  have : ∀ (vs : List Value) (o : Nat) (w : World), Holds w p.1 p.2 → Holds (w.setCells g o vs) p.1 p.2 := by
    intro vs
    induction vs with
    | nil => intro o w h; exact h
    | cons v vs ih => intro o w h; exact ih _ _ (h.far (p := ⟨g, o, none⟩) (hL p hp) v)
  exact this _ _ _ (h4 p hp)
theorem KeptR.all1 {g1 : Nat} {U : Array Value} {n : Nat} (h : KeptR w g [(g1, U)] w') (hn : n = 32) : KeptR w g [(g1, U)] w' ∧ w'.there g 0 n ∧ w'.rangeAt g1 0 U.toList := ⟨h, h.there hn, h.range (by simp)⟩
theorem KeptR.all2 {g1 g2 : Nat} {U X : Array Value} {n : Nat} (h : KeptR w g [(g1, U), (g2, X)] w') (hn : n = 32) : KeptR w g [(g1, U), (g2, X)] w' ∧ w'.there g 0 n ∧ w'.rangeAt g1 0 U.toList ∧ w'.rangeAt g2 0 X.toList := ⟨h, h.there hn, h.range (by simp), h.range (by simp)⟩
theorem keep1_step {g1 : Nat} {U : Array Value} {n : Nat} (hn : n = 32) (hb : Below w'.heap.size w' w'') (h : KeptR w g [(g1, U)] w' ∧ w'.there g 0 n ∧ w'.rangeAt g1 0 U.toList) :
    KeptR w g [(g1, U)] w'' ∧ w''.there g 0 n ∧ w''.rangeAt g1 0 U.toList := (h.1.step hb).all1 hn
theorem keep1_alloc {g1 : Nat} {U : Array Value} {n : Nat} (hn : n = 32) {o : Obj} (h : KeptR w g [(g1, U)] w' ∧ w'.there g 0 n ∧ w'.rangeAt g1 0 U.toList) :
    KeptR w g [(g1, U)] (w'.alloc o) ∧ (w'.alloc o).there g 0 n ∧ (w'.alloc o).rangeAt g1 0 U.toList := (h.1.alloc o).all1 hn
theorem keep2_step {g1 g2 : Nat} {U X : Array Value} {n : Nat} (hn : n = 32) (hb : Below w'.heap.size w' w'') (h : KeptR w g [(g1, U), (g2, X)] w' ∧ w'.there g 0 n ∧ w'.rangeAt g1 0 U.toList ∧ w'.rangeAt g2 0 X.toList) :
    KeptR w g [(g1, U), (g2, X)] w'' ∧ w''.there g 0 n ∧ w''.rangeAt g1 0 U.toList ∧ w''.rangeAt g2 0 X.toList := (h.1.step hb).all2 hn
end
end Go.Proofs.YtdifbndpgbdkbaaDoor
