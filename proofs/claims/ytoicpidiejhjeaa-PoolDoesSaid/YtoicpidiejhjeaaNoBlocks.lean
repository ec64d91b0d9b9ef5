/- Blocks that a walk holds: each with what it holds, all made since the call began. -/
import Derived.Test.YtoicpidiejhjeaaSlD
namespace Go.Proofs.Ytoicpidiejhjeaa
open Go.RowKit
set_option linter.unusedVariables false
set_option linter.unusedSimpArgs false

theorem Row.type {w : World} {B : Nat} {t u : TypeId} {xs ys : List Value} (h : Row w B t xs) (k : Row w B u ys) : t = u := by
  unfold Row at h k
  rw [h] at k
  injection k with k
  injection k
/-- what is in the blocks of a list -/
def Blocks (w0 W : World) (l : List (Nat × TypeId × List Value)) : Prop := Below w0.heap.size w0 W ∧ ∀ x ∈ l, Row W x.1 x.2.1 x.2.2
namespace Blocks
variable {w0 W W' : World} {l : List (Nat × TypeId × List Value)} {g : Nat} {T : TypeId} {C : List Value}
theorem nil (h : Below w0.heap.size w0 W) : Blocks w0 W [] := ⟨h, by simp⟩
theorem step (h : Blocks w0 W l) (hb : Below W.heap.size W W') : Blocks w0 W' l := ⟨two_below' h.1 hb, fun x hx => (h.2 x hx).kept (grownBy_of_below hb none) (by simp)⟩
theorem drew (h : Blocks w0 W l) : Blocks w0 W.drew l := h.step (Below.refl _ _).drew
theorem alloc (h : Blocks w0 W l) (o : Obj) : Blocks w0 (W.alloc o) l := h.step ((Below.refl _ _).alloc (Nat.le_refl _) o)
theorem put (h : Blocks w0 W l) (hg : W.grownBy W' (some g)) (hs : w0.heap.size ≤ g) (hn : ∀ x ∈ l, x.1 ≠ g) : Blocks w0 W' l :=
  ⟨h.1.grown hg h.1.size (fun k hk => by cases hk; exact hs), fun x hx => (h.2 x hx).kept hg (by have := hn x hx; simpa using this)⟩
theorem cons (h : Blocks w0 W l) (hr : Row W g T C) : Blocks w0 W ((g, T, C) :: l) := ⟨h.1, fun x hx => by
  rcases List.mem_cons.1 hx with rfl | hx
  · exact hr
  · exact h.2 x hx⟩
theorem size (h : Blocks w0 W l) : w0.heap.size ≤ W.heap.size := h.1.size
theorem fresh (h : Blocks w0 W l) : ∀ x ∈ l, x.1 ≠ W.heap.size := fun x hx => by have := (h.2 x hx).lt; omega
theorem hd (h : Blocks w0 W ((g, T, C) :: l)) : Row W g T C := h.2 (g, T, C) List.mem_cons_self
theorem tl (h : Blocks w0 W ((g, T, C) :: l)) : Blocks w0 W l := ⟨h.1, fun x hx => h.2 x (List.mem_cons_of_mem _ hx)⟩
/-- a block of another type is none of them -/
theorem other (h : Blocks w0 W l) (hr : Row W g T C) (ht : ∀ x ∈ l, x.2.1 ≠ T) : ∀ x ∈ l, x.1 ≠ g := fun x hx e => ht x hx ((h.2 x hx).type (e ▸ hr))
end Blocks
end Go.Proofs.Ytoicpidiejhjeaa
