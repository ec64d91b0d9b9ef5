/- A block of memory that is known whole. -/
import Derived.Test.YtdifbndpgbdkbaaDoorProg
import Derived.WalkKit
import Derived.Below
import Derived.Laws.Rows
import Derived.Deep.Draws
import Derived.Laws.Tables
import Derived.Laws.CopyOwn
namespace Go.Proofs.YtdifbndpgbdkbaaDoor
open Go.RowKit
set_option linter.unusedVariables false
set_option linter.unusedSimpArgs false

/-- block b is just these cells; none is frozen -/
def Holds (w : World) (b : Nat) (cs : Array Value) : Prop := ∃ T, w.heap[b]? = some (.cells cs T (0, 0))
section
variable {w w' : World} {b : Nat} {cs : Array Value}
theorem Holds.lt (h : Holds w b cs) : b < w.heap.size := by
  obtain ⟨T, h⟩ := h
  rcases Nat.lt_or_ge b w.heap.size with h1 | h1
  · exact h1
  · rw [Array.getElem?_eq_none h1] at h; cases h
theorem Holds.cell (h : Holds w b cs) (i : Nat) : w.cell? ⟨b, i, none⟩ = cs[i]? := by
  obtain ⟨T, h⟩ := h
  exact cell_of_row w b i cs T (0, 0) h
theorem Holds.free (h : Holds w b cs) (i : Nat) : w.frozen? ⟨b, i, none⟩ = false := by
  obtain ⟨T, h⟩ := h
  simp [World.frozen?, h]
theorem Holds.new (w : World) (T : TypeId) (cs : Array Value) : Holds (w.alloc (.cells cs T)) w.heap.size cs := ⟨T, heap_alloc_new w _⟩
theorem Holds.new2 {w : World} {T : TypeId} {cs cs' : Array Value} {n : Nat} (hn : n = w.heap.size) (hc : cs' = cs) : Holds (w.alloc (.cells cs' T)) n cs := by
  subst hn hc; exact Holds.new _ _ _
theorem Holds.drew (h : Holds w b cs) : Holds w.drew b cs := h
theorem Holds.drewN (h : Holds w b cs) (n : Nat) : Holds (w.drewN n) b cs := h
theorem Holds.alloc (h : Holds w b cs) (o : Obj) : Holds (w.alloc o) b cs := by
  have hl := h.lt
  obtain ⟨T, h⟩ := h
  exact ⟨T, (Below.heap_alloc w o b hl).trans h⟩
theorem Holds.set_ (h : Holds w b cs) (i : Nat) (u : Value) : Holds (w.setCell ⟨b, i, none⟩ u) b (cs.setIfInBounds i u) := by
  obtain ⟨T, h⟩ := h
  refine ⟨T, ?_⟩
  simp [World.setCell, Array.getElem?_modify, h]
theorem Holds.far (h : Holds w b cs) {p : Addr} (hp : b ≠ p.block) (u : Value) : Holds (w.setCell p u) b cs := by
  obtain ⟨T, h⟩ := h
  exact ⟨T, (Below.heap_setCell w p u b hp).trans h⟩
theorem Holds.row (h : Holds w b cs) (cs' : Array Value) : Holds (w.setRow b cs') b cs' := by
  obtain ⟨T, h⟩ := h
  exact ⟨T, setRow_heap w b _ _ _ _ h⟩
theorem Holds.rowFar (h : Holds w b cs) {g : Nat} (hg : b ≠ g) (cs' : Array Value) : Holds (w.setRow g cs') b cs := by
  obtain ⟨T, h⟩ := h
  exact ⟨T, (setRow_other w g b cs' hg).trans h⟩
theorem Holds.below {B : Nat} (h : Holds w b cs) (hb : Below B w w') (hB : b < B) : Holds w' b cs := by
  obtain ⟨T, h⟩ := h
  exact ⟨T, (hb.block b hB).trans h⟩
end
/-- a whole row stored; the world behind it by a name -/
theorem wpList_store_named {P : Program} {ops : Array Oper} {rest : List Oper} {o : Oper} {a : Act} {w : World} {Q : Exit → Act → World → Prop} (hgd : o.guard = none) (ty : TypeId) (x y : Operand) (ho : o.op = .store ty x y)
    (g : Nat) (cells : Array Value) (hx : a.eval x = .pointer (some ⟨g, 0, none⟩)) (hy : a.eval y = .agg cells)
    (old : Array Value) (hg : Holds w g old) (hi : (P.info? ty).map (·.size) = some cells.size)
    (hold : old.size = cells.size) (h1 : cells.all (·.oneCell') = true)
    (h : ∀ w', w' = w.setRow g cells → wpList P ops Q rest (a.put o.dst undef) w') : wpList P ops Q (o :: rest) a w := by
  obtain ⟨T, hg⟩ := hg
  exact wpList_store_row hgd ty x y ho g cells hx hy T old hg hi hold h1 (h _ rfl)
theorem below_drewN_ {B : Nat} {a w : World} (h : Below B a w) (n : Nat) : Below B a (w.drewN n) := ⟨h.os, h.tape, h.output, h.size, h.block⟩
end Go.Proofs.YtdifbndpgbdkbaaDoor
