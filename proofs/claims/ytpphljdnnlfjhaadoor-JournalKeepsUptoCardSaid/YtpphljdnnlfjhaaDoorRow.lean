/- A block of the call's own that holds just these values, all of which can be written. -/
import Derived.Test.YtpphljdnnlfjhaaDoorChecked
import Derived.WalkKit
import Derived.Below
import Derived.OneCell
import Derived.OwnWalk
import Derived.Lib.Hide
import Derived.LoopTactic
import Derived.Outline
import Derived.BigQuiet
import Derived.Deep.QuietTactic
import Derived.Maps.AppendAt
import Derived.Maps.Range
import Derived.IntWalk
import Derived.StillTailTactics
namespace Go.Proofs.YtpphljdnnlfjhaaDoor
open Go.RowKit
set_option linter.unusedVariables false
set_option linter.unusedSimpArgs false

def Row (w : World) (B : Nat) (t : TypeId) (xs : List Value) : Prop := w.heap[B]? = some (.cells xs.toArray t (0, 0))
theorem Row.cell {w : World} {B : Nat} {t : TypeId} {xs : List Value} (h : Row w B t xs) (i : Nat) (hi : i < xs.length) : w.cell? ⟨B, i, none⟩ = some xs[i] := by
  unfold Row at h
  simp [World.cell?, h, hi]
theorem Row.free {w : World} {B : Nat} {t : TypeId} {xs : List Value} (h : Row w B t xs) (i : Nat) : w.frozen? ⟨B, i, none⟩ = false := by
  unfold Row at h
  simp [World.frozen?, h]
theorem Row.lt {w : World} {B : Nat} {t : TypeId} {xs : List Value} (h : Row w B t xs) : B < w.heap.size := lt_of_block h
theorem Row.set {w : World} {B : Nat} {t : TypeId} {xs : List Value} (h : Row w B t xs) (i : Nat) (v : Value) (hi : i < xs.length) : Row (w.setCell ⟨B, i, none⟩ v) B t (xs.set i v) := by
  have hlt := h.lt
  unfold Row at h ⊢
  have h' : w.heap[B] = .cells xs.toArray t (0, 0) := by simpa [Array.getElem?_eq_getElem hlt] using h
  show (w.heap.modify B _)[B]? = _
  rw [Array.getElem?_eq_getElem (by simpa using hlt), Array.getElem_modify_self, h']
  simp [Obj.cells, hi]
theorem Row.kept {w w' : World} {B : Nat} {r : Option Nat} {t : TypeId} {xs : List Value} (h : Row w B t xs) (hg : w.grownBy w' r) (hne : some B ≠ r) : Row w' B t xs :=
  (hg.block B h.lt hne).trans h
theorem Row.below {w w' : World} {B : Nat} {t : TypeId} {xs : List Value} (h : Row w B t xs) (hb : Below w.heap.size w w') : Row w' B t xs :=
  (hb.block B h.lt).trans h
theorem Row.new (w : World) (t : TypeId) (xs : List Value) : Row (w.alloc (.cells xs.toArray t)) w.heap.size t xs := heap_alloc_new _ _
theorem grownBy_of_below {w w' : World} (h : Below w.heap.size w w') (r : Option Nat) : w.grownBy w' r := ⟨h.os, h.tape, h.output, h.size, fun k hk _ => h.block k hk⟩
theorem grownBy_set (w : World) (B i : Nat) (v : Value) : w.grownBy (w.setCell ⟨B, i, none⟩ v) (some B) :=
  ⟨rfl, rfl, rfl, by simp [World.setCell], fun k _ hk => Below.heap_setCell _ _ _ _ (fun e => hk (by rw [e]))⟩
theorem grownBy_drew (w : World) (r : Option Nat) : w.grownBy w.drew r := ⟨rfl, rfl, rfl, Nat.le_refl _, fun _ _ _ => rfl⟩
theorem grownBy_drewN (w : World) (n : Nat) (r : Option Nat) : w.grownBy (w.drewN n) r := ⟨rfl, rfl, rfl, Nat.le_refl _, fun _ _ _ => rfl⟩
theorem grownBy_alloc (w : World) (o : Obj) (r : Option Nat) : w.grownBy (w.alloc o) r := ⟨rfl, rfl, rfl, by simp, fun k hk _ => Below.heap_alloc w o k hk⟩
theorem grownBy_refl (w : World) (r : Option Nat) : w.grownBy w r := ⟨rfl, rfl, rfl, Nat.le_refl _, fun _ _ _ => rfl⟩
theorem below_drewN' {B : Nat} {a w : World} (h : Below B a w) (n : Nat) : Below B a (w.drewN n) := ⟨h.os, h.tape, h.output, h.size, h.block⟩
theorem quiet_eq {P : Program} {f : FuncId} {args : Array Value} {w : World} {n : Nat} {v : Value}
    (h : Calls P f args (w.drewN n) fun e w' => e = .returned v ∧ w.drewN n = w') : Calls P f args (w.drewN n) fun e w'' => e = .returned v ∧ ∃ m, w'' = w.drewN m :=
  h.mono fun _ _ ⟨he, hm⟩ => ⟨he, n, hm.symm⟩
abbrev I (n : Int) : Value := .int .i64 n
/-- numbers -/
abbrev Is (L : List Int) : List Value := L.map I
theorem Is_set (L : List Int) (k : Nat) (x : Int) : (Is L).set k (I x) = Is (L.set k x) := (List.map_set (f := I) (l := L) (i := k) (a := x)).symm
theorem Row.num {w : World} {B : Nat} {t : TypeId} {L : List Int} (h : Row w B t (Is L)) (k : Nat) (hk : k < L.length) : w.cell? ⟨B, k, none⟩ = some (.int .i64 (L.getD k 0)) := by
  have := h.cell k (by simpa using hk)
  rw [this]
  simp [List.getD, hk]
theorem Row.setNum {w : World} {B : Nat} {t : TypeId} {L : List Int} (h : Row w B t (Is L)) (k : Nat) (x : Int) (hk : k < L.length) : Row (w.setCell ⟨B, k, none⟩ (.int .i64 x)) B t (Is (L.set k x)) := by
  rw [← Is_set]
  exact h.set k _ (by simpa using hk)
/-- a drawn region that reads, and then does one thing: the world in which it does so, by a name -/
theorem region_named {P : Program} {id : Nat} {Q : Exit → Act → World → Prop} {a : Act} {w : World} {l : List Oper} (n : Nat) (hm : P.follows .mixedOrders = true) (hB : Region.lexTailB .any l.toArray n = true)
    (h : ∀ w3 : World, w3 = w.drew → wpStill P l.toArray w3 (fun a' => wpList P l.toArray Q (l.drop n) a' w3) (l.take n) a) : (Code.region id l.toArray true).wp P Q a w :=
  wp_region_still_tail n hm hB (h _ rfl)
theorem cell_drew {w w3 : World} (h : w3 = w.drew) (b : Nat) (o : Nat) : w3.cell? ⟨b, o, none⟩ = w.cell? ⟨b, o, none⟩ := by subst h; rfl
theorem frozen_drew {w w3 : World} (h : w3 = w.drew) (b : Nat) (o : Nat) : w3.frozen? ⟨b, o, none⟩ = w.frozen? ⟨b, o, none⟩ := by subst h; rfl
end Go.Proofs.YtpphljdnnlfjhaaDoor
