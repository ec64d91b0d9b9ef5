/- A pool in memory. -/
import Derived.Test.YtoicpidiejhjeaaPlMath
import Derived.Test.YtoicpidiejhjeaaChg
import Derived.Test.YtoicpidiejhjeaaAppAt
import Derived.WalkMore
import Derived.Deep.LoopGhost
import Derived.Deep.RegionLaw
import Derived.Lib.Walk
import Derived.Lib.SliceRun
namespace Go.Proofs.Ytoicpidiejhjeaa
open Go.RowKit
set_option linter.unusedVariables false
set_option linter.unusedSimpArgs false
set_option maxRecDepth 100000

theorem wait_info : (Try.prog.info? 38).map (·.size) = some 76 := by kernel_rfl
theorem wait_zv (W : World) : (zeroValue 38).run Try.prog W = .ok (.agg Wt.none.cells.toArray) W := by kernel_rfl
theorem wait_built0 : Try.prog.built 38 [] = some Wt.none.cells.toArray := by kernel_rfl
theorem Wt.cells_one {w : Wt} (h : w.Ok) : ∀ v ∈ w.cells, v.oneCell' = true := by
  intro v hv
  rcases List.mem_append.1 hv with h1 | h1
  · exact Tx.cells_one h.tx v h1
  · unfold Wt.tail at h1
    simp at h1
    rcases h1 with rfl | rfl | rfl | rfl <;> rfl
theorem Wt.at_tail {w : Wt} (h : w.Ok) (j : Nat) : w.cells[72 + j]? = w.tail[j]? := by
  unfold Wt.cells
  rw [List.getElem?_append_right (by rw [Tx.cells_length h.tx]; omega), Tx.cells_length h.tx, Nat.add_sub_cancel_left]
theorem Wt.at_head {w : Wt} (h : w.Ok) (j : Nat) (hj : j < 72) : w.cells[j]? = w.tx.cells[j]? := by
  unfold Wt.cells
  rw [List.getElem?_append_left (by rw [Tx.cells_length h.tx]; omega)]
/-- the cells of a Wait that a program asks for -/
def WBox (W : World) (g o : Nat) (w : Wt) : Prop :=
  W.cell? ⟨g, o, none⟩ = some (.int .i64 w.tx.frm) ∧ W.cell? ⟨g, o + 1, none⟩ = some (.int .i64 w.tx.nonce) ∧ W.cell? ⟨g, o + 2, none⟩ = some (.int .i64 w.tx.fee) ∧
  W.cell? ⟨g, o + 72, none⟩ = some (.int .i64 w.ix) ∧ W.cell? ⟨g, o + 73, none⟩ = some (.int .i64 w.till) ∧ W.cell? ⟨g, o + 74, none⟩ = some (.int .i64 w.at_) ∧ W.cell? ⟨g, o + 75, none⟩ = some (.int .i64 w.place)
theorem WBox.of {W : World} {g o : Nat} {w : Wt} (hw : w.Ok) (h : W.rangeAt g o w.cells) : WBox W g o w :=
  ⟨h 0 _ (by rw [Wt.at_head hw _ (by omega)]; rfl), h 1 _ (by rw [Wt.at_head hw _ (by omega)]; rfl), h 2 _ (by rw [Wt.at_head hw _ (by omega)]; rfl),
   h 72 _ (Wt.at_tail hw 0), h 73 _ (Wt.at_tail hw 1), h 74 _ (Wt.at_tail hw 2), h 75 _ (Wt.at_tail hw 3)⟩
theorem WBox.row {W : World} {g : Nat} {T : TypeId} {w : Wt} (hw : w.Ok) (h : Row W g T w.cells) :
  W.cell? ⟨g, 0, none⟩ = some (.int .i64 w.tx.frm) ∧ W.cell? ⟨g, 1, none⟩ = some (.int .i64 w.tx.nonce) ∧ W.cell? ⟨g, 2, none⟩ = some (.int .i64 w.tx.fee) ∧
  W.cell? ⟨g, 72, none⟩ = some (.int .i64 w.ix) ∧ W.cell? ⟨g, 73, none⟩ = some (.int .i64 w.till) ∧ W.cell? ⟨g, 74, none⟩ = some (.int .i64 w.at_) ∧ W.cell? ⟨g, 75, none⟩ = some (.int .i64 w.place) := by
  have := WBox.of hw (row_range h)
  unfold WBox at this
  simpa only [Nat.zero_add] using this
theorem Wt.tx_range {W : World} {g o : Nat} {w : Wt} (hw : w.Ok) (h : W.rangeAt g o w.cells) : W.rangeAt g o w.tx.cells := fun j v hv => h j v (by
  rw [Wt.at_head hw _ (by have := (List.getElem?_eq_some_iff.1 hv).1; rw [Tx.cells_length hw.tx] at this; exact this)]; exact hv)
/-- a list of structs in memory -/
def LsAt {α : Type} (f : α → List Value) (m : Nat) (w : World) (B : Nat) (A : Option Addr) (l : List α) : Prop := l ≠ [] → ∃ g, A = some ⟨g, 0, none⟩ ∧ g < B ∧ ∀ i (h : i < l.length), w.rangeAt g (i * m) (f l[i])
theorem LsAt.below {α : Type} {f : α → List Value} {m : Nat} {w w' : World} {B : Nat} {A : Option Addr} {l : List α} (h : LsAt f m w B A l) (hb : Below B w w') : LsAt f m w' B A l := fun hne => by
  obtain ⟨g, e, hg, ha⟩ := h hne
  exact ⟨g, e, hg, fun i hi j v hv => (hb.cell (p := ⟨g, i * m + j, none⟩) hg).trans (ha i hi j v hv)⟩
theorem LsAt.mono {α : Type} {f : α → List Value} {m : Nat} {w : World} {B B' : Nat} {A : Option Addr} {l : List α} (h : LsAt f m w B A l) (hB : B ≤ B') : LsAt f m w B' A l := fun hne => by
  obtain ⟨g, e, hg, ha⟩ := h hne
  exact ⟨g, e, by omega, ha⟩
theorem OwnL.lsAt {α : Type} {f : α → List Value} {m : Nat} {w : World} {base : Nat} {e : TypeId} {A : Option Addr} {n c : Nat} {l : List α} (h : OwnL w base e m f (.slice A n c) l) (hm : ∀ x ∈ l, (f x).length = m) : LsAt f m w w.heap.size A l := fun hne => by
  obtain ⟨g, c', e1, hb, hg⟩ := h.ne hne
  injection e1 with e1 e2 e3
  subst e1
  exact ⟨g, rfl, hg, fun i hi => h.at hm i hi⟩
abbrev WL (w : World) (base : Nat) (v : Value) (l : List Wt) : Prop := OwnL w base 38 76 Wt.cells v l
/-- a pool (the own one's type, or the reference's) -/
structure PAt (T : TypeId) (w : World) (base B : Nat) (v : Value) (size : Nat) (l : List Wt) : Prop where
  row : Row w B T [.int .i64 size, v]
  own : OwnL w base 38 76 Wt.cells v l
  ok : Pl.Ok size l
  size : 0 < size ∧ size ≤ 256
  lo : base ≤ B
def PS (B : Nat) (v : Value) (k : Nat) : Prop := k = B ∨ v.ownBlock = some k
section
variable {T : TypeId} {w w' : World} {base B size : Nat} {v : Value} {l : List Wt}
theorem PAt.chg {S : Nat → Prop} (h : PAt T w base B v size l) (hc : Chg S w w') (hS : ∀ k, PS B v k → ¬ S k) : PAt T w' base B v size l :=
  ⟨hc.row h.row (hS _ (.inl rfl)), h.own.chg hc (fun k hk => hS k (.inr hk)), h.ok, h.size, h.lo⟩
theorem PAt.below (h : PAt T w base B v size l) (hb : Below w.heap.size w w') : PAt T w' base B v size l :=
  h.chg (S := fun _ => False) (Chg.of_below hb) (fun _ _ h => h)
theorem PAt.lt (h : PAt T w base B v size l) : ∀ k, PS B v k → base ≤ k ∧ k < w.heap.size := by
  rintro k (rfl | hk)
  · exact ⟨h.lo, h.row.lt⟩
  · exact h.own.lt k hk
theorem PAt.c0 (h : PAt T w base B v size l) : w.cell? ⟨B, 0, none⟩ = some (.int .i64 size) := h.row.cell 0 (by simp)
theorem PAt.c1 (h : PAt T w base B v size l) : w.cell? ⟨B, 1, none⟩ = some v := h.row.cell 1 (by simp)
theorem PAt.wok (h : PAt T w base B v size l) : ∀ x ∈ l, x.Ok := fun x hx => (h.ok.may x hx).1
theorem PAt.n256 (h : PAt T w base B v size l) : l.length ≤ 256 := Nat.le_trans h.ok.len h.size.2
end
theorem Wt.lens {l : List Wt} (h : ∀ x ∈ l, x.Ok) : ∀ x ∈ l, (Wt.cells x).length = 76 := fun x hx => Wt.cells_len (h x hx)
/-- what a call makes of a pool -/
def PTo (T : TypeId) (w w' : World) (base B : Nat) (v : Value) (size : Nat) (l' : List Wt) : Prop :=
  ∃ v', PAt T w' base B v' size l' ∧ Chg (PS B v) w w' ∧ ∀ k, PS B v' k → PS B v k ∨ w.heap.size ≤ k
theorem PAt.to {T : TypeId} {w w' : World} {base B size : Nat} {v : Value} {l : List Wt} (h : PAt T w base B v size l) (hb : Below w.heap.size w w') : PTo T w w' base B v size l :=
  ⟨v, h.below hb, Chg.of_below hb, fun k hk => .inl hk⟩
end Go.Proofs.Ytoicpidiejhjeaa
