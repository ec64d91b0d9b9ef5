/- The reference's gate in memory; New. -/
import Derived.Test.YtoicpidiejhjeaaDoorAdRread
import Derived.Test.YtoicpidiejhjeaaDoorChg
namespace Go.Proofs.YtoicpidiejhjeaaDoor
open Go.RowKit
set_option linter.unusedVariables false
set_option linter.unusedSimpArgs false
set_option maxRecDepth 100000

/-- the reference's gate: its block B, its nonces' block N, its list v above base; behind n calls -/
structure RGAt (w : World) (base B K : Nat) (v : Value) (fl : Int) (N : List Int) (L : List Tx) (n : Nat) : Prop where
  row : Row w B 57 [.int .i64 fl, .slice (some ⟨K, 0, none⟩) 64 64, v]
  nx : Row w K 3 (Is N)
  own : OwnL w base 35 72 Tx.cells v L
  len : N.length = 64 ∧ ∀ x ∈ N, 0 ≤ x ∧ x ≤ n
  txs : (∀ t ∈ L, t.Ok ∧ 0 ≤ t.frm ∧ t.frm ≤ 63) ∧ L.length ≤ n
  lo : base ≤ B ∧ base ≤ K
def RGS (B K : Nat) (v : Value) (k : Nat) : Prop := k = B ∨ k = K ∨ v.ownBlock = some k
section
variable {w w' : World} {base B K n m : Nat} {v : Value} {fl : Int} {N : List Int} {L : List Tx}
theorem RGAt.chg {S : Nat → Prop} (h : RGAt w base B K v fl N L n) (hc : Chg S w w') (hS : ∀ k, RGS B K v k → ¬ S k) : RGAt w' base B K v fl N L n :=
  ⟨hc.row h.row (hS _ (.inl rfl)), hc.row h.nx (hS _ (.inr (.inl rfl))), h.own.chg hc (fun k hk => hS k (.inr (.inr hk))), h.len, h.txs, h.lo⟩
theorem RGAt.below (h : RGAt w base B K v fl N L n) (hb : Below w.heap.size w w') : RGAt w' base B K v fl N L n :=
  h.chg (S := fun _ => False) (Chg.of_below hb) (fun _ _ h => h)
theorem RGAt.mono (h : RGAt w base B K v fl N L n) (hm : n ≤ m) : RGAt w base B K v fl N L m :=
  ⟨h.row, h.nx, h.own, ⟨h.len.1, fun x hx => by have := h.len.2 x hx; omega⟩, ⟨h.txs.1, by have := h.txs.2; omega⟩, h.lo⟩
theorem RGAt.lt (h : RGAt w base B K v fl N L n) : ∀ k, RGS B K v k → base ≤ k ∧ k < w.heap.size := by
  rintro k (rfl | rfl | hk)
  · exact ⟨h.lo.1, h.row.lt⟩
  · exact ⟨h.lo.2, h.nx.lt⟩
  · exact h.own.lt k hk
theorem RGAt.c0 (h : RGAt w base B K v fl N L n) : w.cell? ⟨B, 0, none⟩ = some (.int .i64 fl) := h.row.cell 0 (by simp)
theorem RGAt.c1 (h : RGAt w base B K v fl N L n) : w.cell? ⟨B, 1, none⟩ = some (.slice (some ⟨K, 0, none⟩) 64 64) := h.row.cell 1 (by simp)
theorem RGAt.c2 (h : RGAt w base B K v fl N L n) : w.cell? ⟨B, 2, none⟩ = some v := h.row.cell 2 (by simp)
theorem RGAt.cN (h : RGAt w base B K v fl N L n) (i : Nat) (hi : i < 64) : w.cell? ⟨K, i, none⟩ = some (.int .i64 (N.getD i 0)) := by
  have hl : i < N.length := by rw [h.len.1]; exact hi
  have := h.nx.cell i (by simp [Is]; exact hl)
  rw [this, List.getD_eq_getElem?_getD, List.getElem?_eq_getElem hl]
  simp [Is]
end
theorem Tx.cells_lenL (L : List Tx) (h : ∀ t ∈ L, t.Ok) : ∀ t ∈ L, (Tx.cells t).length = 72 := fun t ht => Tx.cells_length (h t ht)
end Go.Proofs.YtoicpidiejhjeaaDoor
