/- The reference's lane in memory. -/
import Derived.Test.YtlapmdgkcidhnaaDoorLnMap
import Derived.Test.YtlapmdgkcidhnaaDoorChg
namespace Go.Proofs.YtlapmdgkcidhnaaDoor
open Go.RowKit Go.Maps
set_option linter.unusedVariables false
set_option linter.unusedSimpArgs false

def Ln.hc (h : Ln.H) : List Value := [.int .i64 h.round, .int .i64 h.who, .int .i64 h.turn]
theorem Ln.hc_len (L : List Ln.H) : ∀ x ∈ L, (Ln.hc x).length = 3 := fun _ _ => rfl
theorem held_info : (Tryd.prog.info? 82).map (fun i => (i.zero, i.size, i.bytes)) = some (some (.agg #[.int .i64 0, .int .i64 0, .int .i64 0]), 3, 24) := by kernel_rfl
/-- the reference's lane: its block B, its list v above base -/
structure RLaneAt (w : World) (base B : Nat) (v : Value) (len : Int) (L : List Ln.H) (n : Nat) : Prop where
  row : Row w B 85 [.int .i64 len, v]
  own : OwnL w base 82 3 Ln.hc v L
  ok : Ln.Ok n L
  len : 1 ≤ len ∧ len ≤ 1099511627776
  lo : base ≤ B
def RLnS (B : Nat) (v : Value) (k : Nat) : Prop := k = B ∨ v.ownBlock = some k
theorem RLaneAt.chg {S : Nat → Prop} {w w' : World} {base B n : Nat} {v : Value} {len : Int} {L : List Ln.H} (h : RLaneAt w base B v len L n) (hc : Chg S w w') (hS : ∀ k, RLnS B v k → ¬ S k) : RLaneAt w' base B v len L n :=
  ⟨hc.row h.row (hS _ (.inl rfl)), h.own.chg hc (fun k hk => hS k (.inr hk)), h.ok, h.len, h.lo⟩
theorem RLaneAt.below {w w' : World} {base B n : Nat} {v : Value} {len : Int} {L : List Ln.H} (h : RLaneAt w base B v len L n) (hb : Below w.heap.size w w') : RLaneAt w' base B v len L n :=
  h.chg (S := fun _ => False) (Chg.of_below hb) (fun _ _ h => h)
theorem RLaneAt.mono {w : World} {base B n m : Nat} {v : Value} {len : Int} {L : List Ln.H} (h : RLaneAt w base B v len L n) (hm : n ≤ m) : RLaneAt w base B v len L m :=
  ⟨h.row, h.own, h.ok.mono hm, h.len, h.lo⟩
theorem RLaneAt.lt {w : World} {base B n : Nat} {v : Value} {len : Int} {L : List Ln.H} (h : RLaneAt w base B v len L n) : ∀ k, RLnS B v k → base ≤ k ∧ k < w.heap.size := by
  rintro k (rfl | hk)
  · exact ⟨h.lo, h.row.lt⟩
  · exact h.own.lt k hk
theorem RLaneAt.c0 {w : World} {base B n : Nat} {v : Value} {len : Int} {L : List Ln.H} (h : RLaneAt w base B v len L n) : w.cell? ⟨B, 0, none⟩ = some (.int .i64 len) := h.row.cell 0 (by simp)
theorem RLaneAt.c1 {w : World} {base B n : Nat} {v : Value} {len : Int} {L : List Ln.H} (h : RLaneAt w base B v len L n) : w.cell? ⟨B, 1, none⟩ = some v := h.row.cell 1 (by simp)
/-- both lanes, apart -/
theorem lanes_apart {w : World} {base B RB M n m : Nat} {v : Value} {len len' : Int} {L L' : List Ln.H} (h : LaneAt w B M len L n) (k : RLaneAt w base RB v len' L' m) : ∀ x, RLnS RB v x → x ≠ B ∧ x ≠ M := by
  obtain ⟨D, N, _, hD, _⟩ := h.map
  rintro x (rfl | hx)
  · exact ⟨row_ne_row k.row h.row (by decide), row_ne_map hD k.row⟩
  · exact ⟨fun e => by subst e; exact k.own.ne_block h.row (by decide) hx, fun e => by subst e; exact own_ne_map hD k.own hx⟩
end Go.Proofs.YtlapmdgkcidhnaaDoor
