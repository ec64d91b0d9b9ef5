/- What later texts need of the earlier layers. -/
import Derived.Test.YtalfnadejpmjnaaGreatDoorNSlO
import Derived.Test.YtalfnadejpmjnaaGreatDoorNSlS
import Derived.Test.YtalfnadejpmjnaaGreatDoorNSlT
import Derived.Test.YtalfnadejpmjnaaGreatDoorNSlC
import Derived.Test.YtalfnadejpmjnaaGreatDoorNSlA
import Derived.Test.YtalfnadejpmjnaaGreatDoorNSlB
import Derived.Test.YtalfnadejpmjnaaGreatDoorNSlD
/- ---- SlY ---- -/
/- What later texts need besides of the earlier layers. -/
namespace Go.Proofs.YtalfnadejpmjnaaGreatDoor
open Go.RowKit
set_option linter.unusedVariables false
set_option linter.unusedSimpArgs false
namespace It
end It
end Go.Proofs.YtalfnadejpmjnaaGreatDoor
namespace Go.Proofs.YtalfnadejpmjnaaGreatDoor
open Go.RowKit
set_option linter.unusedVariables false
set_option linter.unusedSimpArgs false
namespace Bd
end Bd
end Go.Proofs.YtalfnadejpmjnaaGreatDoor
namespace Go.Proofs.YtalfnadejpmjnaaGreatDoor
open Go.RowKit
set_option linter.unusedVariables false
set_option linter.unusedSimpArgs false
namespace Bd
end Bd
end Go.Proofs.YtalfnadejpmjnaaGreatDoor
namespace Go.Proofs.YtalfnadejpmjnaaGreatDoor
open Go.RowKit
set_option linter.unusedVariables false
set_option linter.unusedSimpArgs false
namespace Bd
end Bd
end Go.Proofs.YtalfnadejpmjnaaGreatDoor
namespace Go.Proofs.YtalfnadejpmjnaaGreatDoor
open Go.RowKit
set_option linter.unusedVariables false
set_option linter.unusedSimpArgs false
end Go.Proofs.YtalfnadejpmjnaaGreatDoor
namespace Go.Proofs.YtalfnadejpmjnaaGreatDoor
open Go.RowKit
set_option linter.unusedVariables false
set_option linter.unusedSimpArgs false
end Go.Proofs.YtalfnadejpmjnaaGreatDoor
namespace Go.Proofs.YtalfnadejpmjnaaGreatDoor
open Go.RowKit
set_option linter.unusedVariables false
set_option linter.unusedSimpArgs false
end Go.Proofs.YtalfnadejpmjnaaGreatDoor
namespace Go.Proofs.YtalfnadejpmjnaaGreatDoor
open Go.RowKit
set_option linter.unusedVariables false
set_option linter.unusedSimpArgs false
namespace Bd
def lits (b : Bd) : List Lit := [.int .i64 b.round, .int .i64 b.who, .int .i64 b.amount, .int .i64 b.salt] ++ Tx.hlits b.tag
theorem lits_inj {a b : Bd} (h : a.lits = b.lits) : a = b := by
  obtain ⟨a1, a2, a3, a4, a5⟩ := a
  obtain ⟨b1, b2, b3, b4, b5⟩ := b
  simp only [lits, List.cons_append, List.nil_append, List.cons.injEq, Lit.int.injEq, true_and] at h
  obtain ⟨rfl, rfl, rfl, rfl, h5⟩ := h
  rw [Tx.hlits_inj h5]
end Bd
end Go.Proofs.YtalfnadejpmjnaaGreatDoor
namespace Go.Proofs.YtalfnadejpmjnaaGreatDoor
open Go.RowKit
set_option linter.unusedVariables false
set_option linter.unusedSimpArgs false
namespace Rp
end Rp
end Go.Proofs.YtalfnadejpmjnaaGreatDoor
namespace Go.Proofs.YtalfnadejpmjnaaGreatDoor
open Go.RowKit
set_option linter.unusedVariables false
set_option linter.unusedSimpArgs false
end Go.Proofs.YtalfnadejpmjnaaGreatDoor
namespace Go.Proofs.YtalfnadejpmjnaaGreatDoor
open Go.RowKit
set_option linter.unusedVariables false
set_option linter.unusedSimpArgs false
end Go.Proofs.YtalfnadejpmjnaaGreatDoor
namespace Go.Proofs.YtalfnadejpmjnaaGreatDoor
open Go.RowKit
set_option linter.unusedVariables false
set_option linter.unusedSimpArgs false
end Go.Proofs.YtalfnadejpmjnaaGreatDoor
namespace Go.Proofs.YtalfnadejpmjnaaGreatDoor
open Go.RowKit
set_option linter.unusedVariables false
set_option linter.unusedSimpArgs false
end Go.Proofs.YtalfnadejpmjnaaGreatDoor
namespace Go.Proofs.YtalfnadejpmjnaaGreatDoor
open Go.RowKit
set_option linter.unusedVariables false
set_option linter.unusedSimpArgs false
namespace Rp
def lits (b : Rp) : List Lit := [.int .i64 b.index, .int .i64 b.kind, .int .i64 b.time, .string b.body.data.toList] ++ (Tx.hlits b.prev ++ Tx.hlits b.hash)
theorem lits_inj {a b : Rp} (ha : a.prev.length = 32) (hb : b.prev.length = 32) (h : a.lits = b.lits) : a = b := by
  obtain ⟨a1, a2, a3, a4, a5, a6⟩ := a
  obtain ⟨b1, b2, b3, b4, b5, b6⟩ := b
  simp only [lits, List.cons_append, List.nil_append, List.cons.injEq, Lit.int.injEq, Lit.string.injEq, true_and] at h ha hb
  obtain ⟨rfl, rfl, rfl, h4, h5⟩ := h
  have h4' : a4 = b4 := by
    cases a4; cases b4
    congr 1
    exact Array.toList_inj.1 h4
  subst h4'
  obtain ⟨h5a, h5b⟩ := List.append_inj h5 (by simp [Tx.hlits, ha, hb])
  rw [Tx.hlits_inj h5a, Tx.hlits_inj h5b]
end Rp
theorem rp_lits {b : Rp} (h : b.Fits) : Tryz.prog.keyLits 3 64 b.cells = some b.lits := by
  have hc : Tryz.prog.cellsOf 64 = 68 := by kernel_rfl
  have hI : Tryz.prog.cellsOf 3 = 1 := by kernel_rfl
  have hS : Tryz.prog.cellsOf 9 = 1 := by kernel_rfl
  have hH : Tryz.prog.cellsOf 62 = 32 := by kernel_rfl
  have hm : b.body.size ≤ maxLen := by have := h.body; unfold maxLen; omega
  unfold Program.keyLits
  simp only [Tryz.underlying64]
  rw [if_pos ⟨by rw [hc, Rp.cells_len h.prev h.hash], by kernel_rfl⟩]
  have e0 : Tryz.prog.keyLits 2 3 ((b.cells.drop 0).take (Tryz.prog.cellsOf 3)) = some [.int .i64 b.index] := by rw [hI]; exact lit_int 1 h.index
  have e1 : Tryz.prog.keyLits 2 3 ((b.cells.drop 1).take (Tryz.prog.cellsOf 3)) = some [.int .i64 b.kind] := by rw [hI]; exact lit_int 1 h.kind
  have e2 : Tryz.prog.keyLits 2 3 ((b.cells.drop 2).take (Tryz.prog.cellsOf 3)) = some [.int .i64 b.time] := by rw [hI]; exact lit_int 1 h.time
  have e3 : Tryz.prog.keyLits 2 9 ((b.cells.drop 3).take (Tryz.prog.cellsOf 9)) = some [.string b.body.data.toList] := by rw [hS]; exact lit_str 1 _ hm
  have e4 : Tryz.prog.keyLits 2 62 ((b.cells.drop 4).take (Tryz.prog.cellsOf 62)) = some (Tx.hlits b.prev) := by rw [hH, Rp.cells_prev h.prev]; exact hash_lits _ h.prev
  have e5 : Tryz.prog.keyLits 2 62 ((b.cells.drop 36).take (Tryz.prog.cellsOf 62)) = some (Tx.hlits b.hash) := by rw [hH, Rp.cells_hash h.prev, List.take_of_length_le (by rw [Tx.bRow_len _ h.hash]; omega)]; exact hash_lits _ h.hash
  simp only [List.mapM_cons, List.mapM_nil, e0, e1, e2, e3, e4, e5, Option.bind_eq_bind, Option.bind_some, Option.pure_def, Option.map_some]
  simp [Rp.lits]
/-- two receipts: equal just where all is -/
theorem rp_eq (W : World) (a b : Rp) (ha : a.Fits) (hb : b.Fits) : ∃ r : Bool, (Op.equalIn 10000 64 (.agg a.cells.toArray) (.agg b.cells.toArray)).run Tryz.prog W = .ok r W ∧ (r = true ↔ a = b) := by
  have hk : Tryz.prog.keyTypeAt 3 64 = true := by kernel_rfl
  have hf : ∀ x : Rp, x.Fits → (Value.agg x.cells.toArray).formed Tryz.prog 64 = true := by
    intro x hx
    have hc : Tryz.prog.cellsOf 64 = 68 := by kernel_rfl
    have hs := Rp.cells_len hx.prev hx.hash
    simp [Value.formed, Tryz.underlying64, hs, hc]
  obtain ⟨r, hr, hiff⟩ := run_equalIn_deep (P := Tryz.prog) 9997 3 64 hk W 3 3 (.agg a.cells.toArray) (.agg b.cells.toArray) _ _ (hf a ha) (hf b hb) (by show Tryz.prog.keyLits 3 _ a.cells.toArray.toList = _; exact rp_lits ha) (by show Tryz.prog.keyLits 3 _ b.cells.toArray.toList = _; exact rp_lits hb)
  exact ⟨r, hr, hiff.trans ⟨Rp.lits_inj ha.prev hb.prev, fun h => by rw [h]⟩⟩
theorem rp_eqD (W : World) (a b : Rp) (ha : a.Fits) (hb : b.Fits) {v : Bool} (h : v = true ↔ a = b) : (Op.equalIn 10000 64 (.agg a.cells.toArray) (.agg b.cells.toArray)).run Tryz.prog W = .ok v W := by
  obtain ⟨r, hr, hi⟩ := rp_eq W a b ha hb
  rw [hr]
  have : r = v := by rw [Bool.eq_iff_iff, hi, h]
  rw [this]
end Go.Proofs.YtalfnadejpmjnaaGreatDoor
namespace Go.Proofs.YtalfnadejpmjnaaGreatDoor
open Go.RowKit
set_option linter.unusedVariables false
set_option linter.unusedSimpArgs false
end Go.Proofs.YtalfnadejpmjnaaGreatDoor
namespace Go.Proofs.YtalfnadejpmjnaaGreatDoor
open Go.RowKit
set_option linter.unusedVariables false
set_option linter.unusedSimpArgs false
end Go.Proofs.YtalfnadejpmjnaaGreatDoor
namespace Go.Proofs.YtalfnadejpmjnaaGreatDoor
open Go.RowKit
set_option linter.unusedVariables false
set_option linter.unusedSimpArgs false
namespace Blocks
variable {w0 W W' : World} {l : List (Nat × TypeId × List Value)} {g : Nat} {T : TypeId} {C : List Value}
end Blocks
end Go.Proofs.YtalfnadejpmjnaaGreatDoor
namespace Go.Proofs.YtalfnadejpmjnaaGreatDoor
open Go.RowKit
set_option linter.unusedVariables false
set_option linter.unusedSimpArgs false
namespace No
end No
end Go.Proofs.YtalfnadejpmjnaaGreatDoor
namespace Go.Proofs.YtalfnadejpmjnaaGreatDoor
open Go.RowKit
set_option linter.unusedVariables false
set_option linter.unusedSimpArgs false
end Go.Proofs.YtalfnadejpmjnaaGreatDoor
