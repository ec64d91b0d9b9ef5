/- What later texts need of the earlier layers. -/
import Derived.Test.YtinciddchpccnaaDoorBxO
import Derived.Test.YtinciddchpccnaaDoorWinMath
import Derived.Test.YtinciddchpccnaaDoorWinNum
import Derived.Test.YtinciddchpccnaaDoorOwnApp
import Derived.Test.YtinciddchpccnaaDoorWinOwn
import Derived.Test.YtinciddchpccnaaDoorWinOwn8
import Derived.DeepKeys4
import Derived.Maps.Keyed
set_option maxRecDepth 100000
/- ---- WinKey ---- -/
/- Layer 7: four bytes as a key of a map. -/
namespace Go.Proofs.YtinciddchpccnaaDoor
open Go.RowKit Go.Maps
set_option linter.unusedVariables false
set_option linter.unusedSimpArgs false

theorem laidOut7 : laidOutB Tryd.prog = true := by kernel_rfl
theorem row4 : (141 : TypeId) < Tryd.prog.types.size := of_decide_eq_true (by kernel_rfl)
theorem wide4 : (match Tryd.prog.underlying 141 with | some (.array _ _) | some (.struct _) => true | _ => false) = true := by rw [Tryd.underlying141]
theorem law4 : WideMaps.KeyLaw Tryd.prog 141 := deep_law_laid laidOut7 (m := 2) (by omega) row4 (by kernel_rfl) wide4
theorem lawF : Keyed Tryd.prog 141 := Keyed.of_law law4
/-- four bytes, as a value -/
abbrev four4 (a b c d : UInt8) : Value := .agg #[.int .u8 (a.toNat : Int), .int .u8 (b.toNat : Int), .int .u8 (c.toNat : Int), .int .u8 (d.toNat : Int)]
theorem wf8 (a : UInt8) : (Lit.int .u8 (a.toNat : Int)).wf = true := by
  have := a.toNat_lt
  simp [Lit.wf, IntKind.min, IntKind.max, IntKind.signed, IntKind.bits]
  omega
theorem lits8 (m : Nat) (a : UInt8) : Tryd.prog.keyLits (m + 1) 5 [.int .u8 (a.toNat : Int)] = some [.int .u8 (a.toNat : Int)] := by
  unfold Program.keyLits
  rw [Tryd.underlying5]
  show (if _ ∧ _ then _ else _) = _
  rw [if_pos ⟨rfl, wf8 a⟩]
theorem key4 (a b c d : UInt8) : keyOf Tryd.prog 141 (four4 a b c d) = some (.string (keyBytes [.int .u8 (a.toNat : Int), .int .u8 (b.toNat : Int), .int .u8 (c.toNat : Int), .int .u8 (d.toNat : Int)])) := by
  have h4 : Tryd.prog.cellsOf 141 = 4 := by kernel_rfl
  have h1 : Tryd.prog.cellsOf 5 = 1 := by kernel_rfl
  have hk : Tryd.prog.keyType 141 = true := by kernel_rfl
  obtain ⟨m, hm⟩ : ∃ m, Tryd.prog.types.size = m + 1 := ⟨_, (Nat.succ_pred_eq_of_pos (Nat.lt_of_le_of_lt (Nat.zero_le _) row4)).symm⟩
  have hf : (four4 a b c d).formed Tryd.prog 141 = true := by simp [Value.formed, Tryd.underlying141, h4]
  have hl : Tryd.prog.keyLits (Tryd.prog.types.size + 1) 141 (four4 a b c d).cells.toList = some [.int .u8 (a.toNat : Int), .int .u8 (b.toNat : Int), .int .u8 (c.toNat : Int), .int .u8 (d.toNat : Int)] := by
    rw [hm]
    unfold Program.keyLits
    rw [Tryd.underlying141]
    have ec : (four4 a b c d).cells.toList = [.int .u8 (a.toNat : Int), .int .u8 (b.toNat : Int), .int .u8 (c.toNat : Int), .int .u8 (d.toNat : Int)] := rfl
    rw [ec]
    simp only [h4, h1]
    have er : List.range 4 = [0, 1, 2, 3] := rfl
    rw [er]
    simp [lits8]
  unfold keyOf
  rw [Tryd.underlying141]
  simp only [hk, hf, hl, Bool.and_self, ↓reduceIte]
  rfl
end Go.Proofs.YtinciddchpccnaaDoor
