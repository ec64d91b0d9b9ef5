/- Layer 7: four bytes as a key of a map. -/
import Derived.Test.YtmcdanodacbpbaaWinOwn8
import Derived.DeepKeys4
import Derived.Maps.Keyed
namespace Go.Proofs.Ytmcdanodacbpbaa
open Go.RowKit Go.Maps
set_option linter.unusedVariables false
set_option linter.unusedSimpArgs false

theorem laidOut7 : laidOutB Try.prog = true := by kernel_rfl
theorem row4 : (64 : TypeId) < Try.prog.types.size := of_decide_eq_true (by kernel_rfl)
theorem wide4 : (match Try.prog.underlying 64 with | some (.array _ _) | some (.struct _) => true | _ => false) = true := by rw [Try.underlying64]
theorem law4 : WideMaps.KeyLaw Try.prog 64 := deep_law_laid laidOut7 (m := 2) (by omega) row4 (by kernel_rfl) wide4
theorem lawF : Keyed Try.prog 64 := Keyed.of_law law4
/-- four bytes, as a value -/
abbrev four4 (a b c d : UInt8) : Value := .agg #[.int .u8 (a.toNat : Int), .int .u8 (b.toNat : Int), .int .u8 (c.toNat : Int), .int .u8 (d.toNat : Int)]
theorem wf8 (a : UInt8) : (Lit.int .u8 (a.toNat : Int)).wf = true := by
  have := a.toNat_lt
  simp [Lit.wf, IntKind.min, IntKind.max, IntKind.signed, IntKind.bits]
  omega
theorem lits8 (m : Nat) (a : UInt8) : Try.prog.keyLits (m + 1) 5 [.int .u8 (a.toNat : Int)] = some [.int .u8 (a.toNat : Int)] := by
  unfold Program.keyLits
  rw [Try.underlying5]
  show (if _ ∧ _ then _ else _) = _
  rw [if_pos ⟨rfl, wf8 a⟩]
theorem key4 (a b c d : UInt8) : keyOf Try.prog 64 (four4 a b c d) = some (.string (keyBytes [.int .u8 (a.toNat : Int), .int .u8 (b.toNat : Int), .int .u8 (c.toNat : Int), .int .u8 (d.toNat : Int)])) := by
  have h4 : Try.prog.cellsOf 64 = 4 := by kernel_rfl
  have h1 : Try.prog.cellsOf 5 = 1 := by kernel_rfl
  have hk : Try.prog.keyType 64 = true := by kernel_rfl
  obtain ⟨m, hm⟩ : ∃ m, Try.prog.types.size = m + 1 := ⟨_, (Nat.succ_pred_eq_of_pos (Nat.lt_of_le_of_lt (Nat.zero_le _) row4)).symm⟩
  have hf : (four4 a b c d).formed Try.prog 64 = true := by simp [Value.formed, Try.underlying64, h4]
  have hl : Try.prog.keyLits (Try.prog.types.size + 1) 64 (four4 a b c d).cells.toList = some [.int .u8 (a.toNat : Int), .int .u8 (b.toNat : Int), .int .u8 (c.toNat : Int), .int .u8 (d.toNat : Int)] := by
    rw [hm]
    unfold Program.keyLits
    rw [Try.underlying64]
    have ec : (four4 a b c d).cells.toList = [.int .u8 (a.toNat : Int), .int .u8 (b.toNat : Int), .int .u8 (c.toNat : Int), .int .u8 (d.toNat : Int)] := rfl
    rw [ec]
    simp only [h4, h1]
    have er : List.range 4 = [0, 1, 2, 3] := rfl
    rw [er]
    simp [lits8]
  unfold keyOf
  rw [Try.underlying64]
  simp only [hk, hf, hl, Bool.and_self, ↓reduceIte]
  rfl
end Go.Proofs.Ytmcdanodacbpbaa
