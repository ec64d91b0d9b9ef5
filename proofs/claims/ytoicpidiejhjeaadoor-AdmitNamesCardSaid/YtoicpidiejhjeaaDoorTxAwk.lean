/- What later texts need of the earlier layers. -/
import Derived.Test.YtoicpidiejhjeaaDoorSlO
import Derived.Test.YtoicpidiejhjeaaDoorSlS
import Derived.Test.YtoicpidiejhjeaaDoorSlT
import Derived.Test.YtoicpidiejhjeaaDoorSlC
import Derived.Test.YtoicpidiejhjeaaDoorSlA
import Derived.Test.YtoicpidiejhjeaaDoorTxBack
/- ---- TxAwk ---- -/
/- cavalcadelaw04.awake: what it returns. -/
namespace Go.Proofs.YtoicpidiejhjeaaDoor
open Go.RowKit
set_option linter.unusedVariables false
set_option linter.unusedSimpArgs false

namespace Tx
/-- the one that is signed -/
def one : Tx := ⟨1, 0, 0, 0, ⟨#[97]⟩, false, 0, 0, zero, zero⟩
/-- the one that is not -/
def bare : Tx := ⟨1, 0, 0, 0, ByteArray.empty, false, 0, 0, zero, zero⟩
theorem fits1 : fits 1 := ⟨by decide, by decide⟩
theorem one_ok : one.Ok := ⟨rfl, rfl, by decide, fits1, fits0, fits0, fits0, fits0, fits0⟩
theorem bare_ok : bare.Ok := ⟨rfl, rfl, by decide, fits1, fits0, fits0, fits0, fits0, fits0⟩
theorem one_body : one.bodyE.2 = 0 := by decide +kernel
theorem bare_body : bare.bodyE.2 = 0 := by decide +kernel
theorem one_signE : one.signE = (one.sign, 0) := by
  exact (if_pos one_body).trans (congrArg (fun n => (one.sign, n)) (sign_err0 one_body))
theorem one_len : one.bodyE.1.length ≤ 100 := by decide +kernel
theorem one_text : ∃ a, one.sign.textE = (a, 0) := by
  have hb : one.sign.bodyE.2 = 0 := by rw [sign_body]; exact one_body
  have ho : one.sign.outer one.sign.bodyE.1 = [one.bodyE.1, one.sign.tag] := by rw [sign_body]; exact if_neg (by show ¬ (false = true); simp)
  have hl : one.sign.tag.length = 32 := (sign_ok one_ok).tag
  unfold textE
  rw [if_pos hb, ho]
  have h1 := one_len
  generalize one.bodyE.1 = x at *
  generalize one.sign.tag = y at *
  unfold Oct.listE
  rw [if_neg (by simp)]
  unfold Oct.listGo
  rw [if_neg (by omega)]
  unfold Oct.listGo
  rw [if_neg (by omega)]
  unfold Oct.listGo
  exact ⟨_, rfl⟩
theorem bare_tag : Seal.tagL (Seal.keyL 1) 1 bare.bodyE.1 ≠ zero := by decide +kernel
theorem bare_signed : bare.signedE = 21 := by
  unfold signedE
  rw [if_pos bare_body]
  show Seal.check2 1 1 bare.bodyE.1 zero = 21
  have ht : Seal.tag 1 1 bare.bodyE.1 = (Seal.tagL (Seal.keyL 1) 1 bare.bodyE.1, 0) := by
    unfold Seal.tag
    rw [if_neg (by omega), if_neg (by omega)]
    rfl
  unfold Seal.check2
  rw [ht]
  rw [if_neg (by simp), if_pos bare_tag]
theorem one_signed : one.sign.signedE = 0 := sign_signed one_body
end Tx
theorem one_facts : ∃ (o b u : Tx) (a : List UInt8), o.Ok ∧ b.Ok ∧ u.Ok ∧ o.signE = (u, 0) ∧ u.textE = (a, 0) ∧ u.signedE = 0 ∧ b.signedE = 21 ∧ (Tx.none.arr.setIfInBounds 0 (.int .i64 1)).setIfInBounds 4 (.string ⟨#[97]⟩) = o.arr ∧ Tx.none.arr.setIfInBounds 0 (.int .i64 1) = b.arr := by
  obtain ⟨a, ha⟩ := Tx.one_text
  exact ⟨Tx.one, Tx.bare, Tx.one.sign, a, Tx.one_ok, Tx.bare_ok, Tx.sign_ok Tx.one_ok, Tx.one_signE, ha, Tx.one_signed, Tx.bare_signed, by kernel_rfl, by kernel_rfl⟩
theorem text_call {u : Tx} {a : List UInt8} (hu : u.Ok) (h : u.textE = (a, 0)) (W : World) : Calls Tryd.prog 47 #[.agg u.cells.toArray] W fun e w' => e = .returned (.tuple #[S a, .int .i64 0]) ∧ Below W.heap.size W w' := by
  have h' := text4_any u hu W
  rw [h] at h'
  exact h'
theorem read_call {u : Tx} {a : List UInt8} (hu : u.Ok) (h : u.textE = (a, 0)) (W : World) : Calls Tryd.prog 31 #[S a] W fun e w' => e = .returned (.tuple #[.agg u.cells.toArray, .int .i64 0]) ∧ Below W.heap.size W w' := by
  have hal : a.length ≤ 100000 := by have := Tx.text_len u; rw [h] at this; exact this
  have h' := read4_any ⟨a.toArray⟩ W (by show a.length ≤ _; omega)
  rw [show (⟨a.toArray⟩ : ByteArray).data.toList = a from rfl, Tx.read_text hu h] at h'
  exact h'
theorem signed_call {u : Tx} {n : Int} (hu : u.Ok) (h : u.signedE = n) (W : World) (hW : Tab W) : Calls Tryd.prog 33 #[.agg u.cells.toArray] W fun e w' => e = .returned (.int .i64 n) ∧ Below W.heap.size W w' := by
  have h' := signed4_any u hu W hW
  rw [h] at h'
  exact h'
theorem tx_same (W : World) {t : Tx} (ht : t.Ok) : (Op.equalIn 10000 35 (.agg t.cells.toArray) (.agg t.cells.toArray)).run Tryd.prog W = .ok true W := by
  obtain ⟨r, hr, hi⟩ := tx_eq W t t ht ht
  rw [hi.2 rfl] at hr
  exact hr
end Go.Proofs.YtoicpidiejhjeaaDoor
