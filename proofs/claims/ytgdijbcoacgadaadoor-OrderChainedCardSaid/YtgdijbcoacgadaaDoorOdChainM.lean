/- the law OrderChained. -/
import Derived.Test.YtgdijbcoacgadaaDoorOdFlip
namespace Go.Proofs.YtgdijbcoacgadaaDoor
open Go.RowKit
set_option linter.unusedVariables false
set_option linter.unusedSimpArgs false
set_option maxRecDepth 100000

/-- what a step of the chain comes to -/
theorem Od.Good.link {rs : List Rp} (h : Od.Good rs) (i : Nat) (hi : i < rs.length) : Rp.linkE ⟨i, rs[i].kind, rs[i].time, rs[i].body, Od.head (rs.take i), Tx.zero⟩ = (rs[i], 0) := by
  have ht := h.took i hi
  have e : (⟨i, rs[i].kind, rs[i].time, rs[i].body, Od.head (rs.take i), Tx.zero⟩ : Rp) = Od.raw (rs.take i) rs[i].kind rs[i].body rs[i].time := by
    unfold Od.raw
    rw [List.length_take, Nat.min_eq_left (by omega)]
  rw [e]
  unfold Rp.linkE
  rw [if_pos ht.ok, ← ht.r]
theorem Od.Good.rises {rs : List Rp} (h : Od.Good rs) (j : Nat) (hj : j + 1 < rs.length) : rs[j].time ≤ rs[j + 1].time := by
  have ht := (h.took (j + 1) hj).notEarly
  have hl : (rs.take (j + 1)).length = j + 1 := by rw [List.length_take]; omega
  have e := (Od.last_at hl).2
  rw [e, List.getElem_take] at ht
  have hne : rs.take (j + 1) ≠ [] := by intro q; rw [q] at hl; cases hl
  exact Int.not_lt.1 fun q => ht ⟨hne, q⟩
theorem Od.head_next {rs : List Rp} (i : Nat) (hi : i < rs.length) : Od.head (rs.take (i + 1)) = rs[i].hash := by
  rw [← List.take_append_getElem hi, Od.head_push]
/-- a message of somebody, as it was taken -/
theorem Od.Good.tx {rs : List Rp} (h : Od.Good rs) (i : Nat) (hi : i < rs.length) (hk : rs[i].kind = 1) : ∃ t : Tx, Tx.read rs[i].body.data.toList = some t ∧ t.signedE = 0 ∧ t.nonce = (Od.cnt (rs.take i) t.frm : Int) ∧ Od.by_ rs[i] = t.frm ∧ 0 ≤ t.frm ∧ t.frm ≤ 63 := by
  have ha := (h.took i hi).asks
  unfold Od.ask at ha
  rw [if_pos hk] at ha
  cases hr : Tx.read rs[i].body.data.toList with
  | none => rw [hr] at ha; simp at ha
  | some t =>
    rw [hr] at ha
    simp only at ha
    have hf := Tx.err_frm19 (Tx.read_err hr).2
    by_cases h1 : t.signedE = 0
    · rw [if_pos h1] at ha
      by_cases h2 : t.nonce = (Od.cnt (rs.take i) t.frm : Int)
      · refine ⟨t, rfl, h1, h2, ?_, hf⟩
        unfold Od.by_ Od.whose
        rw [if_pos hk, hr]
      · rw [if_neg h2] at ha; simp at ha
    · rw [if_neg h1] at ha; simp at ha
theorem Od.nexts_step {rs : List Rp} (i : Nat) (hi : i < rs.length) (f : Nat) (hb : Od.by_ rs[i] = (f : Int)) (hf : f < 64) : Od.nexts (rs.take (i + 1)) = (Od.nexts (rs.take i)).set f ((Od.cnt (rs.take i) (f : Int) : Int) + 1) := by
  rw [← List.take_append_getElem hi, Od.nexts_set hb hf]
theorem Od.Good.nexts_keep {rs : List Rp} (h : Od.Good rs) (i : Nat) (hi : i < rs.length) (hk : rs[i].kind ≠ 1) : Od.nexts (rs.take (i + 1)) = Od.nexts (rs.take i) := by
  rw [← List.take_append_getElem hi, Od.nexts_same (by unfold Od.by_ Od.whose; rw [if_neg hk])]
end Go.Proofs.YtgdijbcoacgadaaDoor
