/- What later texts need of the earlier layers. -/
import Derived.Test.YtoicpidiejhjeaaDoorSlO
import Derived.Test.YtoicpidiejhjeaaDoorSlS
import Derived.Test.YtoicpidiejhjeaaDoorSlT
import Derived.Test.YtoicpidiejhjeaaDoorSlC
import Derived.Test.YtoicpidiejhjeaaDoorSlA
/- ---- TxBack ---- -/
/- Transactions go there and back: the mathematics; what is signed stays signed. -/
namespace Go.Proofs.YtoicpidiejhjeaaDoor
open Go.RowKit
set_option linter.unusedVariables false
set_option linter.unusedSimpArgs false

namespace Tx
theorem num_back {n : Int} (h0 : 0 ≤ n) (h1 : n ≤ 1099511627776) : numAll (Oct.num n.toNat) = some n := by
  rw [numAll_num (by omega)]
  congr 1
  omega
theorem fill5 (t : Tx) (a b c d : List UInt8) (e : List UInt8) (u : Tx) : fill t 0 [a, b, c, d, e] = some u ↔ ∃ n0 n1 n2 n3, numAll a = some n0 ∧ numAll b = some n1 ∧ numAll c = some n2 ∧ numAll d = some n3 ∧ u = { t with frm := n0, nonce := n1, fee := n2, to := n3 } := by
  unfold fill
  cases numAll a <;> simp
  unfold fill
  cases numAll b <;> simp
  unfold fill
  cases numAll c <;> simp
  unfold fill
  cases numAll d <;> simp
  unfold fill
  simp
  unfold fill
  simp [put]
  exact eq_comm
theorem fill7 (t : Tx) (a b c d : List UInt8) (e f g : List UInt8) (u : Tx) : fill t 0 [a, b, c, d, e, f, g] = some u ↔ ∃ n0 n1 n2 n3 n5 n6, numAll a = some n0 ∧ numAll b = some n1 ∧ numAll c = some n2 ∧ numAll d = some n3 ∧ numAll f = some n5 ∧ numAll g = some n6 ∧ u = { t with frm := n0, nonce := n1, fee := n2, to := n3, round := n5, turn := n6 } := by
  unfold fill
  cases numAll a <;> simp
  unfold fill
  cases numAll b <;> simp
  unfold fill
  cases numAll c <;> simp
  unfold fill
  cases numAll d <;> simp
  unfold fill
  simp
  unfold fill
  cases numAll f <;> simp
  unfold fill
  cases numAll g <;> simp
  unfold fill
  simp [put]
  exact eq_comm
theorem body_fields {t : Tx} {b : List UInt8} (h : t.bodyE = (b, 0)) : t.err = 0 ∧ Oct.listE t.fields = (b, 0) := by
  unfold bodyE at h
  split at h
  · exact ⟨by assumption, h⟩
  · next h1 => simp at h; exact absurd h.2 h1
/-- what is laid is read as itself -/
theorem read_text {t : Tx} (ht : t.Ok) {a : List UInt8} (h : t.textE = (a, 0)) : read a = some t := by
  unfold textE at h
  split at h
  · next hb =>
    obtain ⟨b, hbe⟩ : ∃ b, b = t.bodyE.1 := ⟨_, rfl⟩
    have hbody : t.bodyE = (b, 0) := by rw [hbe, ← hb]
    rw [← hbe] at h
    obtain ⟨he, hf⟩ := body_fields hbody
    have hL := listAll_listE h
    have hF := listAll_listE hf
    obtain ⟨h1, h2, h3, h4, h5, h6, h7⟩ := err_ok he
    unfold read
    rw [hL]
    simp only
    rcases Bool.eq_false_or_eq_true t.lane with hl | hl
    · have ho : t.outer b = [b, t.tag, t.bY] := by unfold outer; rw [if_pos hl]
      have hfs : t.fields = [Oct.num t.frm.toNat, Oct.num t.nonce.toNat, Oct.num t.fee.toNat, Oct.num t.to.toNat, t.data.data.toList, Oct.num t.round.toNat, Oct.num t.turn.toNat] := by unfold fields lays; rw [if_pos hl]; rfl
      have hsg : signs none 0 [t.tag, t.bY] = some { none with tag := t.tag, bY := t.bY, lane := true } := by
        unfold signs
        rw [if_pos ht.tag]
        unfold signs
        rw [if_pos ht.bY]
        rfl
      rw [ho, if_pos (by simp)]
      show readOf b (signs none 0 [t.tag, t.bY]) = _
      rw [hsg]
      have hbr : bodyRead { none with tag := t.tag, bY := t.bY, lane := true } b = some t := by
        unfold bodyRead
        rw [hF]
        simp only
        rw [hfs]
        refine (if_pos (by rfl)).trans ?_
        refine (fill7 _ _ _ _ _ _ _ _ _).2 ⟨_, _, _, _, _, _, num_back h1.1 (by omega), num_back h2.1 h2.2, num_back h3.1 h3.2, num_back h4.1 (by omega), num_back (h5 hl).1.1 (h5 hl).1.2, num_back (h5 hl).2.1 (h5 hl).2.2, ?_⟩
        cases t
        simp only [withData] at hl ⊢
        subst hl
        congr 1
      unfold readOf
      simp only
      rw [hbr]
      simp only
      rw [if_pos he]
    · have ho : t.outer b = [b, t.tag] := by unfold outer; rw [if_neg (by rw [hl]; simp)]
      have hfs : t.fields = [Oct.num t.frm.toNat, Oct.num t.nonce.toNat, Oct.num t.fee.toNat, Oct.num t.to.toNat, t.data.data.toList] := by unfold fields lays; rw [if_neg (by rw [hl]; simp)]; rfl
      have hsg : signs none 0 [t.tag] = some { none with tag := t.tag } := by
        unfold signs
        rw [if_pos ht.tag]
        rfl
      rw [ho, if_pos (by simp)]
      show readOf b (signs none 0 [t.tag]) = _
      rw [hsg]
      have hbr : bodyRead { none with tag := t.tag } b = some t := by
        unfold bodyRead
        rw [hF]
        simp only
        rw [hfs]
        refine (if_pos (by rfl)).trans ?_
        refine (fill5 _ _ _ _ _ _ _).2 ⟨_, _, _, _, num_back h1.1 (by omega), num_back h2.1 h2.2, num_back h3.1 h3.2, num_back h4.1 (by omega), ?_⟩
        have h6' := h6 hl
        cases t
        simp only [withData] at hl h6' ⊢
        obtain ⟨rfl, rfl, rfl⟩ := h6'
        subst hl
        congr 1
      unfold readOf
      simp only
      rw [hbr]
      simp only
      rw [if_pos he]
  · next hb => simp at h; exact absurd h.2 hb
theorem sign_body (t : Tx) : t.sign.bodyE = t.bodyE := rfl
theorem sign_signed {t : Tx} (h : t.bodyE.2 = 0) : t.sign.signedE = 0 := by
  unfold signedE
  rw [sign_body, if_pos h]
  show Seal.check2 t.frm 1 t.bodyE.1 (Seal.tag t.frm 1 t.bodyE.1).1 = 0
  unfold Seal.check2
  rw [if_neg (by rw [sign_err0 h]; simp), if_neg (by simp)]
end Tx
end Go.Proofs.YtoicpidiejhjeaaDoor
