/- What later texts need of the earlier layers. -/
import Derived.Test.YtalfnadejpmjnaaGreatDoorNSlO
import Derived.Test.YtalfnadejpmjnaaGreatDoorNSlS
import Derived.Test.YtalfnadejpmjnaaGreatDoorNSlT
import Derived.Test.YtalfnadejpmjnaaGreatDoorNSlC
import Derived.Test.YtalfnadejpmjnaaGreatDoorNSlA
/- ---- TxBack ---- -/
/- What later texts need of the earlier layers. -/
/- ---- TxBack ---- -/
/- Transactions go there and back: the mathematics; what is signed stays signed. -/
namespace Go.Proofs.YtalfnadejpmjnaaGreatDoor
open Go.RowKit
set_option linter.unusedVariables false
set_option linter.unusedSimpArgs false

namespace Tx
theorem fill5 (t : Tx) (a b c d : List UInt8) (e : List UInt8) (u : Tx) : fill t 0 [a, b, c, d, e] = some u ↔ ∃ n0 n1 n2 n3, numAll a = some n0 ∧ numAll b = some n1 ∧ numAll c = some n2 ∧ numAll d = some n3 ∧ u = { t with frm := n0, nonce := n1, fee := n2, to := n3 } := by
  unfold fill
  cases numAll a <;> simp
  unfold fill
  cases numAll b <;> simp
  unfold fill
  cases numAll c <;> simp
  unfold fill
  cases numAll d <;> simp
  unfold fill
  simp
  unfold fill
  simp [put]
  exact eq_comm
theorem fill7 (t : Tx) (a b c d : List UInt8) (e f g : List UInt8) (u : Tx) : fill t 0 [a, b, c, d, e, f, g] = some u ↔ ∃ n0 n1 n2 n3 n5 n6, numAll a = some n0 ∧ numAll b = some n1 ∧ numAll c = some n2 ∧ numAll d = some n3 ∧ numAll f = some n5 ∧ numAll g = some n6 ∧ u = { t with frm := n0, nonce := n1, fee := n2, to := n3, round := n5, turn := n6 } := by
  unfold fill
  cases numAll a <;> simp
  unfold fill
  cases numAll b <;> simp
  unfold fill
  cases numAll c <;> simp
  unfold fill
  cases numAll d <;> simp
  unfold fill
  simp
  unfold fill
  cases numAll f <;> simp
  unfold fill
  cases numAll g <;> simp
  unfold fill
  simp [put]
  exact eq_comm
theorem five_of {α : Type} {l : List α} (h : l.length = 5) : ∃ a b c d e, l = [a, b, c, d, e] := by
  match l, h with
  | [a, b, c, d, e], _ => exact ⟨a, b, c, d, e, rfl⟩
theorem seven_of {α : Type} {l : List α} (h : l.length = 7) : ∃ a b c d e f g, l = [a, b, c, d, e, f, g] := by
  match l, h with
  | [a, b, c, d, e, f, g], _ => exact ⟨a, b, c, d, e, f, g, rfl⟩
/-- what is read was laid so -/
theorem readOf_some {d : List UInt8} {F : Option Tx} {u : Tx} (h : readOf d F = some u) : ∃ t, F = some t ∧ t.bodyRead d = some u ∧ u.err = 0 := by
  unfold readOf at h
  cases F with
  | none => simp at h
  | some t =>
    simp only at h
    cases hb : t.bodyRead d with
    | none => rw [hb] at h; simp at h
    | some v =>
      rw [hb] at h
      simp only at h
      split at h
      · next he =>
        simp at h
        subst h
        exact ⟨t, rfl, hb, he⟩
      · simp at h
theorem bodyRead_some {t u : Tx} {d : List UInt8} (h : t.bodyRead d = some u) : ∃ l, Oct.listE l = (d, 0) ∧ (∀ x ∈ l, x.length ≤ 65536) ∧ l.length = t.want ∧ fill (t.withData (l.getD 4 [])) 0 l = some u := by
  unfold bodyRead at h
  cases hL : listAll d with
  | none => rw [hL] at h; simp at h
  | some l =>
    rw [hL] at h
    simp only at h
    split at h
    · next hw => exact ⟨l, listE_listAll hL, listAll_text hL, hw, h⟩
    · simp at h
theorem fits_of {s : List UInt8} {n : Int} (h : numAll s = some n) : fits n := by
  have := num_numAll h
  exact ⟨by omega, this.2.1⟩
theorem fields_lane {t : Tx} (h : t.lane = true) : t.fields = [Oct.num t.frm.toNat, Oct.num t.nonce.toNat, Oct.num t.fee.toNat, Oct.num t.to.toNat, t.data.data.toList, Oct.num t.round.toNat, Oct.num t.turn.toNat] := by unfold fields lays; rw [if_pos h]; rfl
theorem fields_plain {t : Tx} (h : t.lane = false) : t.fields = [Oct.num t.frm.toNat, Oct.num t.nonce.toNat, Oct.num t.fee.toNat, Oct.num t.to.toNat, t.data.data.toList] := by unfold fields lays; rw [if_neg (by rw [h]; simp)]; rfl
/-- the body's reading, laid again -/
theorem body_again {t u : Tx} {d : List UInt8} (ht : t.Ok) (h : t.bodyRead d = some u) (he : u.err = 0) : u.Ok ∧ u.bodyE = (d, 0) ∧ u.lane = t.lane ∧ u.bY = t.bY ∧ u.tag = t.tag := by
  obtain ⟨l, hl, hlt, hw, hf⟩ := bodyRead_some h
  have hb : u.bodyE = Oct.listE u.fields := by unfold bodyE; rw [if_pos he]
  unfold want at hw
  rcases Bool.eq_false_or_eq_true t.lane with hla | hla
  · rw [if_pos hla] at hw
    obtain ⟨a, b, c, e, x, f, g, rfl⟩ := seven_of hw
    obtain ⟨n0, n1, n2, n3, n5, n6, k0, k1, k2, k3, k5, k6, rfl⟩ := (fill7 _ _ _ _ _ _ _ _ _).1 hf
    have hx : x.length ≤ 65536 := hlt x (by simp)
    refine ⟨⟨ht.bY, ht.tag, (by show x.length ≤ _; omega), fits_of k0, fits_of k1, fits_of k2, fits_of k3, fits_of k5, fits_of k6⟩, ?_, rfl, rfl, rfl⟩
    rw [hb, ← hl]
    congr 1
    refine (fields_lane (by exact hla)).trans ?_
    show [Oct.num n0.toNat, Oct.num n1.toNat, Oct.num n2.toNat, Oct.num n3.toNat, x, Oct.num n5.toNat, Oct.num n6.toNat] = _
    rw [(num_numAll k0).2.2, (num_numAll k1).2.2, (num_numAll k2).2.2, (num_numAll k3).2.2, (num_numAll k5).2.2, (num_numAll k6).2.2]
  · rw [if_neg (by rw [hla]; simp)] at hw
    obtain ⟨a, b, c, e, x, rfl⟩ := five_of hw
    obtain ⟨n0, n1, n2, n3, k0, k1, k2, k3, rfl⟩ := (fill5 _ _ _ _ _ _ _).1 hf
    have hx : x.length ≤ 65536 := hlt x (by simp)
    refine ⟨⟨ht.bY, ht.tag, (by show x.length ≤ _; omega), fits_of k0, fits_of k1, fits_of k2, fits_of k3, ht.round, ht.turn⟩, ?_, rfl, rfl, rfl⟩
    rw [hb, ← hl]
    congr 1
    refine (fields_plain (by exact hla)).trans ?_
    show [Oct.num n0.toNat, Oct.num n1.toNat, Oct.num n2.toNat, Oct.num n3.toNat, x] = _
    rw [(num_numAll k0).2.2, (num_numAll k1).2.2, (num_numAll k2).2.2, (num_numAll k3).2.2]
theorem text_read {s : List UInt8} {u : Tx} (h : read s = some u) : u.Ok ∧ u.textE = (s, 0) := by
  unfold read at h
  cases hL : listAll s with
  | none => rw [hL] at h; simp at h
  | some l =>
    rw [hL] at h
    simp only at h
    have hE := listE_listAll hL
    split at h
    · next hw =>
      obtain ⟨t, hs, hb, he⟩ := readOf_some h
      rcases hw with hw | hw
      · obtain ⟨b, x, rfl⟩ : ∃ b x, l = [b, x] := by
          match l, hw with
          | [b, x], _ => exact ⟨b, x, rfl⟩
        have hs' : signs none 0 [x] = some t := hs
        unfold signs at hs'
        split at hs'
        · next hx =>
          have ht : t = { none with tag := x } := by unfold signs at hs'; exact (Option.some.inj hs').symm
          subst ht
          have hto : Ok { none with tag := x } := ⟨rfl, hx, none_ok.data, fits0, fits0, fits0, fits0, fits0, fits0⟩
          have hb' : bodyRead { none with tag := x } b = some u := hb
          obtain ⟨h1, h2, h3, h4, h5⟩ := body_again hto hb' he
          refine ⟨h1, ?_⟩
          unfold textE
          rw [h2]
          refine (if_pos rfl).trans ?_
          have ho : u.outer b = [b, x] := by unfold outer; rw [if_neg (by rw [h3]; simp [none]), h5]
          show Oct.listE (u.outer b) = _
          rw [ho]
          exact hE
        · simp at hs'
      · obtain ⟨b, x, y, rfl⟩ : ∃ b x y, l = [b, x, y] := by
          match l, hw with
          | [b, x, y], _ => exact ⟨b, x, y, rfl⟩
        have hs' : signs none 0 [x, y] = some t := hs
        unfold signs at hs'
        split at hs'
        · next hx =>
          unfold signs at hs'
          split at hs'
          · next hy =>
            have ht : t = { none with tag := x, bY := y, lane := true } := by unfold signs at hs'; exact (Option.some.inj hs').symm
            subst ht
            have hto : Ok { none with tag := x, bY := y, lane := true } := ⟨hy, hx, none_ok.data, fits0, fits0, fits0, fits0, fits0, fits0⟩
            have hb' : bodyRead { none with tag := x, bY := y, lane := true } b = some u := hb
            obtain ⟨h1, h2, h3, h4, h5⟩ := body_again hto hb' he
            refine ⟨h1, ?_⟩
            unfold textE
            rw [h2]
            refine (if_pos rfl).trans ?_
            have ho : u.outer b = [b, x, y] := by unfold outer; rw [if_pos h3, h4, h5]
            show Oct.listE (u.outer b) = _
            rw [ho]
            exact hE
          · simp at hs'
        · simp at hs'
    · simp at h
end Tx
end Go.Proofs.YtalfnadejpmjnaaGreatDoor
