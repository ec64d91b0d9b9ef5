/- What later texts need of the earlier layers. -/
import Derived.Test.YtalfnadejpmjnaaGreatDoorNSlO
import Derived.Test.YtalfnadejpmjnaaGreatDoorNSlS
import Derived.Test.YtalfnadejpmjnaaGreatDoorNSlT
import Derived.Test.YtalfnadejpmjnaaGreatDoorNSlC
import Derived.Test.YtalfnadejpmjnaaGreatDoorNSlA
import Derived.Test.YtalfnadejpmjnaaGreatDoorNSlB
import Derived.Test.YtalfnadejpmjnaaGreatDoorNSlD
import Derived.Test.YtalfnadejpmjnaaGreatDoorNTxBack
/- ---- OdMath ---- -/
/- A log as plain data. -/
namespace Go.Proofs.YtalfnadejpmjnaaGreatDoor
open Go.RowKit
set_option linter.unusedVariables false
set_option linter.unusedSimpArgs false

theorem Tx.read_err {s : List UInt8} {t : Tx} (h : Tx.read s = some t) : t.Ok ∧ t.err = 0 := by
  refine ⟨(Tx.text_read h).1, ?_⟩
  unfold Tx.read at h
  split at h
  · cases h
  · split at h
    · obtain ⟨_, _, _, he⟩ := Tx.readOf_some h
      exact he
    · cases h
theorem Tx.err_frm19 {t : Tx} (h5 : t.err = 0) : 0 ≤ t.frm ∧ t.frm ≤ 63 := by
  unfold Tx.err at h5
  by_cases ha : Tx.acct t.frm = false ∨ Tx.acct t.to = false
  · rw [if_pos ha] at h5; cases h5
  · have h6 : Tx.acct t.frm = true := by
      cases hq : Tx.acct t.frm with
      | true => rfl
      | false => exact absurd (.inl hq) ha
    unfold Tx.acct at h6
    simpa using h6
namespace Od
/-- whose a message is: its account, or nobody -/
def whose (kind : Int) (body : ByteArray) : Int := if kind = 1 then (match Tx.read body.data.toList with
  | none => -1
  | some t => t.frm) else -1
def by_ (r : Rp) : Int := whose r.kind r.body
def cnt (rs : List Rp) (who : Int) : Nat := rs.countP (fun r => decide (by_ r = who))
def nexts (rs : List Rp) : List Int := (List.range 64).map (fun i : Nat => ((cnt rs (i : Int) : Nat) : Int))
def del (rs : List Rp) : List Int := (rs.filter (fun r => decide (by_ r = -1))).map (·.index)
def head (rs : List Rp) : List UInt8 := match rs.getLast? with
  | none => Tx.zero
  | some r => r.hash
def last (rs : List Rp) : Int := match rs.getLast? with
  | none => 0
  | some r => r.time
def ask (rs : List Rp) (kind : Int) (body : ByteArray) : Int × Int := if kind = 1 then (match Tx.read body.data.toList with
  | none => (-1, 6)
  | some t => if t.signedE = 0 then (if t.nonce = (cnt rs t.frm : Int) then (t.frm, 0) else (-1, 22)) else (-1, 21)) else (-1, 0)
def raw (rs : List Rp) (kind : Int) (body : ByteArray) (time : Int) : Rp := ⟨rs.length, kind, time, body, head rs, Tx.zero⟩
/-- the receipt that a message would have, whose it is, what is wrong -/
def mk (rs : List Rp) (kind : Int) (body : ByteArray) (time : Int) : Rp × Int × Int :=
  if rs ≠ [] ∧ time < last rs then (Rp.zero, -1, 33)
  else if (ask rs kind body).2 = 0 then ((Rp.linkE (raw rs kind body time)).1, (ask rs kind body).1, (Rp.linkE (raw rs kind body time)).2)
  else (Rp.zero, -1, (ask rs kind body).2)
theorem mk_early {rs : List Rp} {kind time : Int} {body : ByteArray} (h : rs ≠ [] ∧ time < last rs) : mk rs kind body time = (Rp.zero, -1, 33) := by unfold mk; rw [if_pos h]
theorem mk_ask {rs : List Rp} {kind time : Int} {body : ByteArray} (h : ¬ (rs ≠ [] ∧ time < last rs)) (ha : (ask rs kind body).2 ≠ 0) : mk rs kind body time = (Rp.zero, -1, (ask rs kind body).2) := by unfold mk; rw [if_neg h, if_neg ha]
theorem mk_link {rs : List Rp} {kind time : Int} {body : ByteArray} (h : ¬ (rs ≠ [] ∧ time < last rs)) (ha : (ask rs kind body).2 = 0) : mk rs kind body time = ((Rp.linkE (raw rs kind body time)).1, (ask rs kind body).1, (Rp.linkE (raw rs kind body time)).2) := by unfold mk; rw [if_neg h, if_pos ha]
theorem ask_whose {rs : List Rp} {kind : Int} {body : ByteArray} (h : (ask rs kind body).2 = 0) : (ask rs kind body).1 = whose kind body ∧ (kind = 1 → 0 ≤ whose kind body ∧ whose kind body ≤ 63) ∧ (kind ≠ 1 → whose kind body = -1) := by
  unfold ask at h ⊢
  unfold whose
  by_cases hk : kind = 1
  · rw [if_pos hk] at h ⊢
    rw [if_pos hk]
    cases hr : Tx.read body.data.toList with
    | none => rw [hr] at h; simp at h
    | some t =>
      rw [hr] at h
      simp only at h ⊢
      have hf := Tx.err_frm19 (Tx.read_err hr).2
      split at h
      · next h1 =>
        split at h
        · next h2 => rw [if_pos h1, if_pos h2]; exact ⟨rfl, fun _ => hf, fun q => absurd hk q⟩
        · simp at h
      · simp at h
  · rw [if_neg hk] at h ⊢
    rw [if_neg hk]
    exact ⟨rfl, fun q => absurd q hk, fun _ => rfl⟩
/-- what a message that is taken says -/
structure Took (rs : List Rp) (kind : Int) (body : ByteArray) (time : Int) (r : Rp) (who : Int) : Prop where
  notEarly : ¬ (rs ≠ [] ∧ time < last rs)
  asks : (ask rs kind body).2 = 0
  ok : (raw rs kind body time).ok = true
  r : r = (raw rs kind body time).linked
  who : who = whose kind body
theorem mk_took {rs : List Rp} {kind time : Int} {body : ByteArray} {r : Rp} {who : Int} (h : mk rs kind body time = (r, who, 0)) : Took rs kind body time r who := by
  by_cases h1 : rs ≠ [] ∧ time < last rs
  · rw [mk_early h1] at h; simp at h
  by_cases h2 : (ask rs kind body).2 = 0
  · rw [mk_link h1 h2] at h
    simp only [Prod.mk.injEq] at h
    obtain ⟨a, b, c⟩ := h
    by_cases h3 : (raw rs kind body time).ok = true
    · unfold Rp.linkE at a
      rw [if_pos h3] at a
      exact ⟨h1, h2, h3, a.symm, by rw [← b]; exact (ask_whose h2).1⟩
    · unfold Rp.linkE at c
      rw [if_neg h3] at c
      cases c
  · rw [mk_ask h1 h2] at h
    simp only [Prod.mk.injEq] at h
    exact absurd h.2.2 h2
theorem Took.to_mk {rs : List Rp} {kind time : Int} {body : ByteArray} {r : Rp} {who : Int} (h : Took rs kind body time r who) : Od.mk rs kind body time = (r, who, 0) := by
  rw [mk_link h.notEarly h.asks]
  unfold Rp.linkE
  rw [if_pos h.ok, ← h.r, h.who, (ask_whose h.asks).1]
section
variable {rs : List Rp} {kind time : Int} {body : ByteArray} {r : Rp} {who : Int}
theorem Took.index (h : Took rs kind body time r who) : r.index = rs.length := by rw [h.r]; rfl
theorem Took.kindE (h : Took rs kind body time r who) : r.kind = kind := by rw [h.r]; rfl
theorem Took.timeE (h : Took rs kind body time r who) : r.time = time := by rw [h.r]; rfl
theorem Took.bodyE (h : Took rs kind body time r who) : r.body = body := by rw [h.r]; rfl
theorem Took.prev (h : Took rs kind body time r who) : r.prev = head rs := by rw [h.r]; rfl
theorem Took.rok (h : Took rs kind body time r who) : r.ok = true := by rw [h.r]; exact h.ok
theorem Took.hash (h : Took rs kind body time r who) : r.hash.length = 32 := by rw [h.r]; exact Rp.link_len _
theorem Took.by (h : Took rs kind body time r who) : by_ r = who := by unfold by_; rw [h.kindE, h.bodyE, h.who]
theorem Took.fits (h : Took rs kind body time r who) (hh : (head rs).length = 32) : r.Fits := by
  have h1 := (Rp.ok_iff r).1 h.rok
  exact ⟨by rw [h.prev]; exact hh, h.hash, by omega, ⟨by omega, by omega⟩, ⟨by omega, by omega⟩, ⟨by omega, by omega⟩⟩
theorem Took.again (h : Took rs kind body time r who) : Od.mk rs r.kind r.body r.time = (r, who, 0) := by rw [h.kindE, h.bodyE, h.timeE]; exact h.to_mk
end
/-- receipts that a log may hold -/
def Good (rs : List Rp) : Prop := ∀ k (h : k < rs.length), ∃ who, mk (rs.take k) rs[k].kind rs[k].body rs[k].time = (rs[k], who, 0)
theorem Good.nil : Good [] := fun k h => by simp at h
theorem Good.push {rs : List Rp} {kind time : Int} {body : ByteArray} {r : Rp} {who : Int} (hg : Good rs) (h : mk rs kind body time = (r, who, 0)) : Good (rs ++ [r]) := by
  intro k hk
  rw [List.length_append, List.length_singleton] at hk
  by_cases hkl : k < rs.length
  · obtain ⟨w, hw⟩ := hg k hkl
    refine ⟨w, ?_⟩
    rw [List.take_append_of_le_length (by omega), List.getElem_append_left hkl]
    exact hw
  · have e : k = rs.length := by omega
    subst e
    refine ⟨who, ?_⟩
    rw [List.take_append_of_le_length (Nat.le_refl _), List.take_length, List.getElem_append_right (Nat.le_refl _)]
    simp only [Nat.sub_self, List.getElem_cons_zero]
    exact (mk_took h).again
theorem Good.take {rs : List Rp} (h : Good rs) (n : Nat) : Good (rs.take n) := by
  intro k hk
  have hk2 : k < n ∧ k < rs.length := by rw [List.length_take] at hk; omega
  obtain ⟨w, hw⟩ := h k hk2.2
  refine ⟨w, ?_⟩
  rw [List.take_take, Nat.min_eq_left (by omega), List.getElem_take]
  exact hw
theorem last_at {rs : List Rp} {n : Nat} (h : rs.length = n + 1) : head rs = (rs[n]'(by omega)).hash ∧ last rs = (rs[n]'(by omega)).time := by
  have e : rs.getLast? = some (rs[n]'(by omega)) := by
    rw [List.getLast?_eq_getElem?, List.getElem?_eq_getElem (by omega)]
    congr 2
    omega
  unfold head last
  rw [e]
  exact ⟨rfl, rfl⟩
theorem Good.took {rs : List Rp} (h : Good rs) (k : Nat) (hk : k < rs.length) : Took (rs.take k) rs[k].kind rs[k].body rs[k].time rs[k] (by_ rs[k]) := by
  obtain ⟨who, hw⟩ := h k hk
  have := mk_took hw
  rw [this.by]
  exact this
theorem Good.head {rs : List Rp} (h : Good rs) : (Od.head rs).length = 32 := by
  match hn : rs.length with
  | 0 => rw [List.length_eq_zero_iff.1 hn]; rfl
  | n + 1 => rw [(last_at hn).1]; exact (h.took n (by omega)).hash
theorem Good.fits {rs : List Rp} (h : Good rs) : ∀ r ∈ rs, r.Fits := by
  intro r hr
  obtain ⟨k, hk, rfl⟩ := List.getElem_of_mem hr
  exact (h.took k hk).fits (h.take k).head
theorem Good.index {rs : List Rp} (h : Good rs) (k : Nat) (hk : k < rs.length) : rs[k].index = k := by
  rw [(h.took k hk).index, List.length_take]; omega
theorem Good.by {rs : List Rp} (h : Good rs) : ∀ r ∈ rs, by_ r = -1 ∨ (0 ≤ by_ r ∧ by_ r ≤ 63) := by
  intro r hr
  obtain ⟨k, hk, rfl⟩ := List.getElem_of_mem hr
  have ht := h.took k hk
  have := ask_whose ht.asks
  unfold by_
  by_cases hk1 : rs[k].kind = 1
  · exact .inr (this.2.1 hk1)
  · exact .inl (this.2.2 hk1)
theorem cnt_push (rs : List Rp) (r : Rp) (i : Int) : cnt (rs ++ [r]) i = cnt rs i + if by_ r = i then 1 else 0 := by
  unfold cnt
  rw [List.countP_append, List.countP_singleton]
  simp
theorem cnt_le (rs : List Rp) (i : Int) : cnt rs i ≤ rs.length := List.countP_le_length
theorem nexts_len (rs : List Rp) : (nexts rs).length = 64 := by unfold nexts; simp
theorem nexts_get (rs : List Rp) (i : Nat) (h : i < 64) : (nexts rs)[i]'(by rw [nexts_len]; exact h) = (cnt rs (i : Int) : Int) := by unfold nexts; simp
theorem nexts_same {rs : List Rp} {r : Rp} (h : by_ r = -1) : nexts (rs ++ [r]) = nexts rs := by
  unfold nexts
  apply List.map_congr_left
  intro i _
  rw [cnt_push, if_neg (by omega)]
  rfl
theorem nexts_set {rs : List Rp} {r : Rp} {i : Nat} (h : by_ r = (i : Int)) (hi : i < 64) : nexts (rs ++ [r]) = (nexts rs).set i ((cnt rs (i : Int) : Int) + 1) := by
  apply List.ext_getElem
  · rw [List.length_set, nexts_len, nexts_len]
  intro j h1 h2
  rw [nexts_len] at h1
  rw [nexts_get _ _ h1, List.getElem_set]
  rw [cnt_push, h]
  by_cases e : i = j
  · subst e; simp
  · rw [if_neg (by omega), if_neg e, nexts_get _ _ h1]; rfl
theorem del_same {rs : List Rp} {r : Rp} (h : by_ r ≠ -1) : del (rs ++ [r]) = del rs := by
  unfold del
  rw [List.filter_append, List.filter_cons, if_neg (by simpa using h), List.filter_nil, List.append_nil]
theorem del_push {rs : List Rp} {r : Rp} (h : by_ r = -1) : del (rs ++ [r]) = del rs ++ [r.index] := by
  unfold del
  rw [List.filter_append, List.filter_cons, if_pos (by simpa using h), List.filter_nil, List.map_append]
  rfl
theorem del_len (rs : List Rp) : (del rs).length ≤ rs.length := by
  unfold del
  rw [List.length_map]
  exact List.length_filter_le _ _
end Od
end Go.Proofs.YtalfnadejpmjnaaGreatDoor
