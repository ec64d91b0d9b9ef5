/- A pool as plain data. -/
import Derived.Test.YtoicpidiejhjeaaSlA
import Derived.Test.YtoicpidiejhjeaaSlD
namespace Go.Proofs.Ytoicpidiejhjeaa
open Go.RowKit
set_option linter.unusedVariables false
set_option linter.unusedSimpArgs false

structure Wt where
  tx : Tx
  ix : Int
  till : Int
  at_ : Int
  place : Int
namespace Wt
def none : Wt := ⟨Tx.none, 0, 0, 0, 0⟩
def tail (w : Wt) : List Value := [.int .i64 w.ix, .int .i64 w.till, .int .i64 w.at_, .int .i64 w.place]
def cells (w : Wt) : List Value := w.tx.cells ++ w.tail
structure Ok (w : Wt) : Prop where
  tx : w.tx.Ok
  ix : Tx.fits w.ix
  till : Tx.fits w.till
  at_ : Tx.fits w.at_
  place : Tx.fits w.place
theorem none_ok : Wt.none.Ok := ⟨Tx.none_ok, ⟨by decide, by decide⟩, ⟨by decide, by decide⟩, ⟨by decide, by decide⟩, ⟨by decide, by decide⟩⟩
theorem cells_len {w : Wt} (h : w.Ok) : w.cells.length = 76 := by
  unfold cells tail
  rw [List.length_append, Tx.cells_length h.tx]
  rfl
end Wt
namespace Pl
def small (n : Int) : Prop := 0 ≤ n ∧ n ≤ 1099511627776
instance (n : Int) : Decidable (small n) := by unfold small; infer_instance
def May (w : Wt) : Prop := w.tx.err = 0 ∧ small w.ix ∧ small w.till ∧ small w.at_ ∧ small w.place
instance (w : Wt) : Decidable (May w) := by unfold May; infer_instance
theorem err_zero {t : Tx} (h : t.err = 0) : (0 ≤ t.frm ∧ t.frm ≤ 63) ∧ small t.nonce ∧ small t.fee := by
  unfold Tx.err at h
  by_cases h1 : Tx.acct t.frm = false ∨ Tx.acct t.to = false
  · rw [if_pos h1] at h; cases h
  rw [if_neg h1] at h
  by_cases h2 : Tx.num t.nonce = false ∨ Tx.num t.fee = false
  · rw [if_pos h2] at h; cases h
  simp only [not_or, Bool.not_eq_false] at h1 h2
  have a := h1.1
  have b := h2.1
  have c := h2.2
  unfold Tx.acct at a
  unfold Tx.num at b c
  simp only [Bool.and_eq_true, decide_eq_true_eq] at a b c
  exact ⟨a, b, c⟩
theorem May.frm {w : Wt} (h : May w) : 0 ≤ w.tx.frm ∧ w.tx.frm ≤ 63 := (err_zero h.1).1
theorem May.nonce {w : Wt} (h : May w) : small w.tx.nonce := (err_zero h.1).2.1
theorem May.fee {w : Wt} (h : May w) : small w.tx.fee := (err_zero h.1).2.2
/-- by rising Index -/
def Srt (l : List Wt) : Prop := l.Pairwise (fun a b => a.ix < b.ix)
def pos (l : List Wt) (i : Int) : Nat := l.countP (fun w => decide (w.ix < i))
theorem pos_le (l : List Wt) (i : Int) : pos l i ≤ l.length := List.countP_le_length
theorem pos_lt {l : List Wt} (h : Srt l) (i : Int) : ∀ (k : Nat) (hk : k < l.length), (l[k].ix < i ↔ k < pos l i) := by
  induction l with
  | nil => intro k hk; simp at hk
  | cons x t ih =>
    obtain ⟨hx, ht⟩ := List.pairwise_cons.1 h
    intro k hk
    have e : pos (x :: t) i = pos t i + if x.ix < i then 1 else 0 := by
      unfold pos
      rw [List.countP_cons]
      simp
    by_cases hxi : x.ix < i
    · rw [e, if_pos hxi]
      match k with
      | 0 => simp [hxi]
      | k + 1 =>
        have := ih ht k (by simpa using hk)
        simp only [List.getElem_cons_succ]
        omega
    · rw [e, if_neg hxi]
      have h0 : pos t i = 0 := by
        unfold pos
        rw [List.countP_eq_zero]
        intro y hy
        have := hx y hy
        simp only [decide_eq_true_eq]
        omega
      rw [h0]
      match k with
      | 0 => simp [hxi]
      | k + 1 =>
        simp only [List.getElem_cons_succ]
        have := hx _ (List.getElem_mem (by simpa using hk : k < t.length))
        omega
/-- where a search ends -/
theorem pos_at {l : List Wt} (h : Srt l) {i : Int} {k : Nat} (hk : k ≤ l.length) (h1 : ∀ j (hj : j < l.length), j < k → l[j].ix < i) (h2 : ∀ j (hj : j < l.length), k ≤ j → ¬ l[j].ix < i) : k = pos l i := by
  have hp := pos_le l i
  rcases Nat.lt_trichotomy k (pos l i) with q | q | q
  · have hkl : k < l.length := by omega
    exact absurd ((pos_lt h i k hkl).2 q) (h2 k hkl (Nat.le_refl _))
  · exact q
  · have hpl : pos l i < l.length := by omega
    exact absurd ((pos_lt h i _ hpl).1 (h1 _ hpl q)) (Nat.lt_irrefl _)
/-- what has an Index stands where it would stand -/
theorem pos_has {l : List Wt} (h : Srt l) {k : Nat} (hk : k < l.length) : pos l l[k].ix = k := by
  refine (pos_at h (Nat.le_of_lt hk) (fun j hj hjk => ?_) (fun j hj hkj => ?_)).symm
  · exact List.pairwise_iff_getElem.1 h j k hj hk hjk
  · rcases Nat.eq_or_lt_of_le hkj with rfl | q
    · omega
    · have := List.pairwise_iff_getElem.1 h k j hk hj q
      omega
def ins (l : List Wt) (w : Wt) : List Wt := l.take (pos l w.ix) ++ w :: l.drop (pos l w.ix)
theorem ins_len (l : List Wt) (w : Wt) : (ins l w).length = l.length + 1 := by
  have := pos_le l w.ix
  unfold ins
  rw [List.length_append, List.length_cons, List.length_take, List.length_drop]
  omega
theorem ins_perm (l : List Wt) (w : Wt) : (ins l w).Perm (w :: l) := by
  unfold ins
  have := @List.perm_middle _ w (l.take (pos l w.ix)) (l.drop (pos l w.ix))
  rw [List.take_append_drop] at this
  exact this
theorem ins_mem {l : List Wt} {w x : Wt} : x ∈ ins l w ↔ x = w ∨ x ∈ l := by
  rw [(ins_perm l w).mem_iff, List.mem_cons]
theorem ins_srt {l : List Wt} {w : Wt} (h : Srt l) (hn : ∀ x ∈ l, x.ix ≠ w.ix) : Srt (ins l w) := by
  have e := List.take_append_drop (pos l w.ix) l
  have h0 := h
  unfold Srt at h0
  rw [← e] at h0
  obtain ⟨a, b, c⟩ := List.pairwise_append.1 h0
  have hl : ∀ x ∈ l.take (pos l w.ix), x.ix < w.ix := by
    intro x hx
    obtain ⟨j, hj, rfl⟩ := List.getElem_of_mem hx
    rw [List.getElem_take]
    rw [List.length_take] at hj
    exact (pos_lt h w.ix j (by omega)).2 (by omega)
  have hr : ∀ x ∈ l.drop (pos l w.ix), w.ix < x.ix := by
    intro x hx
    have hm := List.mem_of_mem_drop hx
    obtain ⟨j, hj, rfl⟩ := List.getElem_of_mem hx
    rw [List.getElem_drop] at hm ⊢
    rw [List.length_drop] at hj
    have := pos_lt h w.ix (pos l w.ix + j) (by omega)
    have := hn _ hm
    omega
  unfold Srt ins
  rw [List.pairwise_append]
  refine ⟨a, List.pairwise_cons.2 ⟨hr, b⟩, fun x hx y hy => ?_⟩
  rcases List.mem_cons.1 hy with rfl | hy
  · exact hl x hx
  · exact c x hx y hy
/-- what stands in a pool's way -/
def Clash (x w : Wt) : Prop := x.ix = w.ix ∨ (x.tx.frm = w.tx.frm ∧ x.tx.nonce = w.tx.nonce)
instance (x w : Wt) : Decidable (Clash x w) := by unfold Clash; infer_instance
def clash (l : List Wt) (w : Wt) : Prop := ∃ x ∈ l, Clash x w
instance (l : List Wt) (w : Wt) : Decidable (clash l w) := by unfold clash; infer_instance
def g (l : List Wt) (k : Nat) : Wt := l.getD k Wt.none
theorem g_eq {l : List Wt} {k : Nat} (hk : k < l.length) : g l k = l[k] := by
  unfold g
  rw [List.getD_eq_getElem?_getD, List.getElem?_eq_getElem hk]
  rfl
/-- the place of the poorest among the first -/
def poor (l : List Wt) : Nat → Nat
  | 0 => 0
  | k + 1 => if (g l k).tx.fee ≤ (g l (poor l k)).tx.fee then k else poor l k
theorem poor_lt (l : List Wt) (k : Nat) (hk : 0 < k) : poor l k < k := by
  induction k with
  | zero => omega
  | succ k ih =>
    unfold poor
    split
    · omega
    · rcases Nat.eq_zero_or_pos k with rfl | h
      · unfold poor; omega
      · have := ih h; omega
def full (size : Nat) (l : List Wt) : Bool := decide (size ≤ l.length)
def putE (size : Nat) (l : List Wt) (w : Wt) : Int :=
  if ¬ May w then 2 else if clash l w then 23 else if full size l = true ∧ w.tx.fee ≤ (g l (poor l l.length)).tx.fee then 25 else 0
def putG (size : Nat) (l : List Wt) (w : Wt) : Wt := if putE size l w = 0 ∧ full size l = true then g l (poor l l.length) else Wt.none
def putF (size : Nat) (l : List Wt) (w : Wt) : Bool := decide (putE size l w = 0) && full size l
def put (size : Nat) (l : List Wt) (w : Wt) : List Wt :=
  if putE size l w = 0 then (if full size l = true then ins (l.eraseIdx (poor l l.length)) w else ins l w) else l
/-- a pool's order -/
def Lt (a b : Wt) : Prop := a.at_ < b.at_ ∨ (a.at_ = b.at_ ∧ a.place < b.place)
instance (a b : Wt) : Decidable (Lt a b) := by unfold Lt; infer_instance
def Rdy (now : Int) (nx : Int → Int) (w : Wt) : Prop := w.at_ ≤ now ∧ nx w.tx.frm = w.tx.nonce
instance (now : Int) (nx : Int → Int) (w : Wt) : Decidable (Rdy now nx w) := by unfold Rdy; infer_instance
/-- the best among the first -/
def best (l : List Wt) (now : Int) (nx : Int → Int) : Nat → Option Wt
  | 0 => none
  | k + 1 => match best l now nx k with
    | none => if Rdy now nx (g l k) then some (g l k) else none
    | some b => if Rdy now nx (g l k) ∧ Lt (g l k) b then some (g l k) else some b
def raise (b w : Wt) : Wt := if w.tx.frm = b.tx.frm ∧ w.tx.nonce = b.tx.nonce + 1 ∧ Lt w b then { w with at_ := b.at_, place := b.place } else w
theorem raise_tx (b w : Wt) : (raise b w).tx = w.tx := by unfold raise; split <;> rfl
theorem raise_ix (b w : Wt) : (raise b w).ix = w.ix := by unfold raise; split <;> rfl
theorem raise_till (b w : Wt) : (raise b w).till = w.till := by unfold raise; split <;> rfl
def next (l : List Wt) (now : Int) (nx : Int → Int) : List Wt := match best l now nx l.length with
  | none => l
  | some b => (l.eraseIdx (pos l b.ix)).map (raise b)
def old (l : List Wt) (now : Int) : List Wt := l.filter (fun w => decide (w.till < now))
def young (l : List Wt) (now : Int) : List Wt := l.filter (fun w => !decide (w.till < now))
/-- what a pool holds -/
structure Ok (size : Nat) (l : List Wt) : Prop where
  srt : Srt l
  may : ∀ w ∈ l, w.Ok ∧ May w
  len : l.length ≤ size
  uniq : l.Pairwise (fun a b => ¬ (a.tx.frm = b.tx.frm ∧ a.tx.nonce = b.tx.nonce))
theorem Ok.nil (size : Nat) : Ok size [] := ⟨List.Pairwise.nil, by simp, by simp, List.Pairwise.nil⟩
theorem Ok.sub {size : Nat} {l l' : List Wt} (h : Ok size l) (hs : l'.Sublist l) : Ok size l' :=
  ⟨h.srt.sublist hs, fun w hw => h.may w (hs.subset hw), Nat.le_trans hs.length_le h.len, h.uniq.sublist hs⟩
theorem Ok.ins {size : Nat} {l : List Wt} {w : Wt} (h : Ok size l) (hw : w.Ok) (hm : May w) (hl : l.length < size) (hc : ¬ clash l w) : Ok size (ins l w) := by
  have hn : ∀ x ∈ l, ¬ Clash x w := fun x hx hq => hc ⟨x, hx, hq⟩
  refine ⟨ins_srt h.srt (fun x hx e => hn x hx (.inl e)), fun x hx => ?_, by rw [ins_len]; omega, ?_⟩
  · rcases ins_mem.1 hx with rfl | hx
    · exact ⟨hw, hm⟩
    · exact h.may x hx
  · refine ((ins_perm l w).pairwise_iff (fun {x y} hxy q => hxy ⟨q.1.symm, q.2.symm⟩)).2 ?_
    exact List.pairwise_cons.2 ⟨fun x hx q => hn x hx (.inr ⟨q.1.symm, q.2.symm⟩), h.uniq⟩
theorem clash_sub {l l' : List Wt} {w : Wt} (hs : l'.Sublist l) (h : clash l' w) : clash l w := by
  obtain ⟨x, hx, hq⟩ := h
  exact ⟨x, hs.subset hx, hq⟩
theorem Ok.put {size : Nat} {l : List Wt} {w : Wt} (h : Ok size l) (hw : w.Ok) (hp : 0 < size) : Ok size (put size l w) := by
  unfold Pl.put
  by_cases he : putE size l w = 0
  · rw [if_pos he]
    have h1 : May w := by
      by_cases q : May w
      · exact q
      · unfold putE at he; rw [if_pos q] at he; cases he
    have h2 : ¬ clash l w := by
      intro q
      unfold putE at he; rw [if_neg (by simpa using h1), if_pos q] at he; cases he
    by_cases hf : full size l = true
    · rw [if_pos hf]
      have hf' : size ≤ l.length := by unfold full at hf; simpa using hf
      have hl := h.len
      have hpl : poor l l.length < l.length := poor_lt l _ (by omega)
      exact (h.sub (List.eraseIdx_sublist l _)).ins hw h1 (by rw [List.length_eraseIdx, if_pos hpl]; omega) (fun q => h2 (clash_sub (List.eraseIdx_sublist l _) q))
    · rw [if_neg hf]
      have hf' : ¬ size ≤ l.length := by unfold full at hf; simpa using hf
      exact h.ins hw h1 (by omega) h2
  · rw [if_neg he]; exact h
theorem Ok.map_raise {size : Nat} {l : List Wt} (h : Ok size l) (b : Wt) (hb : b.Ok) (hm : May b) : Ok size (l.map (raise b)) := by
  refine ⟨?_, fun w hw => ?_, by rw [List.length_map]; exact h.len, ?_⟩
  · unfold Srt
    rw [List.pairwise_map]
    exact h.srt.imp (fun {x y} hxy => by rw [raise_ix, raise_ix]; exact hxy)
  · obtain ⟨x, hx, rfl⟩ := List.mem_map.1 hw
    obtain ⟨h1, h2⟩ := h.may x hx
    unfold raise
    split
    · exact ⟨⟨h1.tx, h1.ix, h1.till, hb.at_, hb.place⟩, h2.1, h2.2.1, h2.2.2.1, hm.2.2.2.1, hm.2.2.2.2⟩
    · exact ⟨h1, h2⟩
  · rw [List.pairwise_map]
    exact h.uniq.imp (fun {x y} hxy => by rw [raise_tx, raise_tx]; exact hxy)
theorem best_mem {l : List Wt} {now : Int} {nx : Int → Int} : ∀ {k : Nat} {b : Wt}, k ≤ l.length → best l now nx k = some b → b ∈ l ∧ Rdy now nx b := by
  intro k
  induction k with
  | zero => intro b _ h; cases h
  | succ k ih =>
    intro b hk h
    have hm : g l k ∈ l := by rw [g_eq (by omega : k < l.length)]; exact List.getElem_mem _
    unfold best at h
    cases hb : best l now nx k with
    | none =>
      rw [hb] at h
      simp only at h
      split at h
      · rename_i hr
        injection h with h
        subst h
        exact ⟨hm, hr⟩
      · cases h
    | some c =>
      rw [hb] at h
      simp only at h
      split at h
      · rename_i hr
        injection h with h
        subst h
        exact ⟨hm, hr.1⟩
      · injection h with h
        subst h
        exact ih (by omega) hb
theorem Ok.next {size : Nat} {l : List Wt} (h : Ok size l) (now : Int) (nx : Int → Int) : Ok size (next l now nx) := by
  unfold Pl.next
  cases hb : best l now nx l.length with
  | none => exact h
  | some b =>
    have hm := (best_mem (Nat.le_refl _) hb).1
    exact (h.sub (List.eraseIdx_sublist l _)).map_raise b (h.may b hm).1 (h.may b hm).2
theorem Ok.young {size : Nat} {l : List Wt} (h : Ok size l) (now : Int) : Ok size (young l now) := h.sub List.filter_sublist
theorem Lt.irrefl {a : Wt} : ¬ Lt a a := by unfold Lt; omega
theorem Lt.trans {a b c : Wt} (h : Lt a b) (k : Lt b c) : Lt a c := by unfold Lt at *; omega
theorem Lt.le_trans {a b c : Wt} (h : ¬ Lt b a) (k : ¬ Lt c b) : ¬ Lt c a := by unfold Lt at *; omega
/-- none that is ready stands ahead of the best -/
theorem best_least {l : List Wt} {now : Int} {nx : Int → Int} : ∀ {k : Nat}, k ≤ l.length → ∀ (j : Nat) (hj : j < l.length), j < k → Rdy now nx l[j] → ∃ b, best l now nx k = some b ∧ ¬ Lt l[j] b := by
  intro k
  induction k with
  | zero => intro _ j _ h; omega
  | succ k ih =>
    intro hk j hj hjk hr
    have hg := g_eq (by omega : k < l.length)
    have e : best l now nx (k + 1) = (match best l now nx k with
      | none => if Rdy now nx (g l k) then some (g l k) else none
      | some b => if Rdy now nx (g l k) ∧ Lt (g l k) b then some (g l k) else some b) := rfl
    by_cases hjk' : j < k
    · obtain ⟨b, h1, h2⟩ := ih (by omega) j hj hjk' hr
      rw [e, h1]
      simp only
      by_cases hc : Rdy now nx (g l k) ∧ Lt (g l k) b
      · rw [if_pos hc]
        exact ⟨_, rfl, fun q => h2 (Lt.trans q hc.2)⟩
      · rw [if_neg hc]
        exact ⟨_, rfl, h2⟩
    · have : j = k := by omega
      subst this
      rw [e]
      cases hb : best l now nx j with
      | none =>
        simp only
        rw [hg, if_pos hr]
        exact ⟨_, rfl, Lt.irrefl⟩
      | some b =>
        simp only
        by_cases hc : Rdy now nx (g l j) ∧ Lt (g l j) b
        · rw [if_pos hc, hg]
          exact ⟨_, rfl, Lt.irrefl⟩
        · rw [if_neg hc]
          exact ⟨_, rfl, fun q => hc ⟨by rw [hg]; exact hr, by rw [hg]; exact q⟩⟩
end Pl
end Go.Proofs.Ytoicpidiejhjeaa
