/- What later texts need of the earlier layers. -/
import Derived.Test.YtalfnadejpmjnaaGreatDoorNSlO
import Derived.Test.YtalfnadejpmjnaaGreatDoorNSlS
import Derived.Test.YtalfnadejpmjnaaGreatDoorNSlT
import Derived.Test.YtalfnadejpmjnaaGreatDoorNDkA
import Derived.Test.YtalfnadejpmjnaaGreatDoorNDkB
import Derived.Test.YtalfnadejpmjnaaGreatDoorNDkC
import Derived.Test.YtalfnadejpmjnaaGreatDoorNDkD
import Derived.Test.YtalfnadejpmjnaaGreatDoorNJrA
import Derived.Test.YtalfnadejpmjnaaGreatDoorNJrB
import Derived.Test.YtalfnadejpmjnaaGreatDoorNJrAdd
import Derived.Test.YtalfnadejpmjnaaGreatDoorNSlC
import Derived.Test.YtalfnadejpmjnaaGreatDoorNSlA
import Derived.Test.YtalfnadejpmjnaaGreatDoorNSlB
import Derived.Test.YtalfnadejpmjnaaGreatDoorNSlD
import Derived.Test.YtalfnadejpmjnaaGreatDoorNTxBack
import Derived.Test.YtalfnadejpmjnaaGreatDoorNOdA
import Derived.Test.YtalfnadejpmjnaaGreatDoorNRwA
import Derived.Test.YtalfnadejpmjnaaGreatDoorNOdB
import Derived.Test.YtalfnadejpmjnaaGreatDoorNOdAsk
import Derived.Test.YtalfnadejpmjnaaGreatDoorNOdLink
import Derived.Test.YtalfnadejpmjnaaGreatDoorNOdPut
import Derived.Test.YtalfnadejpmjnaaGreatDoorNOdAdd
import Derived.Deep.AppendSrc
import Derived.Deep.DeepAppendWide
import Derived.OwnWalk
import Derived.Below
import Derived.WalkKit
import Derived.Shelf.Sort.Plain
import Derived.Shelf.Slices.In.SortNone
import Derived.Deep.QuietTactic
import Derived.BigQuiet
/- ---- StMem ---- -/
/- A store in memory: its row, its log, its cuts, its journal and disk. -/
namespace Go.Proofs.YtalfnadejpmjnaaGreatDoor
open Go.RowKit
set_option linter.unusedVariables false
set_option linter.unusedSimpArgs false
set_option maxRecDepth 100000

theorem Chg.jn {S : Nat → Prop} {w w' : World} (h : Chg S w w') : Jn.Chg S w w' := ⟨h.os, h.tape, h.output, h.size, h.block⟩
theorem Jn.Chg.out {S : Nat → Prop} {w w' : World} (h : Jn.Chg S w w') : Go.Proofs.YtalfnadejpmjnaaGreatDoor.Chg S w w' := ⟨h.os, h.tape, h.output, h.size, h.block⟩
structure Ct where
  seq : Int
  first : Int
  before : Int
  count : Int
def Ct.cells (c : Ct) : List Value := [.int .i64 c.seq, .int .i64 c.first, .int .i64 c.before, .int .i64 c.count]
abbrev StT : TypeId := 78
abbrev CtT : TypeId := 52
def StC (q B : Nat) (cv : Value) (rel : Int) (brk : Bool) : List Value := [.pointer (some ⟨q, 0, none⟩), .pointer (some ⟨B, 0, none⟩), cv, .int .i64 rel, .bool brk]
abbrev Rws := List (Nat × TypeId × List Value)
/-- a store, and rows beside it -/
structure StAt (w0 W : World) (p q B g : Nat) (S : Nat → Prop) (v dv cv : Value) (l : List Jn.Fl) (r : Int) (j : Jn.Jr.J) (rs : List Rp) (cs : List Ct) (C : List Value) (rows : Rws) : Prop where
  jn : Jn.JS W w0.heap.size S g q l r j
  lg : LogAt W w0.heap.size B v dv rs
  ct : OwnL W w0.heap.size CtT 4 Ct.cells cv cs
  row : Row W p StT C
  low : Below w0.heap.size w0 W
  pb : w0.heap.size ≤ p
  qb : w0.heap.size ≤ q
  ap : ∀ k, S k → ¬ LS B v dv k ∧ k ≠ p ∧ cv.ownBlock ≠ some k
  rw : ∀ x ∈ rows, Row W x.1 x.2.1 x.2.2 ∧ ¬ S x.1 ∧ x.1 ≠ q ∧ ¬ LS B v dv x.1 ∧ x.1 ≠ p ∧ cv.ownBlock ≠ some x.1 ∧ w0.heap.size ≤ x.1
section
variable {w0 W W' : World} {p q B g : Nat} {S : Nat → Prop} {v dv cv : Value} {l l' : List Jn.Fl} {r r' : Int} {j j' : Jn.Jr.J} {rs rs' : List Rp} {cs cs' : List Ct} {C C' : List Value} {rows rows' : Rws}
theorem StAt.q_ls (h : StAt w0 W p q B g S v dv cv l r j rs cs C rows) : ¬ LS B v dv q := by
  rintro (e | e | e)
  · exact row_ne_row h.jn.row h.lg.row (by decide) e
  · exact h.lg.own.ne_block h.jn.row (by decide) e
  · exact h.lg.dow.ne_block h.jn.row (by decide) e
theorem StAt.p_ls (h : StAt w0 W p q B g S v dv cv l r j rs cs C rows) : ¬ LS B v dv p := by
  rintro (e | e | e)
  · exact row_ne_row h.row h.lg.row (by decide) e
  · exact h.lg.own.ne_block h.row (by decide) e
  · exact h.lg.dow.ne_block h.row (by decide) e
theorem StAt.c_ls (h : StAt w0 W p q B g S v dv cv l r j rs cs C rows) : ∀ k, cv.ownBlock = some k → ¬ LS B v dv k := by
  rintro k hk (e | e | e)
  · subst e; exact h.ct.ne_block h.lg.row (by decide) hk
  · exact h.ct.ne_own h.lg.own (by decide) k hk e
  · exact h.ct.ne_own h.lg.dow (by decide) k hk e
theorem StAt.c_q (h : StAt w0 W p q B g S v dv cv l r j rs cs C rows) : cv.ownBlock ≠ some q := h.ct.ne_block h.jn.row (by decide)
theorem StAt.c_p (h : StAt w0 W p q B g S v dv cv l r j rs cs C rows) : cv.ownBlock ≠ some p := h.ct.ne_block h.row (by decide)
theorem StAt.p_q (h : StAt w0 W p q B g S v dv cv l r j rs cs C rows) : p ≠ q := row_ne_row h.row h.jn.row (by decide)
theorem StAt.s_lt (h : StAt w0 W p q B g S v dv cv l r j rs cs C rows) : ∀ k, S k → w0.heap.size ≤ k ∧ k < W.heap.size := h.jn.disk.1
/-- memory of others has changed -/
theorem StAt.chg {T : Nat → Prop} (h : StAt w0 W p q B g S v dv cv l r j rs cs C rows) (hc : Chg T W W') (h0 : ∀ k, T k → w0.heap.size ≤ k) (h1 : ∀ k, T k → ¬ S k ∧ k ≠ q ∧ ¬ LS B v dv k ∧ cv.ownBlock ≠ some k ∧ k ≠ p) (h2 : ∀ x ∈ rows', Row W' x.1 x.2.1 x.2.2 ∧ ¬ S x.1 ∧ x.1 ≠ q ∧ ¬ LS B v dv x.1 ∧ x.1 ≠ p ∧ cv.ownBlock ≠ some x.1 ∧ w0.heap.size ≤ x.1) : StAt w0 W' p q B g S v dv cv l r j rs cs C rows' :=
  ⟨⟨h.jn.disk.kept hc.jn (fun k hk ht => (h1 k ht).1 hk), hc.row h.jn.row (fun t => (h1 _ t).2.1 rfl), h.jn.out⟩, h.lg.chg hc (fun k hk t => (h1 k t).2.2.1 hk), h.ct.chg hc (fun k hk t => (h1 k t).2.2.2.1 hk), hc.row h.row (fun t => (h1 _ t).2.2.2.2 rfl), below_chg h.low hc h.low.size h0, h.pb, h.qb, h.ap, h2⟩
theorem StAt.below (h : StAt w0 W p q B g S v dv cv l r j rs cs C rows) (hb : Below W.heap.size W W') : StAt w0 W' p q B g S v dv cv l r j rs cs C rows :=
  h.chg (T := fun _ => False) (Chg.of_below hb) (fun _ q => q.elim) (fun _ q => q.elim) (fun x hx => ⟨(h.rw x hx).1.below hb, (h.rw x hx).2⟩)
theorem StAt.less (h : StAt w0 W p q B g S v dv cv l r j rs cs C rows) (hs : ∀ x ∈ rows', x ∈ rows) : StAt w0 W p q B g S v dv cv l r j rs cs C rows' :=
  ⟨h.jn, h.lg, h.ct, h.row, h.low, h.pb, h.qb, h.ap, fun x hx => h.rw x (hs x hx)⟩
theorem StAt.brow (h : StAt w0 W p q B g S v dv cv l r j rs cs C rows) {gx : Nat} {T : TypeId} {X : List Value} (hx : (gx, T, X) ∈ rows) : Row W gx T X := (h.rw _ hx).1
theorem StAt.fresh (h : StAt w0 W p q B g S v dv cv l r j rs cs C rows) : ∀ x ∈ rows, x.1 ≠ W.heap.size := by
  intro x hx e
  have := (h.rw x hx).1.lt
  omega
theorem StAt.own_lt (h : StAt w0 W p q B g S v dv cv l r j rs cs C rows) : ∀ k, (S k ∨ k = q ∨ LS B v dv k ∨ k = p ∨ cv.ownBlock = some k) → k < W.heap.size := by
  rintro k (e | e | e | e | e)
  · exact (h.s_lt k e).2
  · subst e; exact Row.lt h.jn.row
  · exact (h.lg.lt k e).2
  · subst e; exact h.row.lt
  · exact (h.ct.lt k e).2
theorem StAt.alloc (h : StAt w0 W p q B g S v dv cv l r j rs cs C rows) (T : TypeId) (X : List Value) : StAt w0 (W.alloc (.cells X.toArray T)) p q B g S v dv cv l r j rs cs C ((W.heap.size, T, X) :: rows) := by
  have hb : Below W.heap.size W (W.alloc (.cells X.toArray T)) := (Below.refl W.heap.size W).alloc (Nat.le_refl _) _
  have h2 := h.below hb
  have ho := h.own_lt
  refine ⟨h2.jn, h2.lg, h2.ct, h2.row, h2.low, h2.pb, h2.qb, h2.ap, fun x hx => ?_⟩
  rcases List.mem_cons.1 hx with rfl | hx
  · exact ⟨Row.new W T X, fun q => Nat.lt_irrefl _ (ho _ (.inl q)), fun q => Nat.lt_irrefl _ (ho _ (.inr (.inl q))), fun q => Nat.lt_irrefl _ (ho _ (.inr (.inr (.inl q)))), fun q => Nat.lt_irrefl _ (ho _ (.inr (.inr (.inr (.inl q))))), fun q => Nat.lt_irrefl _ (ho _ (.inr (.inr (.inr (.inr q))))), h.low.size⟩
  · exact h2.rw x hx
theorem StAt.write {gx : Nat} {T : TypeId} {X0 X : List Value} (h : StAt w0 W p q B g S v dv cv l r j rs cs C ((gx, T, X0) :: rows)) (hg : W.grownBy W' (some gx)) (hr : Row W' gx T X) (hne : ∀ x ∈ rows, x.1 ≠ gx) : StAt w0 W' p q B g S v dv cv l r j rs cs C ((gx, T, X) :: rows) := by
  obtain ⟨r1, r2, r3, r4, r5, r6, r7⟩ := h.rw _ List.mem_cons_self
  have hc : Chg (fun k => k = gx) W W' := Chg.of_grown hg (fun k hk => by cases hk; exact .inl rfl)
  refine h.chg hc (fun k hk => by rw [hk]; exact r7) (fun k hk => by rw [hk]; exact ⟨r2, r3, r4, r6, r5⟩) (fun x hx => ?_)
  rcases List.mem_cons.1 hx with rfl | hx
  · exact ⟨hr, r2, r3, r4, r5, r6, r7⟩
  · obtain ⟨q1, q2⟩ := h.rw x (List.mem_cons_of_mem _ hx)
    exact ⟨q1.kept hg (fun e => hne x hx (Option.some.inj e)), q2⟩
theorem StAt.box {T : TypeId} {X Z : List Value} (h : StAt w0 W p q B g S v dv cv l r j rs cs C rows) (hg : (W.alloc (.cells Z.toArray T)).grownBy W' (some W.heap.size)) (hr : Row W' W.heap.size T X) : StAt w0 W' p q B g S v dv cv l r j rs cs C ((W.heap.size, T, X) :: rows) :=
  (h.alloc T Z).write hg hr h.fresh
/-- the store's own row is another one -/
theorem StAt.set (h : StAt w0 W p q B g S v dv cv l r j rs cs C rows) (hg : W.grownBy W' (some p)) (hr : Row W' p StT C') : StAt w0 W' p q B g S v dv cv l r j rs cs C' rows := by
  have hc : Chg (fun k => k = p) W W' := Chg.of_grown hg (fun k hk => by cases hk; exact .inl rfl)
  exact ⟨⟨h.jn.disk.kept hc.jn (fun k hk e => (h.ap k hk).2.1 e), hc.row h.jn.row (fun e => h.p_q e.symm), h.jn.out⟩, h.lg.chg hc (fun k hk e => h.p_ls (e ▸ hk)), h.ct.chg hc (fun k hk e => h.c_p (e ▸ hk)), hr, below_chg h.low hc h.low.size (fun k e => by rw [e]; exact h.pb), h.pb, h.qb, h.ap, fun x hx => ⟨hc.row (h.rw x hx).1 (fun e => (h.rw x hx).2.2.2.2.1 e), (h.rw x hx).2⟩⟩
/-- a call of the log -/
theorem StAt.log (h : StAt w0 W p q B g S v dv cv l r j rs cs C rows) (hl : LTo W W' w0.heap.size B v dv rs') : ∃ v' dv', StAt w0 W' p q B g S v' dv' cv l r j rs' cs C rows := by
  obtain ⟨v', dv', q1, q2, q3⟩ := hl
  refine ⟨v', dv', ⟨h.jn.disk.kept q2.jn (fun k hk => (h.ap k hk).1), q2.row h.jn.row h.q_ls, h.jn.out⟩, q1, h.ct.chg q2 h.c_ls, q2.row h.row h.p_ls, below_chg h.low q2 h.low.size (fun k hk => (h.lg.lt k hk).1), h.pb, h.qb, fun k hk => ⟨fun q => ?_, (h.ap k hk).2⟩, fun x hx => ?_⟩
  · rcases q3 k q with e | e
    · exact (h.ap k hk).1 e
    · have := (h.s_lt k hk).2
      omega
  · obtain ⟨r1, r2, r3, r4, r5, r6, r7⟩ := h.rw x hx
    refine ⟨q2.row r1 r4, r2, r3, fun q => ?_, r5, r6, r7⟩
    rcases q3 _ q with e | e
    · exact r4 e
    · have := r1.lt
      omega
/-- a call of the journal -/
theorem StAt.jrn (h : StAt w0 W p q B g S v dv cv l r j rs cs C rows) (hj : Jn.JTo W W' w0.heap.size S g q l' r' j') : ∃ S', StAt w0 W' p q B g S' v dv cv l' r' j' rs cs C rows := by
  obtain ⟨S', k1, k2, k3⟩ := hj
  have hc := k3.out
  have hl := h.own_lt
  refine ⟨S', k1, h.lg.chg hc (fun k hk e => ?_), h.ct.chg hc (fun k hk e => ?_), hc.row h.row (fun e => ?_), below_chg h.low hc h.low.size (fun k e => ?_), h.pb, h.qb, fun k hk => ?_, fun x hx => ?_⟩
  · rcases e with e | e
    · exact (h.ap k e).1 hk
    · exact h.q_ls (e ▸ hk)
  · rcases e with e | e
    · exact (h.ap k e).2.2 hk
    · exact h.c_q (e ▸ hk)
  · rcases e with e | e
    · exact (h.ap _ e).2.1 rfl
    · exact h.p_q e
  · rcases e with e | e
    · exact (h.s_lt k e).1
    · rw [e]; exact h.qb
  · rcases k2 k hk with e | e
    · exact h.ap k e
    · exact ⟨fun q => by have := hl k (.inr (.inr (.inl q))); omega, fun q => by have := hl k (.inr (.inr (.inr (.inl q)))); omega, fun q => by have := hl k (.inr (.inr (.inr (.inr q)))); omega⟩
  · obtain ⟨r1, r2, r3, r4, r5, r6, r7⟩ := h.rw x hx
    refine ⟨hc.row r1 (fun e => by rcases e with e | e; exact r2 e; exact r3 e), fun e => ?_, r3, r4, r5, r6, r7⟩
    rcases k2 _ e with e | e
    · exact r2 e
    · have := r1.lt
      omega
/-- the cuts are another list -/
theorem StAt.cuts {cv' : Value} (h : StAt w0 W p q B g S v dv cv l r j rs cs C rows) (ho : OwnL W' w0.heap.size CtT 4 Ct.cells cv' cs') (hc : Chg (fun k => cv.ownBlock = some k) W W') (hk : ∀ k, cv'.ownBlock = some k → cv.ownBlock = some k ∨ W.heap.size ≤ k) : StAt w0 W' p q B g S v dv cv' l r j rs cs' C rows := by
  refine ⟨⟨h.jn.disk.kept hc.jn (fun k hk e => (h.ap k hk).2.2 e), hc.row h.jn.row h.c_q, h.jn.out⟩, h.lg.chg hc (fun k hk e => h.c_ls k e hk), ho, hc.row h.row h.c_p, below_chg h.low hc h.low.size (fun k e => (h.ct.lt k e).1), h.pb, h.qb, fun k hs => ⟨(h.ap k hs).1, (h.ap k hs).2.1, fun e => ?_⟩, fun x hx => ?_⟩
  · rcases hk k e with e | e
    · exact (h.ap k hs).2.2 e
    · have := (h.s_lt k hs).2
      omega
  · obtain ⟨r1, r2, r3, r4, r5, r6, r7⟩ := h.rw x hx
    refine ⟨hc.row r1 r6, r2, r3, r4, r5, fun e => ?_, r7⟩
    rcases hk _ e with e | e
    · exact r6 e
    · have := r1.lt
      omega
end
/-- a store of block p -/
def St (w0 W : World) (p : Nat) (l : List Jn.Fl) (r : Int) (j : Jn.Jr.J) (rs : List Rp) (cs : List Ct) (rel : Int) (brk : Bool) (rows : Rws) : Prop :=
  ∃ q B g S v dv cv, StAt w0 W p q B g S v dv cv l r j rs cs (StC q B cv rel brk) rows
section
variable {w0 W W' : World} {p : Nat} {l : List Jn.Fl} {r : Int} {j : Jn.Jr.J} {rs : List Rp} {cs : List Ct} {rel : Int} {brk : Bool} {rows rows' : Rws}
theorem St.low (h : St w0 W p l r j rs cs rel brk rows) : Below w0.heap.size w0 W := by
  obtain ⟨q, B, g, S, v, dv, cv, h⟩ := h
  exact h.low
theorem St.below (h : St w0 W p l r j rs cs rel brk rows) (hb : Below W.heap.size W W') : St w0 W' p l r j rs cs rel brk rows := by
  obtain ⟨q, B, g, S, v, dv, cv, h⟩ := h
  exact ⟨q, B, g, S, v, dv, cv, h.below hb⟩
theorem St.less (h : St w0 W p l r j rs cs rel brk rows) (hs : ∀ x ∈ rows', x ∈ rows) : St w0 W p l r j rs cs rel brk rows' := by
  obtain ⟨q, B, g, S, v, dv, cv, h⟩ := h
  exact ⟨q, B, g, S, v, dv, cv, h.less hs⟩
theorem St.brow (h : St w0 W p l r j rs cs rel brk rows) {gx : Nat} {T : TypeId} {X : List Value} (hx : (gx, T, X) ∈ rows) : Row W gx T X := by
  obtain ⟨q, B, g, S, v, dv, cv, h⟩ := h
  exact h.brow hx
theorem St.fresh (h : St w0 W p l r j rs cs rel brk rows) : ∀ x ∈ rows, x.1 ≠ W.heap.size := by
  obtain ⟨q, B, g, S, v, dv, cv, h⟩ := h
  exact h.fresh
theorem St.alloc (h : St w0 W p l r j rs cs rel brk rows) (T : TypeId) (X : List Value) : St w0 (W.alloc (.cells X.toArray T)) p l r j rs cs rel brk ((W.heap.size, T, X) :: rows) := by
  obtain ⟨q, B, g, S, v, dv, cv, h⟩ := h
  exact ⟨q, B, g, S, v, dv, cv, h.alloc T X⟩
theorem St.write {gx : Nat} {T : TypeId} {X0 X : List Value} (h : St w0 W p l r j rs cs rel brk ((gx, T, X0) :: rows)) (hg : W.grownBy W' (some gx)) (hr : Row W' gx T X) (hne : ∀ x ∈ rows, x.1 ≠ gx) : St w0 W' p l r j rs cs rel brk ((gx, T, X) :: rows) := by
  obtain ⟨q, B, g, S, v, dv, cv, h⟩ := h
  exact ⟨q, B, g, S, v, dv, cv, h.write hg hr hne⟩
theorem St.box {T : TypeId} {X Z : List Value} (h : St w0 W p l r j rs cs rel brk rows) (hg : (W.alloc (.cells Z.toArray T)).grownBy W' (some W.heap.size)) (hr : Row W' W.heap.size T X) : St w0 W' p l r j rs cs rel brk ((W.heap.size, T, X) :: rows) :=
  (h.alloc T Z).write hg hr h.fresh
end
end Go.Proofs.YtalfnadejpmjnaaGreatDoor
