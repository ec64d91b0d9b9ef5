/- Layer 9's laws: a call of both. -/
import Derived.Test.YtfebknhggapljaaDiskOpen
import Derived.Test.YtfebknhggapljaaDiskRcrash
import Derived.Deep.RegionHeld3
namespace Go.Proofs.Ytfebknhggapljaa
open Go.RowKit Go.Maps
set_option linter.unusedVariables false
set_option linter.unusedSimpArgs false

/-- both stand so; nothing has changed since w0 but blocks of S0, T0 and new ones -/
def BothS (w0 W : World) (S0 T0 : Nat → Prop) (B g x : Nat) (a b : List Fl × Int) : Prop :=
  ∃ (S T : Nat → Prop) (v : Value), DiskS W B S g a.1 a.2 ∧ (∀ k, T k → B ≤ k ∧ k < W.heap.size) ∧ RefIn W B x v b.1 b.2 ∧ (∀ k, RefOwn x v k → T k) ∧ (∀ k, S k → ¬ T k) ∧ Chg (fun k => S0 k ∨ T0 k) w0 W ∧
    (∀ k, S k → S0 k ∨ w0.heap.size ≤ k) ∧ (∀ k, T k → T0 k ∨ w0.heap.size ≤ k)
theorem BothS.start {w0 : World} {S0 T0 : Nat → Prop} {B g x : Nat} {a b : List Fl × Int} {v : Value} (hd : DiskS w0 B S0 g a.1 a.2) (hz : ∀ k, T0 k → B ≤ k ∧ k < w0.heap.size) (hr : RefIn w0 B x v b.1 b.2) (ho : ∀ k, RefOwn x v k → T0 k) (hx : ∀ k, S0 k → ¬ T0 k) : BothS w0 w0 S0 T0 B g x a b :=
  ⟨S0, T0, v, hd, hz, hr, ho, hx, Chg.refl _ _, fun _ h => .inl h, fun _ h => .inl h⟩
theorem BothS.below {w0 W W' : World} {S0 T0 : Nat → Prop} {B g x : Nat} {a b : List Fl × Int} (h : BothS w0 W S0 T0 B g x a b) (hb : Below W.heap.size W W') : BothS w0 W' S0 T0 B g x a b := by
  obtain ⟨S, T, v, hd, hz, hr, ho, hx, hc, h1, h2⟩ := h
  exact ⟨S, T, v, hd.below hb, fun k hk => ⟨(hz k hk).1, Nat.lt_of_lt_of_le (hz k hk).2 hb.size⟩, hr.below hb, ho, hx, hc.trans (Chg.of_below (S := fun _ => False) hb) (fun _ h => h.elim), h1, h2⟩
theorem BothS.drew {w0 W : World} {S0 T0 : Nat → Prop} {B g x : Nat} {a b : List Fl × Int} (h : BothS w0 W S0 T0 B g x a b) : BothS w0 W.drew S0 T0 B g x a b := h.below (Below.refl _ _).drew
theorem BothS.rebase {w w0 W : World} {S0 T0 : Nat → Prop} {B g x : Nat} {a b : List Fl × Int} (h : BothS w0 W S0 T0 B g x a b) (hb : Below w.heap.size w w0) : BothS w W S0 T0 B g x a b := by
  obtain ⟨S, T, v, hd, hz, hr, ho, hx, hc, h1, h2⟩ := h
  have := hb.size
  exact ⟨S, T, v, hd, hz, hr, ho, hx, (Chg.of_below hb).trans hc (fun k h => .inl h), fun k hk => (h1 k hk).imp id (fun h => by omega), fun k hk => (h2 k hk).imp id (fun h => by omega)⟩
theorem BothS.block {w0 W : World} {S0 T0 : Nat → Prop} {B g x : Nat} {a b : List Fl × Int} (h : BothS w0 W S0 T0 B g x a b) {k : Nat} (hk : k < w0.heap.size) (h1 : ¬ S0 k) (h2 : ¬ T0 k) : W.heap[k]? = w0.heap[k]? := by
  obtain ⟨S, T, v, hd, hz, hr, ho, hx, hc, _, _⟩ := h
  exact hc.block k hk (fun h => h.elim h1 h2)
theorem BothS.diskStep {w0 W : World} {S0 T0 : Nat → Prop} {B g x : Nat} {a a' b : List Fl × Int} {f : FuncId} {args : Array Value} {c : Int} (h : BothS w0 W S0 T0 B g x a b)
    (op : ∀ S, DiskS W B S g a.1 a.2 → (∀ k, S k → S0 k ∨ w0.heap.size ≤ k) → Calls Try.prog f args W fun e w' => e = .returned (.int .i64 c) ∧ DiskS w' B (Plus S W w') g a'.1 a'.2 ∧ Chg S W w') : Calls Try.prog f args W fun e w' => e = .returned (.int .i64 c) ∧ BothS w0 w' S0 T0 B g x a' b := by
  obtain ⟨S, T, v, hd, hz, hr, ho, hx, hc, h1, h2⟩ := h
  refine (op S hd h1).mono ?_
  rintro e w' ⟨rfl, hd', hc'⟩
  have hs := hc.size
  refine ⟨rfl, Plus S W w', T, v, hd', fun k hk => ⟨(hz k hk).1, Nat.lt_of_lt_of_le (hz k hk).2 hc'.size⟩, hr.kept hc' (fun k hk hS => hx k hS (ho k hk)), ho, fun k hk hT => ?_, hc.trans hc' (fun k hS => (h1 k hS).imp .inl id), fun k hk => ?_, h2⟩
  · rcases hk with hk | hk
    · exact hx k hk hT
    · have := (hz k hT).2; omega
  · rcases hk with hk | hk
    · exact h1 k hk
    · exact .inr (by omega)
theorem BothS.refStep {w0 W : World} {S0 T0 : Nat → Prop} {B g x : Nat} {a b b' : List Fl × Int} {f : FuncId} {args : Array Value} {c : Value} (h : BothS w0 W S0 T0 B g x a b)
    (op : ∀ v, RefIn W B x v b.1 b.2 → (∀ k, RefOwn x v k → T0 k ∨ w0.heap.size ≤ k) → Calls Try.prog f args W fun e w' => e = .returned c ∧ RefTo W w' B x v b'.1 b'.2) : Calls Try.prog f args W fun e w' => e = .returned c ∧ BothS w0 w' S0 T0 B g x a b' := by
  obtain ⟨S, T, v, hd, hz, hr, ho, hx, hc, h1, h2⟩ := h
  refine (op v hr (fun k hk => h2 k (ho k hk))).mono ?_
  rintro e w' ⟨rfl, v', hr', hc', hn'⟩
  have hs := hc.size
  have hxz := hz x (ho x (.inl rfl))
  refine ⟨rfl, S, Plus T W w', v', hd.kept hc' (fun k hS hR => hx k hS (ho k hR)), fun k hk => ?_, hr', fun k hk => ?_, fun k hS hk => ?_, hc.trans hc' (fun k hR => (h2 k (ho k hR)).imp .inr id), h1, fun k hk => ?_⟩
  · rcases hk with hk | hk
    · exact ⟨(hz k hk).1, Nat.lt_of_lt_of_le (hz k hk).2 hc'.size⟩
    · exact ⟨by omega, hk.2⟩
  · rcases hk with rfl | hk
    · exact .inl (ho _ (.inl rfl))
    · rcases hn' k hk with h | h
      · exact .inl (ho k h)
      · exact .inr ⟨h, (hr'.files.lt k hk).2⟩
  · rcases hk with hk | hk
    · exact hx k hS hk
    · have := (hd.1 k hS).2; omega
  · rcases hk with hk | hk
    · exact h2 k hk
    · exact .inr (by omega)
/-- what a call makes of a disk, and what it answers -/
def act9 (x : Act9) (s : List Fl × Int) : (List Fl × Int) × Int :=
  if x.a.kind = 0 ∨ x.a.kind = 1 then (((appendR s.1 s.2 x.a.name x.a.s).1, (appendR s.1 s.2 x.a.name x.a.s).2.1), (appendR s.1 s.2 x.a.name x.a.s).2.2)
  else if x.a.kind = 2 then (((syncR s.1 s.2 x.a.name).1, (syncR s.1 s.2 x.a.name).2.1), (syncR s.1 s.2 x.a.name).2.2)
  else if x.a.kind = 3 then (((renameR s.1 s.2 x.a.name x.a.to).1, (renameR s.1 s.2 x.a.name x.a.to).2.1), (renameR s.1 s.2 x.a.name x.a.to).2.2)
  else if x.a.kind = 4 then (((removeR s.1 s.2 x.a.name).1, (removeR s.1 s.2 x.a.name).2.1), (removeR s.1 s.2 x.a.name).2.2)
  else if x.a.kind = 5 then ((s.1, (armR s.2 x.a.n).1), (armR s.2 x.a.n).2)
  else ((Fl.crashL s.1 x.ks, -1), 0)
theorem rarm9 {w : World} {B g : Nat} {v : Value} {l : List Fl} {r : Int} (n : Int) (hn : n ≤ 9223372036854775807) (hd : RefIn w B g v l r) :
    Calls Try.prog 30 #[.pointer (some ⟨g, 0, none⟩), .int .i64 n] w fun e w' => e = .returned (.int .i64 (armR r n).2) ∧ RefTo w w' B g v l (armR r n).1 := by
  have hgap := hd.apart
  have e1 : rarm r n = armR r n := rfl
  refine (rarm_at n hd.row).mono ?_
  rintro e w' ⟨rfl, h1, h2⟩
  rw [e1] at h1 ⊢
  refine ⟨rfl, v, ⟨h1, hd.files.kept h2 (.inr (fun e => hgap e.symm)), hd.sorted, hd.len, hd.ok, hd.lo, ?_⟩, Chg.of_grown h2 (fun k e => by cases e; exact .inl (.inl rfl)), fun k hk => .inl (.inr hk)⟩
  unfold armR
  have := hd.top
  split
  · exact this
  · split
    · exact this
    · exact hn
/-- the cells of a call in a box -/
def Box9 (q : Nat) (x : Act9) (W : World) : Prop := W.cell? ⟨q, 0, none⟩ = some (.int .i64 x.a.kind) ∧ W.cell? ⟨q, 1, none⟩ = some (Sb x.a.name) ∧ W.cell? ⟨q, 2, none⟩ = some (Sb x.a.to) ∧ W.cell? ⟨q, 3, none⟩ = some (Sb x.a.s) ∧ W.cell? ⟨q, 4, none⟩ = some (.int .i64 x.a.n) ∧ W.cell? ⟨q, 5, none⟩ = some x.keep
set_option maxRecDepth 20000 in
set_option maxHeartbeats 3200000 in
theorem do9_any (x : Act9) {w : World} {S0 T0 : Nat → Prop} {B g xg : Nat} {a b : List Fl × Int} (hx : x.Fits w) (hB : BothS w w S0 T0 B g xg a b) (hz : ∀ k, S0 k ∨ T0 k → k < w.heap.size) (hk : KeepA x.keep (fun k => S0 k ∨ T0 k)) :
    Calls Try.prog 11 #[.pointer (some ⟨g, 0, none⟩), .pointer (some ⟨xg, 0, none⟩), x.v] w fun e w' => ∃ res, e = .returned (.bool res) ∧ (a = b → res = true) ∧ BothS w w' S0 T0 B g xg (act9 x a).1 (act9 x b).1 := by
  have hb1 : Below w.heap.size w (w.alloc (.cells x.cells.toArray 31)) := Below.alloc (Below.refl _ _) (Nat.le_refl _) _
  have hB1 : BothS (w.alloc (.cells x.cells.toArray 31)) (w.alloc (.cells x.cells.toArray 31)) S0 T0 B g xg a b := by
    obtain ⟨S, T, v, hd, hz1, hr, ho, hxx, hc, h1, h2⟩ := hB.below hb1
    have hsz : (w.alloc (.cells x.cells.toArray 31)).heap.size = w.heap.size + 1 := by simp
    obtain ⟨S9, T9, v9, hd9, hz9, hr9, ho9, hxx9, hc9, h19, h29⟩ := hB
    have s9 : ∀ k, S9 k → S0 k := fun k hk => (h19 k hk).elim id (fun h => by have := (hd9.1 k hk).2; omega)
    have t9 : ∀ k, T9 k → T0 k := fun k hk => (h29 k hk).elim id (fun h => by have := (hz9 k hk).2; omega)
    exact ⟨S9, T9, v9, hd9.below hb1, fun k hk => ⟨(hz9 k hk).1, by have := (hz9 k hk).2; omega⟩, hr9.below hb1, ho9, hxx9, Chg.refl _ _, fun k hk => .inl (s9 k hk), fun k hk => .inl (t9 k hk)⟩
  have hrowq := Row.new w 31 x.cells
  have hbox : ∀ (W : World) (a b : List Fl × Int), BothS (w.alloc (.cells x.cells.toArray 31)) W S0 T0 B g xg a b → Box9 w.heap.size x W := fun W a b h => by
    have hq := h.block (k := w.heap.size) (by simp) (fun h => by have := hz _ (.inl h); omega) (fun h => by have := hz _ (.inr h); omega)
    have hr : Row W w.heap.size 31 x.cells := hq.trans hrowq
    exact ⟨Row.cell hr 0 (by simp [Act9.cells, A9.cells]), Row.cell hr 1 (by simp [Act9.cells, A9.cells]), Row.cell hr 2 (by simp [Act9.cells, A9.cells]), Row.cell hr 3 (by simp [Act9.cells, A9.cells]), Row.cell hr 4 (by simp [Act9.cells, A9.cells]), Row.cell hr 5 (by simp [Act9.cells, A9.cells])⟩
  have hkeep : ∀ (W : World) (a b : List Fl × Int), BothS (w.alloc (.cells x.cells.toArray 31)) W S0 T0 B g xg a b → KeepV W x.keep x.ks := fun W a b h => by
    obtain ⟨A, c, e, hc⟩ := hx.2.2.2.2
    refine ⟨A, c, e, fun hne => ?_⟩
    obtain ⟨bb, off, rfl, hb, hcs⟩ := hc hne
    have hnk := hk bb off _ c e (List.length_pos_iff.2 hne)
    have hblk := h.block (k := bb) (by simp; omega) (fun h => hnk (.inl h)) (fun h => hnk (.inr h))
    obtain ⟨S, T, v, _, _, _, _, _, hcg, _, _⟩ := h
    refine ⟨bb, off, rfl, Nat.lt_of_lt_of_le hb (Nat.le_trans hb1.size hcg.size), fun i hi => ?_⟩
    rw [← hcs i hi]
    exact World.cell?_of_block (w := w) (hblk.trans (hb1.block bb hb))
  have hn1 : x.a.name.length ≤ maxLen := by have := hx.1; unfold maxLen; omega
  have hap : ∀ (W : World) (b : List Fl × Int), BothS (w.alloc (.cells x.cells.toArray 31)) W S0 T0 B g xg a b → Calls Try.prog 22 #[.pointer (some ⟨g, 0, none⟩), Sb x.a.name, Sb x.a.s] W fun e w' => e = .returned (.int .i64 (appendR a.1 a.2 x.a.name x.a.s).2.2) ∧ BothS (w.alloc (.cells x.cells.toArray 31)) w' S0 T0 B g xg ((appendR a.1 a.2 x.a.name x.a.s).1, (appendR a.1 a.2 x.a.name x.a.s).2.1) b := fun W b h => h.diskStep (fun S hd _ => append_S _ _ hd hx.1 hx.2.2.1)
  have hsy : ∀ (W : World) (b : List Fl × Int), BothS (w.alloc (.cells x.cells.toArray 31)) W S0 T0 B g xg a b → Calls Try.prog 23 #[.pointer (some ⟨g, 0, none⟩), Sb x.a.name] W fun e w' => e = .returned (.int .i64 (syncR a.1 a.2 x.a.name).2.2) ∧ BothS (w.alloc (.cells x.cells.toArray 31)) w' S0 T0 B g xg ((syncR a.1 a.2 x.a.name).1, (syncR a.1 a.2 x.a.name).2.1) b := fun W b h => h.diskStep (fun S hd _ => sync_S _ hd hn1)
  have hrn : ∀ (W : World) (b : List Fl × Int), BothS (w.alloc (.cells x.cells.toArray 31)) W S0 T0 B g xg a b → Calls Try.prog 24 #[.pointer (some ⟨g, 0, none⟩), Sb x.a.name, Sb x.a.to] W fun e w' => e = .returned (.int .i64 (renameR a.1 a.2 x.a.name x.a.to).2.2) ∧ BothS (w.alloc (.cells x.cells.toArray 31)) w' S0 T0 B g xg ((renameR a.1 a.2 x.a.name x.a.to).1, (renameR a.1 a.2 x.a.name x.a.to).2.1) b := fun W b h => h.diskStep (fun S hd _ => rename_S _ _ hd hn1 hx.2.1)
  have hrm : ∀ (W : World) (b : List Fl × Int), BothS (w.alloc (.cells x.cells.toArray 31)) W S0 T0 B g xg a b → Calls Try.prog 25 #[.pointer (some ⟨g, 0, none⟩), Sb x.a.name] W fun e w' => e = .returned (.int .i64 (removeR a.1 a.2 x.a.name).2.2) ∧ BothS (w.alloc (.cells x.cells.toArray 31)) w' S0 T0 B g xg ((removeR a.1 a.2 x.a.name).1, (removeR a.1 a.2 x.a.name).2.1) b := fun W b h => h.diskStep (fun S hd _ => remove_S _ hd hn1)
  have har : ∀ (W : World) (b : List Fl × Int), BothS (w.alloc (.cells x.cells.toArray 31)) W S0 T0 B g xg a b → Calls Try.prog 21 #[.pointer (some ⟨g, 0, none⟩), .int .i64 x.a.n] W fun e w' => e = .returned (.int .i64 (armR a.2 x.a.n).2) ∧ BothS (w.alloc (.cells x.cells.toArray 31)) w' S0 T0 B g xg (a.1, (armR a.2 x.a.n).1) b := fun W b h => h.diskStep (fun S hd _ => arm_S _ hd hx.2.2.2.1)
  have hcr : ∀ (W : World) (b : List Fl × Int), BothS (w.alloc (.cells x.cells.toArray 31)) W S0 T0 B g xg a b → Calls Try.prog 20 #[.pointer (some ⟨g, 0, none⟩), x.keep] W fun e w' => e = .returned (.int .i64 0) ∧ BothS (w.alloc (.cells x.cells.toArray 31)) w' S0 T0 B g xg (Fl.crashL a.1 x.ks, -1) b := fun W b h => h.diskStep (fun S hd hS => crash_S _ _ hd (hkeep _ _ _ h) (fun bb off n c e hp hb => by
    have hnk := hk bb off n c e hp
    obtain ⟨A, c9, e9, hc⟩ := hx.2.2.2.2
    rw [e] at e9
    injection e9 with e1 e2 e3
    obtain ⟨b9, o9, e4, hb9, _⟩ := hc (by intro h; rw [h] at e2; simp at e2; omega)
    rw [← e1] at e4
    injection e4 with e4
    injection e4 with e4
    subst e4
    rcases hS _ hb with h | h
    · exact hnk (.inl h)
    · simp at h; omega))
  have hrap : ∀ (W : World) (a : List Fl × Int), BothS (w.alloc (.cells x.cells.toArray 31)) W S0 T0 B g xg a b → Calls Try.prog 26 #[.pointer (some ⟨xg, 0, none⟩), Sb x.a.name, Sb x.a.s] W fun e w' => e = .returned (.int .i64 (appendR b.1 b.2 x.a.name x.a.s).2.2) ∧ BothS (w.alloc (.cells x.cells.toArray 31)) w' S0 T0 B g xg a ((appendR b.1 b.2 x.a.name x.a.s).1, (appendR b.1 b.2 x.a.name x.a.s).2.1) := fun W a h => h.refStep (fun v hd _ => rappend9 _ _ hx.1 hx.2.2.1 hd)
  have hrsy : ∀ (W : World) (a : List Fl × Int), BothS (w.alloc (.cells x.cells.toArray 31)) W S0 T0 B g xg a b → Calls Try.prog 27 #[.pointer (some ⟨xg, 0, none⟩), Sb x.a.name] W fun e w' => e = .returned (.int .i64 (syncR b.1 b.2 x.a.name).2.2) ∧ BothS (w.alloc (.cells x.cells.toArray 31)) w' S0 T0 B g xg a ((syncR b.1 b.2 x.a.name).1, (syncR b.1 b.2 x.a.name).2.1) := fun W a h => h.refStep (fun v hd _ => rsync9 _ hd)
  have hrrn : ∀ (W : World) (a : List Fl × Int), BothS (w.alloc (.cells x.cells.toArray 31)) W S0 T0 B g xg a b → Calls Try.prog 28 #[.pointer (some ⟨xg, 0, none⟩), Sb x.a.name, Sb x.a.to] W fun e w' => e = .returned (.int .i64 (renameR b.1 b.2 x.a.name x.a.to).2.2) ∧ BothS (w.alloc (.cells x.cells.toArray 31)) w' S0 T0 B g xg a ((renameR b.1 b.2 x.a.name x.a.to).1, (renameR b.1 b.2 x.a.name x.a.to).2.1) := fun W a h => h.refStep (fun v hd _ => rrename9 _ _ hx.2.1 hd)
  have hrrm : ∀ (W : World) (a : List Fl × Int), BothS (w.alloc (.cells x.cells.toArray 31)) W S0 T0 B g xg a b → Calls Try.prog 29 #[.pointer (some ⟨xg, 0, none⟩), Sb x.a.name] W fun e w' => e = .returned (.int .i64 (removeR b.1 b.2 x.a.name).2.2) ∧ BothS (w.alloc (.cells x.cells.toArray 31)) w' S0 T0 B g xg a ((removeR b.1 b.2 x.a.name).1, (removeR b.1 b.2 x.a.name).2.1) := fun W a h => h.refStep (fun v hd _ => rremove9 _ hd)
  have hrar : ∀ (W : World) (a : List Fl × Int), BothS (w.alloc (.cells x.cells.toArray 31)) W S0 T0 B g xg a b → Calls Try.prog 30 #[.pointer (some ⟨xg, 0, none⟩), .int .i64 x.a.n] W fun e w' => e = .returned (.int .i64 (armR b.2 x.a.n).2) ∧ BothS (w.alloc (.cells x.cells.toArray 31)) w' S0 T0 B g xg a (b.1, (armR b.2 x.a.n).1) := fun W a h => h.refStep (fun v hd _ => rarm9 _ hx.2.2.2.1 hd)
  have hrcr : ∀ (W : World) (a : List Fl × Int), BothS (w.alloc (.cells x.cells.toArray 31)) W S0 T0 B g xg a b → Calls Try.prog 31 #[.pointer (some ⟨xg, 0, none⟩), x.keep] W fun e w' => e = .returned (.tuple #[]) ∧ BothS (w.alloc (.cells x.cells.toArray 31)) w' S0 T0 B g xg a (Fl.crashL b.1 x.ks, -1) := fun W a h => h.refStep (fun v hd hT => rcrash9 _ _ hd (hkeep _ _ _ h) (fun bb off n c e hp hb => by
    have hnk := hk bb off n c e hp
    obtain ⟨A, c9, e9, hc⟩ := hx.2.2.2.2
    rw [e] at e9
    injection e9 with e1 e2 e3
    obtain ⟨b9, o9, e4, hb9, _⟩ := hc (by intro h; rw [h] at e2; simp at e2; omega)
    rw [← e1] at e4
    injection e4 with e4
    injection e4 with e4
    subst e4
    rcases hT _ hb with h | h
    · exact hnk (.inr h)
    · simp at h; omega))
  obtain ⟨RA, hRA⟩ : ∃ R, R = (act9 x a).1 := ⟨_, rfl⟩
  obtain ⟨RB, hRB⟩ : ∃ R, R = (act9 x b).1 := ⟨_, rfl⟩
  rw [← hRA, ← hRB]
  have Hreb : Hid (∀ W a b, BothS (w.alloc (.cells x.cells.toArray 31)) W S0 T0 B g xg a b → BothS w W S0 T0 B g xg a b) := Lib.hid fun W a b h => h.rebase hb1
  have hform : x.v = .agg #[.int .i64 x.a.kind, Sb x.a.name, Sb x.a.to, Sb x.a.s, .int .i64 x.a.n, .slice x.kA x.ks.length x.kc] := rfl
  have hkf : x.keep = .slice x.kA x.ks.length x.kc := rfl
  have hcf : x.cells.toArray = #[.int .i64 x.a.kind, Sb x.a.name, Sb x.a.to, Sb x.a.s, .int .i64 x.a.n, .slice x.kA x.ks.length x.kc] := rfl
  rw [hform]
  rw [hkf] at hcr hrcr
  unfold Box9 at hbox
  rw [hkf] at hbox
  rw [hcf] at hB1 hbox hap hsy hrn hrm har hcr hrap hrsy hrrn hrrm hrar hrcr Hreb
  unfold act9 at hRA hRB
  clear hform hkf hcf hkeep hk hx hb1 hrowq hB hz hn1
  obtain ⟨kn, hkn⟩ : ∃ kn, kn = x.ks.length := ⟨_, rfl⟩
  rw [← hkn] at hB1 hbox hap hsy hrn hrm har hcr hrap hrsy hrrn hrrm hrar hrcr Hreb ⊢
  clear hkn
  generalize x.kA = kA at *
  generalize x.kc = kc at *
  generalize x.ks = ks at *
  generalize x.a.kind = ak at *
  generalize x.a.name = an at *
  generalize x.a.to = at_ at *
  generalize x.a.s = as_ at *
  generalize x.a.n = am at *
  clear x
  by_cases h0 : ak = 0
  · rw [if_pos (.inl h0)] at hRA hRB
    subst h0
    have HD := Lib.hid hap
    have HR := Lib.hid hrap
    have HB1 := Lib.hid hB1
    have hS : ∀ W a b, BothS (w.alloc (.cells #[.int .i64 0, Sb an, Sb at_, Sb as_, .int .i64 am, .slice kA kn kc] 31)) W S0 T0 B g xg a b → (W.cell? ⟨w.heap.size, 1, none⟩ = some (Sb an) ∧ W.cell? ⟨w.heap.size, 3, none⟩ = some (Sb as_)) := fun W a b h => ⟨(hbox W a b h).2.1, (hbox W a b h).2.2.2.1⟩
    have hS0 := hS _ _ _ hB1.drew
    have hB0 := hB1.drew
    have HS := Lib.hid hS
    have HRA := Lib.hid hRA
    have HRB := Lib.hid hRB
    clear hB1 hbox hap hsy hrn hrm har hcr hrap hrsy hrrn hrrm hrar hrcr hS hRA hRB
    go_enter Try.func11, Try.ntmps11
    go_wp2_with fail
    go_region_held3 (fun w' => w'.cell? ⟨w.heap.size, 1, none⟩ = some (Sb an) ∧ w'.cell? ⟨w.heap.size, 3, none⟩ = some (Sb as_))
      (first | assumption | exact hS0 | exact (HS.out _ _ _ (by assumption)))
      (first
        | (go_at_call 22; with_reducible refine Calls.mono (HD.out _ _ (by assumption)) ?_; rintro e w' ⟨rfl, hBn⟩)
        | (go_at_call 26; with_reducible refine Calls.mono (HR.out _ _ (by assumption)) ?_; rintro e w' ⟨rfl, hBn⟩))
    all_goals
      have Hfin := Lib.hid (Hreb.out _ _ _ (by assumption))
      go_wp2_with fail
      go_ret
      refine ⟨_, rfl, fun h => ?_, by rw [HRA.out, HRB.out]; exact Hfin.out⟩
      subst h
      simp
  · have k0 : (ak == 0) = false := by simpa using h0
    by_cases h1 : ak = 1
    · rw [if_pos (.inr h1)] at hRA hRB
      subst h1
      clear h0
      have HD := Lib.hid hap
      have HR := Lib.hid hrap
      have HB1 := Lib.hid hB1
      have hS : ∀ W a b, BothS (w.alloc (.cells #[.int .i64 1, Sb an, Sb at_, Sb as_, .int .i64 am, .slice kA kn kc] 31)) W S0 T0 B g xg a b → (W.cell? ⟨w.heap.size, 1, none⟩ = some (Sb an) ∧ W.cell? ⟨w.heap.size, 3, none⟩ = some (Sb as_)) := fun W a b h => ⟨(hbox W a b h).2.1, (hbox W a b h).2.2.2.1⟩
      have hS0 := hS _ _ _ hB1.drew
      have hB0 := hB1.drew
      have HS := Lib.hid hS
      have HRA := Lib.hid hRA
      have HRB := Lib.hid hRB
      clear hB1 hbox hap hsy hrn hrm har hcr hrap hrsy hrrn hrrm hrar hrcr hS hRA hRB
      go_enter Try.func11, Try.ntmps11
      go_wp2_with fail
      go_region_held3 (fun w' => w'.cell? ⟨w.heap.size, 1, none⟩ = some (Sb an) ∧ w'.cell? ⟨w.heap.size, 3, none⟩ = some (Sb as_))
        (first | assumption | exact hS0 | exact (HS.out _ _ _ (by assumption)))
        (first
          | (go_at_call 22; with_reducible refine Calls.mono (HD.out _ _ (by assumption)) ?_; rintro e w' ⟨rfl, hBn⟩)
          | (go_at_call 26; with_reducible refine Calls.mono (HR.out _ _ (by assumption)) ?_; rintro e w' ⟨rfl, hBn⟩))
      all_goals
        have Hfin := Lib.hid (Hreb.out _ _ _ (by assumption))
        go_wp2_with fail
        go_ret
        refine ⟨_, rfl, fun h => ?_, by rw [HRA.out, HRB.out]; exact Hfin.out⟩
        subst h
        simp
    · have k1 : (ak == 1) = false := by simpa using h1
      rw [if_neg (by intro h; rcases h with h | h <;> contradiction)] at hRA hRB
      by_cases h2 : ak = 2
      · rw [if_pos h2] at hRA hRB
        subst h2
        clear h0 h1
        have HD := Lib.hid hsy
        have HR := Lib.hid hrsy
        have HB1 := Lib.hid hB1
        have hS : ∀ W a b, BothS (w.alloc (.cells #[.int .i64 2, Sb an, Sb at_, Sb as_, .int .i64 am, .slice kA kn kc] 31)) W S0 T0 B g xg a b → (W.cell? ⟨w.heap.size, 1, none⟩ = some (Sb an)) := fun W a b h => (hbox W a b h).2.1
        have hS0 := hS _ _ _ hB1.drew
        have hB0 := hB1.drew
        have HS := Lib.hid hS
        have HRA := Lib.hid hRA
        have HRB := Lib.hid hRB
        clear hB1 hbox hap hsy hrn hrm har hcr hrap hrsy hrrn hrrm hrar hrcr hS hRA hRB
        go_enter Try.func11, Try.ntmps11
        go_wp2_with fail
        go_region_held3 (fun w' => w'.cell? ⟨w.heap.size, 1, none⟩ = some (Sb an))
          (first | assumption | exact hS0 | exact (HS.out _ _ _ (by assumption)))
          (first
            | (go_at_call 23; with_reducible refine Calls.mono (HD.out _ _ (by assumption)) ?_; rintro e w' ⟨rfl, hBn⟩)
            | (go_at_call 27; with_reducible refine Calls.mono (HR.out _ _ (by assumption)) ?_; rintro e w' ⟨rfl, hBn⟩))
        all_goals
          have Hfin := Lib.hid (Hreb.out _ _ _ (by assumption))
          go_wp2_with fail
          go_ret
          refine ⟨_, rfl, fun h => ?_, by rw [HRA.out, HRB.out]; exact Hfin.out⟩
          subst h
          simp
      · have k2 : (ak == 2) = false := by simpa using h2
        rw [if_neg h2] at hRA hRB
        by_cases h3 : ak = 3
        · rw [if_pos h3] at hRA hRB
          subst h3
          clear h0 h1 h2
          have HD := Lib.hid hrn
          have HR := Lib.hid hrrn
          have HB1 := Lib.hid hB1
          have hS : ∀ W a b, BothS (w.alloc (.cells #[.int .i64 3, Sb an, Sb at_, Sb as_, .int .i64 am, .slice kA kn kc] 31)) W S0 T0 B g xg a b → (W.cell? ⟨w.heap.size, 1, none⟩ = some (Sb an) ∧ W.cell? ⟨w.heap.size, 2, none⟩ = some (Sb at_)) := fun W a b h => ⟨(hbox W a b h).2.1, (hbox W a b h).2.2.1⟩
          have hS0 := hS _ _ _ hB1.drew
          have hB0 := hB1.drew
          have HS := Lib.hid hS
          have HRA := Lib.hid hRA
          have HRB := Lib.hid hRB
          clear hB1 hbox hap hsy hrn hrm har hcr hrap hrsy hrrn hrrm hrar hrcr hS hRA hRB
          go_enter Try.func11, Try.ntmps11
          go_wp2_with fail
          go_region_held3 (fun w' => w'.cell? ⟨w.heap.size, 1, none⟩ = some (Sb an) ∧ w'.cell? ⟨w.heap.size, 2, none⟩ = some (Sb at_))
            (first | assumption | exact hS0 | exact (HS.out _ _ _ (by assumption)))
            (first
              | (go_at_call 24; with_reducible refine Calls.mono (HD.out _ _ (by assumption)) ?_; rintro e w' ⟨rfl, hBn⟩)
              | (go_at_call 28; with_reducible refine Calls.mono (HR.out _ _ (by assumption)) ?_; rintro e w' ⟨rfl, hBn⟩))
          all_goals
            have Hfin := Lib.hid (Hreb.out _ _ _ (by assumption))
            go_wp2_with fail
            go_ret
            refine ⟨_, rfl, fun h => ?_, by rw [HRA.out, HRB.out]; exact Hfin.out⟩
            subst h
            simp
        · have k3 : (ak == 3) = false := by simpa using h3
          rw [if_neg h3] at hRA hRB
          by_cases h4 : ak = 4
          · rw [if_pos h4] at hRA hRB
            subst h4
            clear h0 h1 h2 h3
            have HD := Lib.hid hrm
            have HR := Lib.hid hrrm
            have HB1 := Lib.hid hB1
            have hS : ∀ W a b, BothS (w.alloc (.cells #[.int .i64 4, Sb an, Sb at_, Sb as_, .int .i64 am, .slice kA kn kc] 31)) W S0 T0 B g xg a b → (W.cell? ⟨w.heap.size, 1, none⟩ = some (Sb an)) := fun W a b h => (hbox W a b h).2.1
            have hS0 := hS _ _ _ hB1.drew
            have hB0 := hB1.drew
            have HS := Lib.hid hS
            have HRA := Lib.hid hRA
            have HRB := Lib.hid hRB
            clear hB1 hbox hap hsy hrn hrm har hcr hrap hrsy hrrn hrrm hrar hrcr hS hRA hRB
            go_enter Try.func11, Try.ntmps11
            go_wp2_with fail
            go_region_held3 (fun w' => w'.cell? ⟨w.heap.size, 1, none⟩ = some (Sb an))
              (first | assumption | exact hS0 | exact (HS.out _ _ _ (by assumption)))
              (first
                | (go_at_call 25; with_reducible refine Calls.mono (HD.out _ _ (by assumption)) ?_; rintro e w' ⟨rfl, hBn⟩)
                | (go_at_call 29; with_reducible refine Calls.mono (HR.out _ _ (by assumption)) ?_; rintro e w' ⟨rfl, hBn⟩))
            all_goals
              have Hfin := Lib.hid (Hreb.out _ _ _ (by assumption))
              go_wp2_with fail
              go_ret
              refine ⟨_, rfl, fun h => ?_, by rw [HRA.out, HRB.out]; exact Hfin.out⟩
              subst h
              simp
          · have k4 : (ak == 4) = false := by simpa using h4
            rw [if_neg h4] at hRA hRB
            by_cases h5 : ak = 5
            · rw [if_pos h5] at hRA hRB
              subst h5
              clear h0 h1 h2 h3 h4
              have HD := Lib.hid har
              have HR := Lib.hid hrar
              have HB1 := Lib.hid hB1
              have hS : ∀ W a b, BothS (w.alloc (.cells #[.int .i64 5, Sb an, Sb at_, Sb as_, .int .i64 am, .slice kA kn kc] 31)) W S0 T0 B g xg a b → (W.cell? ⟨w.heap.size, 4, none⟩ = some (.int .i64 am)) := fun W a b h => (hbox W a b h).2.2.2.2.1
              have hS0 := hS _ _ _ hB1.drew
              have hB0 := hB1.drew
              have HS := Lib.hid hS
              have HRA := Lib.hid hRA
              have HRB := Lib.hid hRB
              clear hB1 hbox hap hsy hrn hrm har hcr hrap hrsy hrrn hrrm hrar hrcr hS hRA hRB
              go_enter Try.func11, Try.ntmps11
              go_wp2_with fail
              go_region_held3 (fun w' => w'.cell? ⟨w.heap.size, 4, none⟩ = some (.int .i64 am))
                (first | assumption | exact hS0 | exact (HS.out _ _ _ (by assumption)))
                (first
                  | (go_at_call 21; with_reducible refine Calls.mono (HD.out _ _ (by assumption)) ?_; rintro e w' ⟨rfl, hBn⟩)
                  | (go_at_call 30; with_reducible refine Calls.mono (HR.out _ _ (by assumption)) ?_; rintro e w' ⟨rfl, hBn⟩))
              all_goals
                have Hfin := Lib.hid (Hreb.out _ _ _ (by assumption))
                go_wp2_with fail
                go_ret
                refine ⟨_, rfl, fun h => ?_, by rw [HRA.out, HRB.out]; exact Hfin.out⟩
                subst h
                simp
            · have k5 : (ak == 5) = false := by simpa using h5
              rw [if_neg h5] at hRA hRB
              have HC := Lib.hid hcr
              have HRC := Lib.hid hrcr
              have HB1 := Lib.hid hB1
              have Hbox := Lib.hid hbox
              have HRA := Lib.hid hRA
              have HRB := Lib.hid hRB
              clear hB1 hbox hap hsy hrn hrm har hcr hrap hrsy hrrn hrrm hrar hrcr hRA hRB h0 h1 h2 h3 h4 h5
              go_enter Try.func11, Try.ntmps11
              go_wp2_with fail
              refine (HRC.out _ _ HB1.out).mono ?_
              rintro _ w2 ⟨rfl, hB2⟩
              have q5 := (Hbox.out _ _ _ hB2).2.2.2.2.2
              have HB2 := Lib.hid hB2
              clear hB2
              go_wp2_with fail
              refine (HC.out _ _ HB2.out).mono ?_
              rintro _ w3 ⟨rfl, hB3⟩
              have Hfin := Lib.hid (Hreb.out _ _ _ hB3)
              clear hB3
              go_wp2_with fail
              go_ret
              exact ⟨_, rfl, fun _ => rfl, by rw [HRA.out, HRB.out]; exact Hfin.out⟩
end Go.Proofs.Ytfebknhggapljaa
