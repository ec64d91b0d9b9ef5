/- A log and a list of receipts of the call's own beside it. -/
import Derived.Test.YtgdijbcoacgadaaDoorOdMade
import Derived.Test.YtgdijbcoacgadaaDoorOdSame
namespace Go.Proofs.YtgdijbcoacgadaaDoor
open Go.RowKit
set_option linter.unusedVariables false
set_option linter.unusedSimpArgs false
set_option maxRecDepth 100000

theorem Od.addR_mk (rs : List Rp) (kind : Int) (body : ByteArray) (time : Int) : Od.addR rs kind body time = ((Od.mk rs kind body time).1, (Od.mk rs kind body time).2.2) := by
  unfold Od.addR
  by_cases h : (Od.mk rs kind body time).2.2 = 0
  · rw [if_pos h, h]
  · rw [if_neg h]
    congr 1
    by_cases h1 : rs ≠ [] ∧ time < Od.last rs
    · rw [Od.mk_early h1]
    by_cases h2 : (Od.ask rs kind body).2 = 0
    · rw [Od.mk_link h1 h2] at h ⊢
      unfold Rp.linkE at h ⊢
      split
      · next h3 => rw [if_pos h3] at h; exact absurd rfl h
      · rfl
    · rw [Od.mk_ask h1 h2]
theorem SlR.drop {w : World} {B : Nat} {A : Option Addr} {c : Nat} {l : List Rp} (h : SlR w B A c l) (lo : Nat) (hlo : lo ≤ l.length) : SlR w B (if c = lo then A else A.map (fun x => x.add (lo * 68))) (c - lo) (l.drop lo) := by
  have hc := h.2.2.1
  have hl := h.2.2.2.1
  refine ⟨fun h0 => ?_, fun e => ?_, by rw [List.length_drop]; omega, by rw [List.length_drop]; omega, fun b hb => h.2.2.2.2 b (List.mem_of_mem_drop hb)⟩
  · have hlt : lo < l.length := by
      rcases Nat.lt_or_ge lo l.length with q | q
      · exact q
      · exact absurd (List.drop_of_length_le q) h0
    obtain ⟨g, off, rfl, hg, hat⟩ := h.1 (by intro e; rw [e] at hlt; simp at hlt)
    refine ⟨g, off + lo * 68, by rw [if_neg (by omega)]; show some (Addr.add _ _) = _; rw [add_at], hg, fun i hi => ?_⟩
    rw [List.length_drop] at hi
    rw [List.getElem_drop, show off + lo * 68 + i * 68 = off + (lo + i) * 68 by omega]
    exact hat (lo + i) (by omega)
  · have e2 : A = none := by
      split at e
      · exact e
      · cases A with
        | none => rfl
        | some q => cases e
    obtain ⟨q1, q2⟩ := h.2.1 e2
    subst q1
    exact ⟨by simp, by omega⟩
theorem slice19 (A : Option Addr) (m n c : Nat) (hn : n ≤ m) (hc : m ≤ c) (W : World) : (Instr.slice 26 (.slice A m c) (some (.int .i64 n)) none none).run Tryd.prog W = .ok (.slice (if c = n then A else A.map (fun x => x.add (n * 68))) (m - n) (c - n)) W := by
  have hz : (sizeOf (Tryd.prog.elem 26)).run Tryd.prog W = .ok 68 W := by kernel_rfl
  have e := run_slice_l (P := Tryd.prog) (w := W) (t := 26) (a := A) (len := m) (cap := c) (by kernel_rfl) (kl := .i64) (l := (n : Int)) (by omega) (by omega)
  rw [hz] at e
  simp only [Result.andThen, Int.toNat_natCast] at e
  rw [e]
  unfold sliced
  rfl
/-- the log of block B holds rl, the value u the list rx, and there are rows beside them -/
def Duo (w0 W : World) (B : Nat) (u : Value) (rl rx : List Rp) (rows : List (Nat × TypeId × List Value)) : Prop :=
  ∃ v dv, LogAt W w0.heap.size B v dv rl ∧ OwnL W w0.heap.size 30 68 Rp.cells u rx ∧ Below w0.heap.size w0 W ∧ (∀ k, u.ownBlock = some k → ¬ LS B v dv k) ∧ ∀ x ∈ rows, Row W x.1 x.2.1 x.2.2 ∧ ¬ LS B v dv x.1 ∧ u.ownBlock ≠ some x.1 ∧ w0.heap.size ≤ x.1
section
variable {w0 W W' : World} {B : Nat} {u : Value} {rl rl' rx : List Rp} {rows rows' : List (Nat × TypeId × List Value)}
theorem Duo.low (h : Duo w0 W B u rl rx rows) : Below w0.heap.size w0 W := by
  obtain ⟨v, dv, _, _, h2, _⟩ := h
  exact h2
theorem Duo.below (h : Duo w0 W B u rl rx rows) (hb : Below W.heap.size W W') : Duo w0 W' B u rl rx rows := by
  obtain ⟨v, dv, h1, h2, h3, h4, h5⟩ := h
  exact ⟨v, dv, h1.below hb, h2.below hb, two_below' h3 hb, h4, fun x hx => ⟨(h5 x hx).1.below hb, (h5 x hx).2⟩⟩
theorem Duo.less (h : Duo w0 W B u rl rx rows) (hs : ∀ x ∈ rows', x ∈ rows) : Duo w0 W B u rl rx rows' := by
  obtain ⟨v, dv, h1, h2, h3, h4, h5⟩ := h
  exact ⟨v, dv, h1, h2, h3, h4, fun x hx => h5 x (hs x hx)⟩
theorem Duo.good (h : Duo w0 W B u rl rx rows) : Od.Good rl := by
  obtain ⟨v, dv, h1, _⟩ := h
  exact h1.good
theorem Duo.own (h : Duo w0 W B u rl rx rows) : OwnL W w0.heap.size 30 68 Rp.cells u rx := by
  obtain ⟨v, dv, _, h2, _⟩ := h
  exact h2
theorem Duo.row (h : Duo w0 W B u rl rx rows) {g : Nat} {T : TypeId} {C : List Value} (hx : (g, T, C) ∈ rows) : Row W g T C := by
  obtain ⟨v, dv, _, _, _, _, h5⟩ := h
  exact (h5 _ hx).1
theorem Duo.box (h : Duo w0 W B u rl rx rows) {T : TypeId} {C ZT : List Value} (hg : (W.alloc (.cells ZT.toArray T)).grownBy W' (some W.heap.size)) (hr : Row W' W.heap.size T C) : Duo w0 W' B u rl rx ((W.heap.size, T, C) :: rows) := by
  have hb : Below W.heap.size W W' := below_own ((Below.refl W.heap.size W).alloc (Nat.le_refl _) _) hg (fun k hk => by cases hk; exact Nat.le_refl _)
  obtain ⟨v, dv, h1, h2, h3, h4, h5⟩ := h
  refine ⟨v, dv, h1.below hb, h2.below hb, two_below' h3 hb, h4, fun x hx => ?_⟩
  rcases List.mem_cons.1 hx with rfl | hx
  · exact ⟨hr, fun q => by have := (h1.lt _ q).2; simp only at this; omega, fun q => by have := (h2.lt _ q).2; simp only at this; omega, h3.size⟩
  · exact ⟨(h5 x hx).1.below hb, (h5 x hx).2⟩
theorem Duo.fresh (h : Duo w0 W B u rl rx rows) : ∀ x ∈ rows, x.1 ≠ W.heap.size := by
  obtain ⟨v, dv, h1, h2, h3, h4, h5⟩ := h
  intro x hx e
  have := (h5 x hx).1.lt
  omega
theorem Duo.alloc (h : Duo w0 W B u rl rx rows) (T : TypeId) (C : List Value) : Duo w0 (W.alloc (.cells C.toArray T)) B u rl rx ((W.heap.size, T, C) :: rows) := by
  have hb : Below W.heap.size W (W.alloc (.cells C.toArray T)) := (Below.refl W.heap.size W).alloc (Nat.le_refl _) _
  obtain ⟨v, dv, h1, h2, h3, h4, h5⟩ := h
  refine ⟨v, dv, h1.below hb, h2.below hb, two_below' h3 hb, h4, fun x hx => ?_⟩
  rcases List.mem_cons.1 hx with rfl | hx
  · exact ⟨Row.new W T C, fun q => by have := (h1.lt _ q).2; simp only at this; omega, fun q => by have := (h2.lt _ q).2; simp only at this; omega, h3.size⟩
  · exact ⟨(h5 x hx).1.below hb, (h5 x hx).2⟩
theorem Duo.write {g : Nat} {T : TypeId} {C0 C : List Value} (h : Duo w0 W B u rl rx ((g, T, C0) :: rows)) (hg : W.grownBy W' (some g)) (hr : Row W' g T C) (hne : ∀ x ∈ rows, x.1 ≠ g) : Duo w0 W' B u rl rx ((g, T, C) :: rows) := by
  obtain ⟨v, dv, h1, h2, h3, h4, h5⟩ := h
  obtain ⟨r1, r2, r3, r4⟩ := h5 _ List.mem_cons_self
  have hc : Chg (fun k => k = g) W W' := Chg.of_grown hg (fun k hk => by cases hk; exact .inl rfl)
  refine ⟨v, dv, h1.chg hc (fun k hk e => r2 (e ▸ hk)), h2.chg hc (fun k hk e => r3 (e ▸ hk)), below_own h3 hg (fun k hk => by cases hk; exact r4), h4, fun x hx => ?_⟩
  rcases List.mem_cons.1 hx with rfl | hx
  · exact ⟨hr, r2, r3, r4⟩
  · obtain ⟨q1, q2⟩ := h5 x (List.mem_cons_of_mem _ hx)
    exact ⟨q1.kept hg (fun e => hne x hx (Option.some.inj e)), q2⟩
theorem Duo.to {v dv : Value} (h1 : LogAt W w0.heap.size B v dv rl) (h2 : OwnL W w0.heap.size 30 68 Rp.cells u rx) (h3 : Below w0.heap.size w0 W) (h4 : ∀ k, u.ownBlock = some k → ¬ LS B v dv k) (h5 : ∀ x ∈ rows, Row W x.1 x.2.1 x.2.2 ∧ ¬ LS B v dv x.1 ∧ u.ownBlock ≠ some x.1 ∧ w0.heap.size ≤ x.1) (h : LTo W W' w0.heap.size B v dv rl') : Duo w0 W' B u rl' rx rows := by
  obtain ⟨v', dv', q1, q2, q3⟩ := h
  refine ⟨v', dv', q1, h2.chg q2 h4, below_chg h3 q2 h3.size (fun k hk => (h1.lt k hk).1), fun k hk q => ?_, fun x hx => ?_⟩
  · rcases q3 _ q with q | q
    · exact h4 k hk q
    · have := (h2.lt k hk).2
      omega
  · obtain ⟨r1, r2, r3, r4⟩ := h5 x hx
    refine ⟨q2.row r1 r2, fun q => ?_, r3, r4⟩
    rcases q3 _ q with q | q
    · exact r2 q
    · have := r1.lt
      omega
theorem Duo.add (h : Duo w0 W B u rl rx rows) (hT : Tab W) (kind : Int) (body : ByteArray) (time : Int) (hs : body.size ≤ 140737488351232) (hl : rl.length < 1000) :
    Calls Tryd.prog 12 #[.pointer (some ⟨B, 0, none⟩), .int .i64 kind, .string body, .int .i64 time] W fun e w' => e = .returned (.tuple #[.agg (Od.mk rl kind body time).1.cells.toArray, .int .i64 (Od.mk rl kind body time).2.2]) ∧ Duo w0 w' B u (Od.addL rl kind body time) rx rows := by
  obtain ⟨v, dv, h1, h2, h3, h4, h5⟩ := h
  refine (h1.add kind body time hs hT hl).mono ?_
  rintro e w' ⟨rfl, hq⟩
  rw [Od.addR_mk]
  exact ⟨rfl, Duo.to h1 h2 h3 h4 h5 hq⟩
theorem Duo.loadY (h : Duo w0 W B u rl rx rows) (hT : Tab W) (r : Rp) (hr : r.Fits) (hl : rl.length < 1000) (hf : Od.fitsIn rl r) :
    Calls Tryd.prog 11 #[.pointer (some ⟨B, 0, none⟩), .agg r.cells.toArray] W fun e w' => e = .returned (.int .i64 0) ∧ Duo w0 w' B u (rl ++ [r]) rx rows := by
  obtain ⟨v, dv, h1, h2, h3, h4, h5⟩ := h
  refine (h1.Load_yes r hr hT hl hf).mono ?_
  rintro e w' ⟨rfl, hq⟩
  exact ⟨rfl, Duo.to h1 h2 h3 h4 h5 hq⟩
theorem Duo.loadN (h : Duo w0 W B u rl rx rows) (hT : Tab W) (r : Rp) (hr : r.Fits) (hl : rl.length < 1000) (hf : ¬ Od.fitsIn rl r) :
    Calls Tryd.prog 11 #[.pointer (some ⟨B, 0, none⟩), .agg r.cells.toArray] W fun e w' => e = .returned (.int .i64 7) ∧ Duo w0 w' B u rl rx rows := by
  have h0 := h
  obtain ⟨v, dv, h1, h2, h3, h4, h5⟩ := h
  refine (h1.Load_no r hr hT hl hf).mono ?_
  rintro e w' ⟨rfl, hb⟩
  exact ⟨rfl, h0.below hb⟩
/-- the list gets another one -/
theorem Duo.push {u' : Value} {rx' : List Rp} (h : Duo w0 W B u rl rx rows) (ho : OwnL W' w0.heap.size 30 68 Rp.cells u' rx') (hc : Chg (fun k => u.ownBlock = some k) W W') (hk : ∀ k, u'.ownBlock = some k → u.ownBlock = some k ∨ W.heap.size ≤ k) : Duo w0 W' B u' rl rx' rows := by
  obtain ⟨v, dv, h1, h2, h3, h4, h5⟩ := h
  refine ⟨v, dv, h1.chg hc (fun k q hq => h4 k hq q), ho, below_chg h3 hc h3.size (fun k q => (h2.lt k q).1), fun k q hl => ?_, fun x hx => ?_⟩
  · rcases hk k q with q | q
    · exact h4 k q hl
    · have := (h1.lt k hl).2
      omega
  · obtain ⟨r1, r2, r3, r4⟩ := h5 x hx
    refine ⟨hc.row r1 r3, r2, fun q => ?_, r4⟩
    rcases hk _ q with q | q
    · exact r3 q
    · have := r1.lt
      omega
theorem Duo.all (h : Duo w0 W B u rl rx rows) (i : Int) :
    Calls Tryd.prog 18 #[.pointer (some ⟨B, 0, none⟩), .int .i64 i] W fun e w' => (∃ u, e = .returned u ∧ OwnL w' W.heap.size 30 68 Rp.cells u (rl.drop (Od.lo rl.length i))) ∧ Below W.heap.size W w' := by
  obtain ⟨v, dv, h1, _⟩ := h
  exact h1.from i
theorem Duo.atY (h : Duo w0 W B u rl rx rows) (k : Nat) (hk : k < rl.length) :
    Calls Tryd.prog 14 #[.pointer (some ⟨B, 0, none⟩), .int .i64 (k : Int)] W fun e w' => e = .returned (.tuple #[.agg rl[k].cells.toArray, .int .i64 0]) ∧ Below W.heap.size W w' := by
  obtain ⟨v, dv, h1, _⟩ := h
  exact h1.at_yes k hk
theorem Duo.atN (h : Duo w0 W B u rl rx rows) (i : Int) (hi : i < 0 ∨ (rl.length : Int) ≤ i) :
    Calls Tryd.prog 14 #[.pointer (some ⟨B, 0, none⟩), .int .i64 i] W fun e w' => e = .returned (.tuple #[.agg Rp.zero.cells.toArray, .int .i64 4]) ∧ Below W.heap.size W w' := by
  obtain ⟨v, dv, h1, _⟩ := h
  exact h1.at_no i hi
theorem Duo.lenC (h : Duo w0 W B u rl rx rows) : Calls Tryd.prog 16 #[.pointer (some ⟨B, 0, none⟩)] W fun e w' => e = .returned (.int .i64 rl.length) ∧ W = w' := by
  obtain ⟨v, dv, h1, _⟩ := h
  exact h1.lenC
theorem Duo.taken (h : Duo w0 W B u rl rx rows) (i : Int) : Calls Tryd.prog 19 #[.pointer (some ⟨B, 0, none⟩), .int .i64 i] W fun e w' => e = .returned (.int .i64 (Od.taken rl i)) ∧ Below W.heap.size W w' := by
  obtain ⟨v, dv, h1, _⟩ := h
  exact h1.taken i
theorem Duo.nextC (h : Duo w0 W B u rl rx rows) (i : Int) : Calls Tryd.prog 21 #[.pointer (some ⟨B, 0, none⟩), .int .i64 i] W fun e w' => e = .returned (.int .i64 (Od.nextOf rl i)) ∧ W = w' := by
  obtain ⟨v, dv, h1, _⟩ := h
  exact h1.nextC i
theorem Duo.slR {A : Option Addr} {c : Nat} (h : Duo w0 W B (.slice A rx.length c) rl rx rows) (hf : ∀ b ∈ rx, b.Fits) (hl : rx.length ≤ 1000) : SlR W W.heap.size A c rx := by
  obtain ⟨A2, c2, e, hs⟩ := h.own.slR19 hf (by omega)
  injection e with e1 e2 e3
  subst e1 e3
  exact hs
end
end Go.Proofs.YtgdijbcoacgadaaDoor
