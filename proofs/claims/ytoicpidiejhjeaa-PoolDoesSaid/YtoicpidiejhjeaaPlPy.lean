/- What play holds: a pool, two lists that grow, boxes. -/
import Derived.Test.YtoicpidiejhjeaaPlRun
import Derived.Test.YtoicpidiejhjeaaPlAwk
import Derived.Test.YtoicpidiejhjeaaPlEq
import Derived.Test.YtoicpidiejhjeaaPlOld
namespace Go.Proofs.Ytoicpidiejhjeaa
open Go.RowKit
set_option linter.unusedVariables false
set_option linter.unusedSimpArgs false
set_option maxRecDepth 100000

abbrev Rows18 := List (Nat × TypeId × List Value)
structure Py (w W : World) (base B : Nat) (v : Value) (size : Nat) (L : List Wt) (uo : Value) (lo : List Wt) (ug : Value) (lg : List Wt) (rows : Rows18) : Prop where
  low : Below w.heap.size w W
  hb : w.heap.size ≤ base
  pat : PAt 63 W base B v size L
  out : OwnL W w.heap.size 38 76 Wt.cells uo lo
  gone : OwnL W w.heap.size 38 76 Wt.cells ug lg
  row : ∀ x ∈ rows, Row W x.1 x.2.1 x.2.2
  sep : ∀ x ∈ rows, ¬ PS B v x.1 ∧ uo.ownBlock ≠ some x.1 ∧ ug.ownBlock ≠ some x.1 ∧ w.heap.size ≤ x.1
  ap1 : ∀ k, PS B v k → uo.ownBlock ≠ some k ∧ ug.ownBlock ≠ some k
  ap2 : ∀ k, uo.ownBlock = some k → ug.ownBlock ≠ some k
section
variable {w W W' : World} {base B size g : Nat} {v uo ug uo' ug' : Value} {L L' lo lg lo' lg' : List Wt} {rows rows' : Rows18} {T : TypeId} {C : List Value}
theorem Py.below (h : Py w W base B v size L uo lo ug lg rows) (hb : Below W.heap.size W W') : Py w W' base B v size L uo lo ug lg rows :=
  ⟨two_below' h.low hb, h.hb, h.pat.below hb, h.out.below hb, h.gone.below hb, fun x hx => (h.row x hx).below hb, h.sep, h.ap1, h.ap2⟩
theorem Py.alloc (h : Py w W base B v size L uo lo ug lg rows) (C : List Value) (T : TypeId) : Py w (W.alloc (.cells C.toArray T)) base B v size L uo lo ug lg ((W.heap.size, T, C) :: rows) := by
  have hb := (Below.refl W.heap.size W).alloc (Nat.le_refl _) (.cells C.toArray T)
  have h2 := h.below hb
  refine ⟨h2.low, h2.hb, h2.pat, h2.out, h2.gone, fun x hx => ?_, fun x hx => ?_, h2.ap1, h2.ap2⟩
  · rcases List.mem_cons.1 hx with rfl | hx
    · exact Row.new W T C
    · exact h2.row x hx
  · rcases List.mem_cons.1 hx with rfl | hx
    · exact ⟨fun hk => by have := (h.pat.lt _ hk).2; simp only at this; omega, fun hk => by have := (h.out.lt _ hk).2; simp only at this; omega, fun hk => by have := (h.gone.lt _ hk).2; simp only at this; omega, h.low.size⟩
    · exact h2.sep x hx
theorem Py.write (h : Py w W base B v size L uo lo ug lg rows) (hg : W.grownBy W' (some g)) (hr : Row W' g T C) (hm : ∃ T0 C0, (g, T0, C0) ∈ rows) (hs : ∀ x ∈ rows', x = (g, T, C) ∨ (x ∈ rows ∧ x.1 ≠ g)) : Py w W' base B v size L uo lo ug lg rows' := by
  obtain ⟨T0, C0, hm⟩ := hm
  have ho := h.sep _ hm
  have hc : Chg (fun k => k = g) W W' := Chg.of_grown hg (fun k hk => by cases hk; exact .inl rfl)
  refine ⟨below_chg h.low hc h.low.size (fun k hk => by rw [hk]; exact ho.2.2.2), h.hb, h.pat.chg hc (fun k hk e => ho.1 (e ▸ hk)), h.out.chg hc (fun k hk e => ho.2.1 (e ▸ hk)), h.gone.chg hc (fun k hk e => ho.2.2.1 (e ▸ hk)), fun x hx => ?_, fun x hx => ?_, h.ap1, h.ap2⟩
  · rcases hs x hx with rfl | ⟨hx, hne⟩
    · exact hr
    · exact (h.row x hx).kept hg (by simpa using hne)
  · rcases hs x hx with rfl | ⟨hx, hne⟩
    · exact ho
    · exact h.sep x hx
theorem Py.pool (h : Py w W base B v size L uo lo ug lg rows) (hp : PTo 63 W W' base B v size L') : ∃ v', Py w W' base B v' size L' uo lo ug lg rows := by
  obtain ⟨v', h1, hc, h3⟩ := hp
  have hlow : ∀ k, PS B v k → w.heap.size ≤ k := fun k hk => Nat.le_trans h.hb (h.pat.lt k hk).1
  refine ⟨v', below_chg h.low hc h.low.size hlow, h.hb, h1, h.out.chg hc (fun k hk hp => (h.ap1 k hp).1 hk), h.gone.chg hc (fun k hk hp => (h.ap1 k hp).2 hk), fun x hx => hc.row (h.row x hx) (h.sep x hx).1, fun x hx => ⟨fun hk => ?_, (h.sep x hx).2⟩, fun k hk => ?_, h.ap2⟩
  · rcases h3 _ hk with q | q
    · exact (h.sep x hx).1 q
    · have := (h.row x hx).lt; omega
  · rcases h3 k hk with q | q
    · exact h.ap1 k q
    · exact ⟨fun e => by have := (h.out.lt k e).2; omega, fun e => by have := (h.gone.lt k e).2; omega⟩
theorem Py.pushO (h : Py w W base B v size L uo lo ug lg rows) (ho : OwnL W' w.heap.size 38 76 Wt.cells uo' lo') (hc : Chg (fun k => uo.ownBlock = some k) W W') (hk : ∀ k, uo'.ownBlock = some k → uo.ownBlock = some k ∨ W.heap.size ≤ k) : Py w W' base B v size L uo' lo' ug lg rows := by
  refine ⟨below_chg h.low hc h.low.size (fun k hk => (h.out.lt k hk).1), h.hb, h.pat.chg hc (fun k hp e => (h.ap1 k hp).1 e), ho, h.gone.chg hc (fun k hg e => h.ap2 k e hg), fun x hx => hc.row (h.row x hx) (h.sep x hx).2.1, fun x hx => ⟨(h.sep x hx).1, fun e => ?_, (h.sep x hx).2.2⟩, fun k hp => ⟨fun e => ?_, (h.ap1 k hp).2⟩, fun k e => ?_⟩
  · rcases hk _ e with q | q
    · exact (h.sep x hx).2.1 q
    · have := (h.row x hx).lt; omega
  · rcases hk _ e with q | q
    · exact (h.ap1 k hp).1 q
    · have := (h.pat.lt k hp).2; omega
  · rcases hk _ e with q | q
    · exact h.ap2 k q
    · exact fun e2 => by have := (h.gone.lt k e2).2; omega
theorem Py.pushG (h : Py w W base B v size L uo lo ug lg rows) (ho : OwnL W' w.heap.size 38 76 Wt.cells ug' lg') (hc : Chg (fun k => ug.ownBlock = some k) W W') (hk : ∀ k, ug'.ownBlock = some k → ug.ownBlock = some k ∨ W.heap.size ≤ k) : Py w W' base B v size L uo lo ug' lg' rows := by
  refine ⟨below_chg h.low hc h.low.size (fun k hk => (h.gone.lt k hk).1), h.hb, h.pat.chg hc (fun k hp e => (h.ap1 k hp).2 e), h.out.chg hc (fun k ho e => h.ap2 k ho e), ho, fun x hx => hc.row (h.row x hx) (h.sep x hx).2.2.1, fun x hx => ⟨(h.sep x hx).1, (h.sep x hx).2.1, fun e => ?_, (h.sep x hx).2.2.2⟩, fun k hp => ⟨(h.ap1 k hp).1, fun e => ?_⟩, fun k e e2 => ?_⟩
  · rcases hk _ e with q | q
    · exact (h.sep x hx).2.2.1 q
    · have := (h.row x hx).lt; omega
  · rcases hk _ e with q | q
    · exact (h.ap1 k hp).2 q
    · have := (h.pat.lt k hp).2; omega
  · rcases hk _ e2 with q | q
    · exact h.ap2 k e q
    · have := (h.out.lt k e).2; omega
theorem Py.sub (h : Py w W base B v size L uo lo ug lg rows) (hs : ∀ x ∈ rows', x ∈ rows) : Py w W base B v size L uo lo ug lg rows' :=
  ⟨h.low, h.hb, h.pat, h.out, h.gone, fun x hx => h.row x (hs x hx), fun x hx => h.sep x (hs x hx), h.ap1, h.ap2⟩
end
/-- the same, whatever the pool's list -/
def PyE (w W : World) (base B size : Nat) (L : List Wt) (uo : Value) (lo : List Wt) (ug : Value) (lg : List Wt) (rows : Rows18) : Prop := ∃ v, Py w W base B v size L uo lo ug lg rows
section
variable {w W W' : World} {base B size g : Nat} {uo ug uo' ug' : Value} {L L' lo lg lo' lg' : List Wt} {rows rows' : Rows18} {T : TypeId} {C : List Value}
theorem PyE.below (h : PyE w W base B size L uo lo ug lg rows) (hb : Below W.heap.size W W') : PyE w W' base B size L uo lo ug lg rows := by
  obtain ⟨v, h⟩ := h; exact ⟨v, h.below hb⟩
theorem PyE.alloc (h : PyE w W base B size L uo lo ug lg rows) (C : List Value) (T : TypeId) : PyE w (W.alloc (.cells C.toArray T)) base B size L uo lo ug lg ((W.heap.size, T, C) :: rows) := by
  obtain ⟨v, h⟩ := h; exact ⟨v, h.alloc C T⟩
theorem PyE.write (h : PyE w W base B size L uo lo ug lg rows) (hg : W.grownBy W' (some g)) (hr : Row W' g T C) (hm : ∃ T0 C0, (g, T0, C0) ∈ rows) (hs : ∀ x ∈ rows', x = (g, T, C) ∨ (x ∈ rows ∧ x.1 ≠ g)) : PyE w W' base B size L uo lo ug lg rows' := by
  obtain ⟨v, h⟩ := h; exact ⟨v, h.write hg hr hm hs⟩
theorem PyE.low (h : PyE w W base B size L uo lo ug lg rows) : Below w.heap.size w W := by obtain ⟨v, h⟩ := h; exact h.low
theorem PyE.row (h : PyE w W base B size L uo lo ug lg rows) {x : Nat × TypeId × List Value} (hx : x ∈ rows) : Row W x.1 x.2.1 x.2.2 := by obtain ⟨v, h⟩ := h; exact h.row x hx
theorem PyE.sub (h : PyE w W base B size L uo lo ug lg rows) (hs : ∀ x ∈ rows', x ∈ rows) : PyE w W base B size L uo lo ug lg rows' := by obtain ⟨v, h⟩ := h; exact ⟨v, h.sub hs⟩
theorem PyE.out (h : PyE w W base B size L uo lo ug lg rows) : OwnL W w.heap.size 38 76 Wt.cells uo lo := by obtain ⟨v, h⟩ := h; exact h.out
theorem PyE.gone (h : PyE w W base B size L uo lo ug lg rows) : OwnL W w.heap.size 38 76 Wt.cells ug lg := by obtain ⟨v, h⟩ := h; exact h.gone
theorem PyE.pushO (h : PyE w W base B size L uo lo ug lg rows) (ho : OwnL W' w.heap.size 38 76 Wt.cells uo' lo') (hc : Chg (fun k => uo.ownBlock = some k) W W') (hk : ∀ k, uo'.ownBlock = some k → uo.ownBlock = some k ∨ W.heap.size ≤ k) : PyE w W' base B size L uo' lo' ug lg rows := by
  obtain ⟨v, h⟩ := h; exact ⟨v, h.pushO ho hc hk⟩
theorem PyE.pushG (h : PyE w W base B size L uo lo ug lg rows) (ho : OwnL W' w.heap.size 38 76 Wt.cells ug' lg') (hc : Chg (fun k => ug.ownBlock = some k) W W') (hk : ∀ k, ug'.ownBlock = some k → ug.ownBlock = some k ∨ W.heap.size ≤ k) : PyE w W' base B size L uo lo ug' lg' rows := by
  obtain ⟨v, h⟩ := h; exact ⟨v, h.pushG ho hc hk⟩
theorem PyE.apart (h : PyE w W base B size L uo lo ug lg rows) {x : Nat × TypeId × List Value} (hx : x ∈ rows) : w.heap.size ≤ x.1 ∧ x.1 < W.heap.size := by
  obtain ⟨v, h⟩ := h; exact ⟨(h.sep x hx).2.2.2, (h.row x hx).lt⟩
theorem PyE.put (h : PyE w W base B size L uo lo ug lg rows) (x : Wt) (hx : x.Ok) (hI : Pl.putE size L x = 0 → InsOk (if Pl.full size L = true then L.eraseIdx (Pl.poor L L.length) else L) x) :
    Calls Try.prog 10 #[.pointer (some ⟨B, 0, none⟩), .agg x.cells.toArray] W fun e w' => e = .returned (.tuple #[.agg (Pl.putG size L x).cells.toArray, .bool (Pl.putF size L x), .int .i64 (Pl.putE size L x)]) ∧ PyE w w' base B size (Pl.put size L x) uo lo ug lg rows := by
  obtain ⟨v, h⟩ := h
  exact (h.pat.put x hx hI).mono fun e w' ⟨q1, q2⟩ => ⟨q1, h.pool q2⟩
theorem PyE.next0 (h : PyE w W base B size L uo lo ug lg rows) (now : Int) (f : FuncId) (cap : Value) (nx : Int → Int) (hN : NextFn W f cap nx) (hb : Pl.best L now nx L.length = none) :
    Calls Try.prog 15 #[.pointer (some ⟨B, 0, none⟩), .int .i64 now, .func (.func f) #[] #[cap]] W fun e w' => e = .returned (.tuple #[.agg Wt.none.cells.toArray, .bool false]) ∧ PyE w w' base B size L uo lo ug lg rows := by
  obtain ⟨v, h⟩ := h
  exact (h.pat.next_none now f cap nx hN hb).mono fun e w' ⟨q1, q2⟩ => ⟨q1, h.pool q2⟩
theorem PyE.next1 (h : PyE w W base B size L uo lo ug lg rows) (now : Int) (f : FuncId) (cap : Value) (nx : Int → Int) (hN : NextFn W f cap nx) (b : Wt) (hb : Pl.best L now nx L.length = some b) :
    Calls Try.prog 15 #[.pointer (some ⟨B, 0, none⟩), .int .i64 now, .func (.func f) #[] #[cap]] W fun e w' => e = .returned (.tuple #[.agg b.cells.toArray, .bool true]) ∧ PyE w w' base B size ((L.eraseIdx (Pl.pos L b.ix)).map (Pl.raise b)) uo lo ug lg rows := by
  obtain ⟨v, h⟩ := h
  exact (h.pat.next_some now f cap nx hN b hb).mono fun e w' ⟨q1, q2⟩ => ⟨q1, h.pool q2⟩
theorem PyE.old (h : PyE w W base B size L uo lo ug lg rows) (now : Int) :
    Calls Try.prog 13 #[.pointer (some ⟨B, 0, none⟩), .int .i64 now] W fun e w' => ∃ A c, e = .returned (.slice A (Pl.old L now).length c) ∧ PyE w w' base B size (Pl.young L now) uo lo ug lg rows ∧ SlW w' w'.heap.size A c (Pl.old L now) := by
  obtain ⟨v, h⟩ := h
  refine (h.pat.old now).mono fun e w' ⟨u, q1, v', h1, ho, h2, h3, h4⟩ => ?_
  obtain ⟨A, c, rfl, _, _⟩ := ho.form
  exact ⟨A, c, q1, h.pool ⟨v', h1, h2, h3⟩, ho.slW (fun x hx => h.pat.wok x (by unfold Pl.old at hx; exact (List.mem_filter.1 hx).1)) (by have := Pl.old_len L now; have := h.pat.n256; omega)⟩
end
/-- the cells of a list of numbers -/
theorem next_of {w : World} {gN gX : Nat} {N : List Int} (F : FuncId) (hx : Row w gX 23 [.slice (some ⟨gN, 0, none⟩) 64 64]) (hn : Row w gN 3 (Is N)) (hl : N.length = 64)
    (enter : ∀ args W, (callFunc F args).run Try.prog W = .ok (.enter F args) W)
    (call : ∀ (W : World) (i : Nat) (z : Int), i < 64 → W.cell? ⟨gX, 0, none⟩ = some (.slice (some ⟨gN, 0, none⟩) 64 64) → W.cell? ⟨gN, i, none⟩ = some (.int .i64 z) → Calls Try.prog F #[.int .i64 i, .pointer (some ⟨gX, 0, none⟩)] W fun e w' => e = .returned (.int .i64 z) ∧ W = w') :
    NextFn w F (.pointer (some ⟨gX, 0, none⟩)) (Pl.nxf N) :=
  ⟨enter, fun W hW i h0 h1 => by
    obtain ⟨j, rfl⟩ : ∃ j : Nat, i = j := ⟨i.toNat, by omega⟩
    have hj : j < N.length := by omega
    have hc := (hn.below hW).cell j (by simp [Is]; exact hj)
    have he : Pl.nxf N (j : Int) = N[j] := by
      unfold Pl.nxf
      rw [List.getD_eq_getElem?_getD, Int.toNat_natCast, List.getElem?_eq_getElem hj]
      rfl
    rw [he]
    exact call W j N[j] (by omega) ((hx.below hW).cell 0 (by simp)) (by rw [hc]; simp [Is])⟩
theorem wait_places : (Try.prog.underlying 38).map (fun d => match d with | .struct fields => fields.toList.mapM (fun f => (Try.prog.info? f.type).map fun i => (f.offset, i.size)) | _ => Option.none) = some (some [(0, 72), (72, 1), (73, 1), (74, 1), (75, 1)]) := by kernel_rfl
theorem wait_zero : (Try.prog.info? 38).map (·.zero) = some (some (.agg Wt.none.cells.toArray)) := by kernel_rfl
theorem wait_builtP (parts : List (Nat × Value)) : Try.prog.built 38 parts = Instr.fill (#[(0, 72), (72, 1), (73, 1), (74, 1), (75, 1)][·]?) Wt.none.cells.toArray parts := by
  obtain ⟨i0, hi, hz⟩ := Option.map_eq_some_iff.1 wait_zero
  have hp := wait_places
  rw [Try.underlying38] at hp
  simp only [Option.map_some, Option.some.injEq] at hp
  unfold Program.built
  rw [hi, Try.underlying38]
  simp only [hz, hp]
  rfl
/-- a Wait of its parts, as play builds it -/
theorem wait_built5 (x : Wt) (hx : x.Ok) : Try.prog.built 38 [(0, .agg x.tx.cells.toArray), (1, .int .i64 x.ix), (4, .int .i64 x.place), (3, .int .i64 x.at_), (2, .int .i64 x.till)] = some x.cells.toArray := by
  have hL : Wt.none.cells.length = 76 := Wt.cells_len Wt.none_ok
  have hc := Tx.cells_length hx.tx
  have hzt : Wt.none.cells = Tx.none.cells ++ [.int .i64 0, .int .i64 0, .int .i64 0, .int .i64 0] := rfl
  have hzl : Tx.none.cells.length = 72 := Tx.cells_length Tx.none_ok
  rw [wait_builtP]
  rw [fill_step _ _ 0 _ x.tx.cells _ 0 72 rfl (by simp [Value.cells]) hc (by rw [hL]; omega)]
  have e0 : Wt.none.cells.take 0 ++ (x.tx.cells ++ Wt.none.cells.drop (0 + 72)) = x.tx.cells ++ [.int .i64 0, .int .i64 0, .int .i64 0, .int .i64 0] := by
    rw [List.take_zero, List.nil_append, Nat.zero_add, hzt, List.drop_left' hzl]
  rw [e0]
  have st : ∀ (t : List Value) (j : Nat) (z : Value), j < 4 → t.length = 4 → (x.tx.cells ++ t).take (72 + j) ++ ([z] ++ (x.tx.cells ++ t).drop (72 + j + 1)) = x.tx.cells ++ t.set j z := by
    intro t j z hj ht
    rw [← hc, List.take_length_add_append, Nat.add_assoc, List.drop_length_add_append, List.append_assoc]
    congr 1
    rw [List.set_eq_take_append_cons_drop, if_pos (by omega)]
    rfl
  rw [fill_step _ _ 1 _ [.int .i64 x.ix] _ 72 1 rfl rfl rfl (by simp [hc])]
  have e1 := st [.int .i64 0, .int .i64 0, .int .i64 0, .int .i64 0] 0 (.int .i64 x.ix) (by decide) rfl
  rw [Nat.add_zero] at e1
  rw [e1]
  rw [fill_step _ _ 4 _ [.int .i64 x.place] _ 75 1 rfl rfl rfl (by simp [hc])]
  have e2 := st ([Value.int .i64 0, .int .i64 0, .int .i64 0, .int .i64 0].set 0 (.int .i64 x.ix)) 3 (.int .i64 x.place) (by decide) rfl
  rw [show 72 + 3 = 75 from rfl] at e2
  rw [e2]
  rw [fill_step _ _ 3 _ [.int .i64 x.at_] _ 74 1 rfl rfl rfl (by simp [hc])]
  have e3 := st (([Value.int .i64 0, .int .i64 0, .int .i64 0, .int .i64 0].set 0 (.int .i64 x.ix)).set 3 (.int .i64 x.place)) 2 (.int .i64 x.at_) (by decide) rfl
  rw [show 72 + 2 = 74 from rfl] at e3
  rw [e3]
  rw [fill_step _ _ 2 _ [.int .i64 x.till] _ 73 1 rfl rfl rfl (by simp [hc])]
  have e4 := st ((([Value.int .i64 0, .int .i64 0, .int .i64 0, .int .i64 0].set 0 (.int .i64 x.ix)).set 3 (.int .i64 x.place)).set 2 (.int .i64 x.at_)) 1 (.int .i64 x.till) (by decide) rfl
  rw [show 72 + 1 = 73 from rfl] at e4
  rw [e4, fill_end]
  rfl
theorem make_zeros18 (u : World) : (Instr.makeSlice 23 (.int .i64 64) (.int .i64 64)).run Try.prog u = .ok (.slice (some ⟨u.heap.size, 0, none⟩) 64 64) (u.alloc (.cells (Is (List.replicate 64 0)).toArray 3)) := by kernel_rfl
end Go.Proofs.Ytoicpidiejhjeaa
