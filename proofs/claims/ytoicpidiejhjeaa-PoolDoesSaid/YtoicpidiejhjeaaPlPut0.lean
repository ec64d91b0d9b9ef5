/- Put: what stands while it walks. -/
import Derived.Test.YtoicpidiejhjeaaPlFind
import Derived.Test.YtoicpidiejhjeaaPlPoor
import Derived.Test.YtoicpidiejhjeaaPlTake
import Derived.Test.YtoicpidiejhjeaaPlMay
import Derived.Test.YtoicpidiejhjeaaPlIns
namespace Go.Proofs.Ytoicpidiejhjeaa
open Go.RowKit
set_option linter.unusedVariables false
set_option linter.unusedSimpArgs false
set_option maxRecDepth 100000

theorem results_row3 {P : Program} {fn : Func} {p u s : Tmp} {ty : TypeId} (h : fn.results = #[.cell p ty, .tmp u, .tmp s]) (tmps : Array Value) (w : World) (g : Nat) (T : TypeId) (xs : List Value) (d : TypeDesc)
    (hp : tmps.getD p undef = .pointer (some ⟨g, 0, none⟩)) (hg : Row w g T xs)
    (hu : P.underlying ty = some d) (hd : (match d with | .struct _ | .array _ _ => true | _ => false) = true) (hi : (P.info? ty).map (·.size) = some xs.toArray.size) (x y : Value) (hx : tmps.getD u undef = x) (hy : tmps.getD s undef = y) :
    (results fn tmps).run P w = .ok (.tuple #[.agg xs.toArray, x, y]) w := by
  have hl := run_loadVar_row w g T ty xs.toArray (0, 0) d hg hu hd hi
  have ha : (asAddr (.pointer (some ⟨g, 0, none⟩))).run P w = .ok ⟨g, 0, none⟩ w := rfl
  have hp2 : tmps[p]?.getD undef = .pointer (some ⟨g, 0, none⟩) := by simpa using hp
  have hx2 : tmps[u]?.getD undef = x := by simpa using hx
  have hy2 : tmps[s]?.getD undef = y := by simpa using hy
  simp only [results, h]
  simp [Sem.run_bind, Result.andThen, hp2, ha, hl, hx2, hy2]
theorem wp_buildWait {o : Oper} {a : Act} {w : World} {K : Act → World → Prop} {Q : Exit → Act → World → Prop} (x : Operand) (ho : o.op = .buildSlice 30 1 #[(0, x)]) (t : Wt) (ht : t.Ok) (C : List Value) (hC : t.cells = C) (hx : a.eval x = .agg C.toArray)
    (h : K (a.put o.dst (.slice (some ⟨w.heap.size, 0, none⟩) 1 1)) (w.alloc (.cells C.toArray 38))) : o.wp Try.prog a w K Q := by
  subst hC
  obtain ⟨i0, hi, h2⟩ := Option.map_eq_some_iff.1 wait_whole
  simp only [Prod.mk.injEq] at h2
  obtain ⟨hz, hsz, hby⟩ := h2
  have hf := fill_wait Wt.none.cells.toArray t.cells (Wt.cells_len ht)
  refine wp_buildSlice 30 38 1 _ ho t.cells.toArray i0 (.agg Wt.none.cells.toArray) Try.underlying30 hi hz (by rw [hsz]; decide) (by rw [hsz]; decide) ?_ h
  rw [hsz]
  simpa [Value.cells, hx] using hf
theorem wp_store_sl {P : Program} {op : Oper} {a : Act} {w : World} {K : Act → World → Prop} {Q : Exit → Act → World → Prop} (ty : TypeId) (x y : Operand) (ho : op.op = .store ty x y)
    (g i : Nat) (T : TypeId) (xs : List Value) (A : Option Addr) (n c : Nat) (hx : a.eval x = .pointer (some ⟨g, i, none⟩)) (hy : a.eval y = .slice A n c) (hg : Row w g T xs) (hi : i < xs.length) (hs : (P.info? ty).map (·.size) = some 1)
    (H : ∀ w', Row w' g T (xs.set i (.slice A n c)) → w.grownBy w' (some g) → K (a.put op.dst undef) w') : op.wp P a w K Q := by
  have hc := hg.cell i hi
  have hf := hg.free i
  have e : (storeVar ty ⟨g, i, none⟩ (.slice A n c)).run P w = (storeVar ty ⟨g, i, none⟩ (.agg #[.slice A n c])).run P w := by simp [storeVar, Value.cells]
  have hr := run_storeVar_mid (P := P) w g i ty #[.slice A n c] (fun j hj => by
    have : j = 0 := by simp at hj; omega
    subst this
    exact ⟨by rw [Nat.add_zero, hc]; rfl, hf⟩) (by rw [hs]; rfl) (all_oneCell_toArray (cs := [.slice A n c]) (fun v hv => by simp only [List.mem_singleton] at hv; subst hv; rfl))
  obtain ⟨r1, r2⟩ := row_setCells [.slice A n c] i w xs hg (by simp; omega)
  unfold Oper.wp execOp
  simp only [ho, hx, hy, Instr.storeAt, Instr.sureAddr, Sem.run_bind, Sem.run_pure, Result.andThen_ok, e, hr]
  refine H _ ?_ r2
  have e2 : xs.take i ++ ([.slice A n c] ++ xs.drop (i + [Value.slice A n c].length)) = xs.set i (.slice A n c) := by
    rw [List.set_eq_take_append_cons_drop, if_pos hi]
    rfl
  rw [← e2]
  exact r1
/-- a pool under way, and boxes made since w -/
structure PutAt (T : TypeId) (w W : World) (base B : Nat) (v v2 : Value) (size : Nat) (L : List Wt) (rows : List (Nat × List Value)) : Prop where
  pat : PAt T W base B v2 size L
  chg : Chg (PS B v) w W
  own : ∀ k, PS B v2 k → PS B v k ∨ w.heap.size ≤ k
  row : ∀ x ∈ rows, Row W x.1 38 x.2
  out : ∀ x ∈ rows, ¬ PS B v2 x.1 ∧ w.heap.size ≤ x.1
section
variable {T : TypeId} {w W W' : World} {base B size g : Nat} {v v2 : Value} {L L' : List Wt} {rows rows' : List (Nat × List Value)} {C : List Value}
theorem PAt.putAt (h : PAt T w base B v size L) (hb : Below w.heap.size w W) : PutAt T w W base B v v size L [] := ⟨h.below hb, Chg.of_below hb, fun k hk => .inl hk, by simp, by simp⟩
theorem PutAt.below (h : PutAt T w W base B v v2 size L rows) (hb : Below W.heap.size W W') : PutAt T w W' base B v v2 size L rows :=
  ⟨h.pat.below hb, h.chg.trans (Chg.of_below (S := PS B v) hb) (fun i hi => .inl hi), h.own, fun x hx => (h.row x hx).below hb, h.out⟩
theorem PutAt.new (h : PutAt T w W base B v v2 size L rows) (hr : Row W g 38 C) (hn : ¬ PS B v2 g) (hg : w.heap.size ≤ g) : PutAt T w W base B v v2 size L ((g, C) :: rows) :=
  ⟨h.pat, h.chg, h.own, fun x hx => by
    rcases List.mem_cons.1 hx with rfl | hx
    · exact hr
    · exact h.row x hx, fun x hx => by
    rcases List.mem_cons.1 hx with rfl | hx
    · exact ⟨hn, hg⟩
    · exact h.out x hx⟩
/-- a new box -/
theorem PutAt.alloc (h : PutAt T w W base B v v2 size L rows) (C : List Value) : PutAt T w (W.alloc (.cells C.toArray 38)) base B v v2 size L ((W.heap.size, C) :: rows) :=
  (h.below ((Below.refl _ _).alloc (Nat.le_refl _) _)).new (Row.new W _ C) (fun hk => by have := (h.pat.lt _ hk).2; omega) h.chg.size
theorem PutAt.hd (h : PutAt T w W base B v v2 size L ((g, C) :: rows)) : Row W g 38 C := h.row (g, C) List.mem_cons_self
theorem PutAt.tl {x : Nat × List Value} (h : PutAt T w W base B v v2 size L (x :: rows)) : PutAt T w W base B v v2 size L rows :=
  ⟨h.pat, h.chg, h.own, fun y hy => h.row y (List.mem_cons_of_mem _ hy), fun y hy => h.out y (List.mem_cons_of_mem _ hy)⟩
/-- a box is written -/
theorem PutAt.write (h : PutAt T w W base B v v2 size L rows) (hg : W.grownBy W' (some g)) (hr : Row W' g 38 C) (hm : ∃ C0, (g, C0) ∈ rows) (hs : ∀ x ∈ rows', x = (g, C) ∨ (x ∈ rows ∧ x.1 ≠ g)) : PutAt T w W' base B v v2 size L rows' := by
  obtain ⟨C0, hm⟩ := hm
  have ho := h.out _ hm
  have hc : Chg (fun k => k = g) W W' := Chg.of_grown hg (fun k hk => by cases hk; exact .inl rfl)
  refine ⟨h.pat.chg hc (fun k hk e => ho.1 (e ▸ hk)), h.chg.trans hc (fun i hi => .inr (by rw [hi]; exact ho.2)), h.own, fun x hx => ?_, fun x hx => ?_⟩
  · rcases hs x hx with rfl | ⟨hx, hne⟩
    · exact hr
    · exact (h.row x hx).kept hg (by simpa using hne)
  · rcases hs x hx with rfl | ⟨hx, hne⟩
    · exact ho
    · exact h.out x hx
theorem PS.lt_row {x : Nat × List Value} (h : PutAt T w W base B v v2 size L rows) (hx : x ∈ rows) : x.1 < W.heap.size := (h.row x hx).lt
/-- a call that changes the pool -/
theorem PutAt.step (h : PutAt T w W base B v v2 size L rows) (hp : PTo T W W' base B v2 size L') : ∃ v3, PutAt T w W' base B v v3 size L' rows := by
  obtain ⟨v3, h1, h2, h3⟩ := hp
  refine ⟨v3, h1, ⟨h2.os.trans h.chg.os, h2.tape.trans h.chg.tape, h2.output.trans h.chg.output, Nat.le_trans h.chg.size h2.size, fun i hi hn => ?_⟩, fun k hk => ?_, fun x hx => h2.row (h.row x hx) (h.out x hx).1, fun x hx => ⟨fun hk => ?_, (h.out x hx).2⟩⟩
  · refine (h2.block i (Nat.lt_of_lt_of_le hi h.chg.size) (fun hk => ?_)).trans (h.chg.block i hi hn)
    rcases h.own i hk with q | q
    · exact hn q
    · omega
  · rcases h3 k hk with q | q
    · exact h.own k q
    · exact .inr (Nat.le_trans h.chg.size q)
  · rcases h3 _ hk with q | q
    · exact (h.out x hx).1 q
    · have := PS.lt_row h hx; omega
theorem PutAt.to (h : PutAt T w W base B v v2 size L rows) : PTo T w W base B v size L := ⟨v2, h.pat, h.chg, h.own⟩
end
end Go.Proofs.Ytoicpidiejhjeaa
