/- A log in memory. -/
import Derived.Test.YtgdijbcoacgadaaDoorOdMath
import Derived.Test.YtgdijbcoacgadaaDoorChg
import Derived.Test.YtgdijbcoacgadaaDoorAppAt
import Derived.WalkMore
import Derived.Deep.LoopGhost
import Derived.Deep.RegionLaw
import Derived.Lib.Walk
import Derived.Lib.SliceRun
namespace Go.Proofs.YtgdijbcoacgadaaDoor
open Go.RowKit
set_option linter.unusedVariables false
set_option linter.unusedSimpArgs false
set_option maxRecDepth 100000

theorem wpList_store_sl {P : Program} {ops : Array Oper} {rest : List Oper} {op : Oper} {a : Act} {w : World} {Q : Exit → Act → World → Prop} (hgd : op.guard = none) (ty : TypeId) (x y : Operand) (ho : op.op = .store ty x y)
    (g i : Nat) (T : TypeId) (xs : List Value) (A : Option Addr) (n c : Nat) (hx : a.eval x = .pointer (some ⟨g, i, none⟩)) (hy : a.eval y = .slice A n c) (hg : Row w g T xs) (hi : i < xs.length) (hs : (P.info? ty).map (·.size) = some 1)
    (K : ∀ w', Row w' g T (xs.set i (.slice A n c)) → w.grownBy w' (some g) → wpList P ops Q rest (a.put op.dst undef) w') : wpList P ops Q (op :: rest) a w := by
  refine wpList_plain hgd fun _ hK => ?_
  have hc := hg.cell i hi
  have hf := hg.free i
  have e : (storeVar ty ⟨g, i, none⟩ (.slice A n c)).run P w = (storeVar ty ⟨g, i, none⟩ (.agg #[.slice A n c])).run P w := by simp [storeVar, Value.cells]
  have hr := run_storeVar_mid (P := P) w g i ty #[.slice A n c] (fun j hj => by
    have : j = 0 := by simp at hj; omega
    subst this
    exact ⟨by rw [Nat.add_zero, hc]; rfl, hf⟩) (by rw [hs]; rfl) (all_oneCell_toArray (cs := [.slice A n c]) (fun v hv => by simp only [List.mem_singleton] at hv; subst hv; rfl))
  obtain ⟨r1, r2⟩ := row_setCells [.slice A n c] i w xs hg (by simp; omega)
  unfold Oper.wp execOp
  simp only [ho, hx, hy, Instr.storeAt, Instr.sureAddr, Sem.run_bind, Sem.run_pure, Result.andThen_ok, e, hr]
  refine hK _ _ (K _ ?_ r2)
  have e2 : xs.take i ++ ([.slice A n c] ++ xs.drop (i + [Value.slice A n c].length)) = xs.set i (.slice A n c) := by
    rw [List.set_eq_take_append_cons_drop, if_pos hi]
    rfl
  rw [← e2]
  exact r1
theorem wp_store_sl {P : Program} {op : Oper} {a : Act} {w : World} {K : Act → World → Prop} {Q : Exit → Act → World → Prop} (ty : TypeId) (x y : Operand) (ho : op.op = .store ty x y)
    (g i : Nat) (T : TypeId) (xs : List Value) (A : Option Addr) (n c : Nat) (hx : a.eval x = .pointer (some ⟨g, i, none⟩)) (hy : a.eval y = .slice A n c) (hg : Row w g T xs) (hi : i < xs.length) (hs : (P.info? ty).map (·.size) = some 1)
    (H : ∀ w', Row w' g T (xs.set i (.slice A n c)) → w.grownBy w' (some g) → K (a.put op.dst undef) w') : op.wp P a w K Q := by
  have hc := hg.cell i hi
  have hf := hg.free i
  have e : (storeVar ty ⟨g, i, none⟩ (.slice A n c)).run P w = (storeVar ty ⟨g, i, none⟩ (.agg #[.slice A n c])).run P w := by simp [storeVar, Value.cells]
  have hr := run_storeVar_mid (P := P) w g i ty #[.slice A n c] (fun j hj => by
    have : j = 0 := by simp at hj; omega
    subst this
    exact ⟨by rw [Nat.add_zero, hc]; rfl, hf⟩) (by rw [hs]; rfl) (all_oneCell_toArray (cs := [.slice A n c]) (fun v hv => by simp only [List.mem_singleton] at hv; subst hv; rfl))
  obtain ⟨r1, r2⟩ := row_setCells [.slice A n c] i w xs hg (by simp; omega)
  unfold Oper.wp execOp
  simp only [ho, hx, hy, Instr.storeAt, Instr.sureAddr, Sem.run_bind, Sem.run_pure, Result.andThen_ok, e, hr]
  refine H _ ?_ r2
  have e2 : xs.take i ++ ([.slice A n c] ++ xs.drop (i + [Value.slice A n c].length)) = xs.set i (.slice A n c) := by
    rw [List.set_eq_take_append_cons_drop, if_pos hi]
    rfl
  rw [← e2]
  exact r1
theorem wpList_store_int {P : Program} {ops : Array Oper} {rest : List Oper} {op : Oper} {a : Act} {w : World} {Q : Exit → Act → World → Prop} (hgd : op.guard = none) (ty : TypeId) (x y : Operand) (ho : op.op = .store ty x y)
    (g i : Nat) (T : TypeId) (xs : List Value) (z : Int) (hx : a.eval x = .pointer (some ⟨g, i, none⟩)) (hy : a.eval y = .int .i64 z) (hg : Row w g T xs) (hi : i < xs.length) (hs : (P.info? ty).map (·.size) = some 1)
    (K : ∀ w', Row w' g T (xs.set i (.int .i64 z)) → w.grownBy w' (some g) → wpList P ops Q rest (a.put op.dst undef) w') : wpList P ops Q (op :: rest) a w := by
  refine wpList_plain hgd fun _ hK => ?_
  have hc := hg.cell i hi
  have hf := hg.free i
  have e : (storeVar ty ⟨g, i, none⟩ (.int .i64 z)).run P w = (storeVar ty ⟨g, i, none⟩ (.agg #[.int .i64 z])).run P w := by simp [storeVar, Value.cells]
  have hr := run_storeVar_mid (P := P) w g i ty #[.int .i64 z] (fun j hj => by
    have : j = 0 := by simp at hj; omega
    subst this
    exact ⟨by rw [Nat.add_zero, hc]; rfl, hf⟩) (by rw [hs]; rfl) (all_oneCell_toArray (cs := [.int .i64 z]) (fun v hv => by simp only [List.mem_singleton] at hv; subst hv; rfl))
  obtain ⟨r1, r2⟩ := row_setCells [.int .i64 z] i w xs hg (by simp; omega)
  unfold Oper.wp execOp
  simp only [ho, hx, hy, Instr.storeAt, Instr.sureAddr, Sem.run_bind, Sem.run_pure, Result.andThen_ok, e, hr]
  refine hK _ _ (K _ ?_ r2)
  have e2 : xs.take i ++ ([.int .i64 z] ++ xs.drop (i + [Value.int .i64 z].length)) = xs.set i (.int .i64 z) := by
    rw [List.set_eq_take_append_cons_drop, if_pos hi]
    rfl
  rw [← e2]
  exact r1
theorem wp_store_int {P : Program} {op : Oper} {a : Act} {w : World} {K : Act → World → Prop} {Q : Exit → Act → World → Prop} (ty : TypeId) (x y : Operand) (ho : op.op = .store ty x y)
    (g i : Nat) (T : TypeId) (xs : List Value) (z : Int) (hx : a.eval x = .pointer (some ⟨g, i, none⟩)) (hy : a.eval y = .int .i64 z) (hg : Row w g T xs) (hi : i < xs.length) (hs : (P.info? ty).map (·.size) = some 1)
    (H : ∀ w', Row w' g T (xs.set i (.int .i64 z)) → w.grownBy w' (some g) → K (a.put op.dst undef) w') : op.wp P a w K Q := by
  have hc := hg.cell i hi
  have hf := hg.free i
  have e : (storeVar ty ⟨g, i, none⟩ (.int .i64 z)).run P w = (storeVar ty ⟨g, i, none⟩ (.agg #[.int .i64 z])).run P w := by simp [storeVar, Value.cells]
  have hr := run_storeVar_mid (P := P) w g i ty #[.int .i64 z] (fun j hj => by
    have : j = 0 := by simp at hj; omega
    subst this
    exact ⟨by rw [Nat.add_zero, hc]; rfl, hf⟩) (by rw [hs]; rfl) (all_oneCell_toArray (cs := [.int .i64 z]) (fun v hv => by simp only [List.mem_singleton] at hv; subst hv; rfl))
  obtain ⟨r1, r2⟩ := row_setCells [.int .i64 z] i w xs hg (by simp; omega)
  unfold Oper.wp execOp
  simp only [ho, hx, hy, Instr.storeAt, Instr.sureAddr, Sem.run_bind, Sem.run_pure, Result.andThen_ok, e, hr]
  refine H _ ?_ r2
  have e2 : xs.take i ++ ([.int .i64 z] ++ xs.drop (i + [Value.int .i64 z].length)) = xs.set i (.int .i64 z) := by
    rw [List.set_eq_take_append_cons_drop, if_pos hi]
    rfl
  rw [← e2]
  exact r1
theorem rowX {W : World} {g : Nat} {T : TypeId} {v : Value} (h : Row W g T [v]) : W.cell? ⟨g, 0, none⟩ = some v := by
  have := h.cell 0 (by simp)
  simpa only [List.getElem_cons_zero] using this
theorem results_row3 {P : Program} {fn : Func} {p u s : Tmp} {ty : TypeId} (h : fn.results = #[.cell p ty, .tmp u, .tmp s]) (tmps : Array Value) (w : World) (g : Nat) (T : TypeId) (xs : List Value) (d : TypeDesc)
    (hp : tmps.getD p undef = .pointer (some ⟨g, 0, none⟩)) (hg : Row w g T xs)
    (hu : P.underlying ty = some d) (hd : (match d with | .struct _ | .array _ _ => true | _ => false) = true) (hi : (P.info? ty).map (·.size) = some xs.toArray.size) (x y : Value) (hx : tmps.getD u undef = x) (hy : tmps.getD s undef = y) :
    (results fn tmps).run P w = .ok (.tuple #[.agg xs.toArray, x, y]) w := by
  have hl := run_loadVar_row w g T ty xs.toArray (0, 0) d hg hu hd hi
  have ha : (asAddr (.pointer (some ⟨g, 0, none⟩))).run P w = .ok ⟨g, 0, none⟩ w := rfl
  have hp2 : tmps[p]?.getD undef = .pointer (some ⟨g, 0, none⟩) := by simpa using hp
  have hx2 : tmps[u]?.getD undef = x := by simpa using hx
  have hy2 : tmps[s]?.getD undef = y := by simpa using hy
  simp only [results, h]
  simp [Sem.run_bind, Result.andThen, hp2, ha, hl, hx2, hy2]

theorem Rp.lens {l : List Rp} (h : ∀ r ∈ l, r.Fits) : ∀ r ∈ l, (Rp.cells r).length = 68 := fun r hr => Rp.cells_len (h r hr).prev (h r hr).hash
theorem Rp.zero_fits : Rp.zero.Fits := ⟨rfl, rfl, by decide, ⟨by decide, by decide⟩, ⟨by decide, by decide⟩, ⟨by decide, by decide⟩⟩
theorem rp_zv (W : World) : (zeroValue 30).run Tryd.prog W = .ok (.agg Rp.zero.cells.toArray) W := by kernel_rfl
theorem rp_whole : (Tryd.prog.info? 30).map (fun i => (i.zero, i.size)) = some (some (.agg Rp.zero.cells.toArray), 68) := by kernel_rfl
def ic (i : Int) : List Value := [.int .i64 i]
/-- the cells of a receipt that a program asks for -/
theorem Rp.at {W : World} {g o : Nat} {r : Rp} (hp : r.prev.length = 32) (h : W.rangeAt g o r.cells) : W.cell? ⟨g, o, none⟩ = some (.int .i64 r.index) ∧ W.cell? ⟨g, o + 1, none⟩ = some (.int .i64 r.kind) ∧ W.cell? ⟨g, o + 2, none⟩ = some (.int .i64 r.time) ∧ W.cell? ⟨g, o + 3, none⟩ = some (.string r.body) ∧ W.rangeAt g (o + 36) (bRow r.hash).toList := by
  refine ⟨h 0 _ rfl, h 1 _ rfl, h 2 _ rfl, h 3 _ rfl, fun j v hv => ?_⟩
  have e : r.cells[36 + j]? = some v := by
    unfold Rp.cells
    rw [← List.append_assoc, List.getElem?_append_right (by rw [List.length_append, Tx.bRow_len _ hp]; simp), List.length_append, Tx.bRow_len _ hp]
    rw [show 36 + j - ([Value.int .i64 r.index, .int .i64 r.kind, .int .i64 r.time, .string r.body].length + 32) = j by simp]
    exact hv
  have := h _ _ e
  rwa [show o + (36 + j) = o + 36 + j by omega] at this
abbrev LT19 : TypeId := 61
/-- a log -/
structure LogAt (w : World) (base B : Nat) (v dv : Value) (rs : List Rp) : Prop where
  row : Row w B LT19 (v :: (Is (Od.nexts rs) ++ [dv]))
  own : OwnL w base 30 68 Rp.cells v rs
  dow : OwnL w base 3 1 ic dv (Od.del rs)
  good : Od.Good rs
  len : rs.length ≤ 1000
  lo : base ≤ B
def LS (B : Nat) (v dv : Value) (k : Nat) : Prop := k = B ∨ v.ownBlock = some k ∨ dv.ownBlock = some k
section
variable {w w' : World} {base B : Nat} {v dv : Value} {rs : List Rp}
theorem LogAt.chg {S : Nat → Prop} (h : LogAt w base B v dv rs) (hc : Chg S w w') (hS : ∀ k, LS B v dv k → ¬ S k) : LogAt w' base B v dv rs :=
  ⟨hc.row h.row (hS _ (.inl rfl)), h.own.chg hc (fun k hk => hS k (.inr (.inl hk))), h.dow.chg hc (fun k hk => hS k (.inr (.inr hk))), h.good, h.len, h.lo⟩
theorem LogAt.below (h : LogAt w base B v dv rs) (hb : Below w.heap.size w w') : LogAt w' base B v dv rs :=
  h.chg (S := fun _ => False) (Chg.of_below hb) (fun _ _ h => h)
theorem LogAt.lt (h : LogAt w base B v dv rs) : ∀ k, LS B v dv k → base ≤ k ∧ k < w.heap.size := by
  rintro k (rfl | hk | hk)
  · exact ⟨h.lo, h.row.lt⟩
  · exact h.own.lt k hk
  · exact h.dow.lt k hk
theorem LogAt.c0 (h : LogAt w base B v dv rs) : w.cell? ⟨B, 0, none⟩ = some v := h.row.cell 0 (by simp)
theorem LogAt.cN (h : LogAt w base B v dv rs) (i : Nat) (hi : i < 64) : w.cell? ⟨B, 1 + i, none⟩ = some (.int .i64 (Od.cnt rs (i : Int))) := by
  have hl : (Is (Od.nexts rs)).length = 64 := by unfold Is; rw [List.length_map, Od.nexts_len]
  rw [show 1 + i = i + 1 by omega]
  have h1 := h.row.cell (i + 1) (by simp [hl]; omega)
  rw [h1]
  congr 1
  simp only [List.getElem_cons_succ]
  rw [List.getElem_append_left (by rw [hl]; exact hi)]
  unfold Is
  rw [List.getElem_map, Od.nexts_get rs i hi]
theorem LogAt.c65 (h : LogAt w base B v dv rs) : w.cell? ⟨B, 65, none⟩ = some dv := by
  have hl : (Is (Od.nexts rs)).length = 64 := by unfold Is; rw [List.length_map, Od.nexts_len]
  have h1 := h.row.cell 65 (by simp [hl])
  rw [h1]
  congr 1
theorem LogAt.fits (h : LogAt w base B v dv rs) : ∀ r ∈ rs, r.Fits := h.good.fits
theorem LogAt.form (h : LogAt w base B v dv rs) : ∃ A c, v = .slice A rs.length c := by obtain ⟨A, c, e, _⟩ := h.own.form; exact ⟨A, c, e⟩
end
/-- what a call makes of a log -/
def LTo (w w' : World) (base B : Nat) (v dv : Value) (rs' : List Rp) : Prop :=
  ∃ v' dv', LogAt w' base B v' dv' rs' ∧ Chg (LS B v dv) w w' ∧ ∀ k, LS B v' dv' k → LS B v dv k ∨ w.heap.size ≤ k
theorem LogAt.to {w w' : World} {base B : Nat} {v dv : Value} {rs : List Rp} (h : LogAt w base B v dv rs) (hb : Below w.heap.size w w') : LTo w w' base B v dv rs :=
  ⟨v, dv, h.below hb, Chg.of_below hb, fun k hk => .inl hk⟩
theorem OwnL.ne_own {α β : Type} {w : World} {b1 b2 : Nat} {e1 e2 : TypeId} {m1 m2 : Nat} {f : α → List Value} {g : β → List Value} {u v : Value} {l : List α} {k : List β} (h1 : OwnL w b1 e1 m1 f u l) (h2 : OwnL w b2 e2 m2 g v k) (he : e1 ≠ e2) : ∀ j, u.ownBlock = some j → v.ownBlock ≠ some j := by
  intro j hj hv
  rcases h1.own.2 with ⟨q, _⟩ | ⟨g1, c1, x1, q, _, hg1, _⟩
  · rw [q] at hj; cases hj
  rcases h2.own.2 with ⟨q2, _⟩ | ⟨g2, c2, x2, q2, _, hg2, _⟩
  · rw [q2] at hv; cases hv
  rw [q] at hj
  rw [q2] at hv
  cases hj
  cases hv
  rw [hg1] at hg2
  simp at hg2
  exact he hg2.2
end Go.Proofs.YtgdijbcoacgadaaDoor
