/- What later texts need of the earlier layers. -/
import Derived.Test.YtalfnadejpmjnaaGreatDoorNSlO
import Derived.Test.YtalfnadejpmjnaaGreatDoorNSlS
import Derived.Test.YtalfnadejpmjnaaGreatDoorNSlT
import Derived.Test.YtalfnadejpmjnaaGreatDoorNSlC
import Derived.Test.YtalfnadejpmjnaaGreatDoorNSlA
import Derived.Test.YtalfnadejpmjnaaGreatDoorNSlB
import Derived.Test.YtalfnadejpmjnaaGreatDoorNSlD
import Derived.Test.YtalfnadejpmjnaaGreatDoorNTxBack
import Derived.Test.YtalfnadejpmjnaaGreatDoorNOdA
import Derived.Test.YtalfnadejpmjnaaGreatDoorNRwA
import Derived.WalkMore
import Derived.Deep.LoopGhost
import Derived.Deep.RegionLaw
import Derived.Lib.Walk
import Derived.Lib.SliceRun
/- ---- OdMem ---- -/
/- A log in memory. -/
namespace Go.Proofs.YtalfnadejpmjnaaGreatDoor
open Go.RowKit
set_option linter.unusedVariables false
set_option linter.unusedSimpArgs false
set_option maxRecDepth 100000

theorem wp_store_sl {P : Program} {op : Oper} {a : Act} {w : World} {K : Act → World → Prop} {Q : Exit → Act → World → Prop} (ty : TypeId) (x y : Operand) (ho : op.op = .store ty x y)
    (g i : Nat) (T : TypeId) (xs : List Value) (A : Option Addr) (n c : Nat) (hx : a.eval x = .pointer (some ⟨g, i, none⟩)) (hy : a.eval y = .slice A n c) (hg : Row w g T xs) (hi : i < xs.length) (hs : (P.info? ty).map (·.size) = some 1)
    (H : ∀ w', Row w' g T (xs.set i (.slice A n c)) → w.grownBy w' (some g) → K (a.put op.dst undef) w') : op.wp P a w K Q := by
  have hc := hg.cell i hi
  have hf := hg.free i
  have e : (storeVar ty ⟨g, i, none⟩ (.slice A n c)).run P w = (storeVar ty ⟨g, i, none⟩ (.agg #[.slice A n c])).run P w := by simp [storeVar, Value.cells]
  have hr := run_storeVar_mid (P := P) w g i ty #[.slice A n c] (fun j hj => by
    have : j = 0 := by simp at hj; omega
    subst this
    exact ⟨by rw [Nat.add_zero, hc]; rfl, hf⟩) (by rw [hs]; rfl) (all_oneCell_toArray (cs := [.slice A n c]) (fun v hv => by simp only [List.mem_singleton] at hv; subst hv; rfl))
  obtain ⟨r1, r2⟩ := row_setCells [.slice A n c] i w xs hg (by simp; omega)
  unfold Oper.wp execOp
  simp only [ho, hx, hy, Instr.storeAt, Instr.sureAddr, Sem.run_bind, Sem.run_pure, Result.andThen_ok, e, hr]
  refine H _ ?_ r2
  have e2 : xs.take i ++ ([.slice A n c] ++ xs.drop (i + [Value.slice A n c].length)) = xs.set i (.slice A n c) := by
    rw [List.set_eq_take_append_cons_drop, if_pos hi]
    rfl
  rw [← e2]
  exact r1
theorem wp_store_int {P : Program} {op : Oper} {a : Act} {w : World} {K : Act → World → Prop} {Q : Exit → Act → World → Prop} (ty : TypeId) (x y : Operand) (ho : op.op = .store ty x y)
    (g i : Nat) (T : TypeId) (xs : List Value) (z : Int) (hx : a.eval x = .pointer (some ⟨g, i, none⟩)) (hy : a.eval y = .int .i64 z) (hg : Row w g T xs) (hi : i < xs.length) (hs : (P.info? ty).map (·.size) = some 1)
    (H : ∀ w', Row w' g T (xs.set i (.int .i64 z)) → w.grownBy w' (some g) → K (a.put op.dst undef) w') : op.wp P a w K Q := by
  have hc := hg.cell i hi
  have hf := hg.free i
  have e : (storeVar ty ⟨g, i, none⟩ (.int .i64 z)).run P w = (storeVar ty ⟨g, i, none⟩ (.agg #[.int .i64 z])).run P w := by simp [storeVar, Value.cells]
  have hr := run_storeVar_mid (P := P) w g i ty #[.int .i64 z] (fun j hj => by
    have : j = 0 := by simp at hj; omega
    subst this
    exact ⟨by rw [Nat.add_zero, hc]; rfl, hf⟩) (by rw [hs]; rfl) (all_oneCell_toArray (cs := [.int .i64 z]) (fun v hv => by simp only [List.mem_singleton] at hv; subst hv; rfl))
  obtain ⟨r1, r2⟩ := row_setCells [.int .i64 z] i w xs hg (by simp; omega)
  unfold Oper.wp execOp
  simp only [ho, hx, hy, Instr.storeAt, Instr.sureAddr, Sem.run_bind, Sem.run_pure, Result.andThen_ok, e, hr]
  refine H _ ?_ r2
  have e2 : xs.take i ++ ([.int .i64 z] ++ xs.drop (i + [Value.int .i64 z].length)) = xs.set i (.int .i64 z) := by
    rw [List.set_eq_take_append_cons_drop, if_pos hi]
    rfl
  rw [← e2]
  exact r1
theorem rowX {W : World} {g : Nat} {T : TypeId} {v : Value} (h : Row W g T [v]) : W.cell? ⟨g, 0, none⟩ = some v := by
  have := h.cell 0 (by simp)
  simpa only [List.getElem_cons_zero] using this
theorem results_row3 {P : Program} {fn : Func} {p u s : Tmp} {ty : TypeId} (h : fn.results = #[.cell p ty, .tmp u, .tmp s]) (tmps : Array Value) (w : World) (g : Nat) (T : TypeId) (xs : List Value) (d : TypeDesc)
    (hp : tmps.getD p undef = .pointer (some ⟨g, 0, none⟩)) (hg : Row w g T xs)
    (hu : P.underlying ty = some d) (hd : (match d with | .struct _ | .array _ _ => true | _ => false) = true) (hi : (P.info? ty).map (·.size) = some xs.toArray.size) (x y : Value) (hx : tmps.getD u undef = x) (hy : tmps.getD s undef = y) :
    (results fn tmps).run P w = .ok (.tuple #[.agg xs.toArray, x, y]) w := by
  have hl := run_loadVar_row w g T ty xs.toArray (0, 0) d hg hu hd hi
  have ha : (asAddr (.pointer (some ⟨g, 0, none⟩))).run P w = .ok ⟨g, 0, none⟩ w := rfl
  have hp2 : tmps[p]?.getD undef = .pointer (some ⟨g, 0, none⟩) := by simpa using hp
  have hx2 : tmps[u]?.getD undef = x := by simpa using hx
  have hy2 : tmps[s]?.getD undef = y := by simpa using hy
  simp only [results, h]
  simp [Sem.run_bind, Result.andThen, hp2, ha, hl, hx2, hy2]
theorem Rp.lens {l : List Rp} (h : ∀ r ∈ l, r.Fits) : ∀ r ∈ l, (Rp.cells r).length = 68 := fun r hr => Rp.cells_len (h r hr).prev (h r hr).hash
theorem Rp.zero_fits : Rp.zero.Fits := ⟨rfl, rfl, by decide, ⟨by decide, by decide⟩, ⟨by decide, by decide⟩, ⟨by decide, by decide⟩⟩
theorem rp_zv (W : World) : (zeroValue 64).run Tryz.prog W = .ok (.agg Rp.zero.cells.toArray) W := by kernel_rfl
def ic (i : Int) : List Value := [.int .i64 i]
/-- the cells of a receipt that a program asks for -/
theorem Rp.at {W : World} {g o : Nat} {r : Rp} (hp : r.prev.length = 32) (h : W.rangeAt g o r.cells) : W.cell? ⟨g, o, none⟩ = some (.int .i64 r.index) ∧ W.cell? ⟨g, o + 1, none⟩ = some (.int .i64 r.kind) ∧ W.cell? ⟨g, o + 2, none⟩ = some (.int .i64 r.time) ∧ W.cell? ⟨g, o + 3, none⟩ = some (.string r.body) ∧ W.rangeAt g (o + 36) (bRow r.hash).toList := by
  refine ⟨h 0 _ rfl, h 1 _ rfl, h 2 _ rfl, h 3 _ rfl, fun j v hv => ?_⟩
  have e : r.cells[36 + j]? = some v := by
    unfold Rp.cells
    rw [← List.append_assoc, List.getElem?_append_right (by rw [List.length_append, Tx.bRow_len _ hp]; simp), List.length_append, Tx.bRow_len _ hp]
    rw [show 36 + j - ([Value.int .i64 r.index, .int .i64 r.kind, .int .i64 r.time, .string r.body].length + 32) = j by simp]
    exact hv
  have := h _ _ e
  rwa [show o + (36 + j) = o + 36 + j by omega] at this
abbrev LT19 : TypeId := 110
/-- a log -/
structure LogAt (w : World) (base B : Nat) (v dv : Value) (rs : List Rp) : Prop where
  row : Row w B LT19 (v :: (Is (Od.nexts rs) ++ [dv]))
  own : OwnL w base 64 68 Rp.cells v rs
  dow : OwnL w base 3 1 ic dv (Od.del rs)
  good : Od.Good rs
  len : rs.length ≤ 1000
  lo : base ≤ B
def LS (B : Nat) (v dv : Value) (k : Nat) : Prop := k = B ∨ v.ownBlock = some k ∨ dv.ownBlock = some k
section
variable {w w' : World} {base B : Nat} {v dv : Value} {rs : List Rp}
theorem LogAt.chg {S : Nat → Prop} (h : LogAt w base B v dv rs) (hc : Chg S w w') (hS : ∀ k, LS B v dv k → ¬ S k) : LogAt w' base B v dv rs :=
  ⟨hc.row h.row (hS _ (.inl rfl)), h.own.chg hc (fun k hk => hS k (.inr (.inl hk))), h.dow.chg hc (fun k hk => hS k (.inr (.inr hk))), h.good, h.len, h.lo⟩
theorem LogAt.below (h : LogAt w base B v dv rs) (hb : Below w.heap.size w w') : LogAt w' base B v dv rs :=
  h.chg (S := fun _ => False) (Chg.of_below hb) (fun _ _ h => h)
theorem LogAt.lt (h : LogAt w base B v dv rs) : ∀ k, LS B v dv k → base ≤ k ∧ k < w.heap.size := by
  rintro k (rfl | hk | hk)
  · exact ⟨h.lo, h.row.lt⟩
  · exact h.own.lt k hk
  · exact h.dow.lt k hk
theorem LogAt.c0 (h : LogAt w base B v dv rs) : w.cell? ⟨B, 0, none⟩ = some v := h.row.cell 0 (by simp)
theorem LogAt.cN (h : LogAt w base B v dv rs) (i : Nat) (hi : i < 64) : w.cell? ⟨B, 1 + i, none⟩ = some (.int .i64 (Od.cnt rs (i : Int))) := by
  have hl : (Is (Od.nexts rs)).length = 64 := by unfold Is; rw [List.length_map, Od.nexts_len]
  rw [show 1 + i = i + 1 by omega]
  have h1 := h.row.cell (i + 1) (by simp [hl]; omega)
  rw [h1]
  congr 1
  simp only [List.getElem_cons_succ]
  rw [List.getElem_append_left (by rw [hl]; exact hi)]
  unfold Is
  rw [List.getElem_map, Od.nexts_get rs i hi]
theorem LogAt.c65 (h : LogAt w base B v dv rs) : w.cell? ⟨B, 65, none⟩ = some dv := by
  have hl : (Is (Od.nexts rs)).length = 64 := by unfold Is; rw [List.length_map, Od.nexts_len]
  have h1 := h.row.cell 65 (by simp [hl])
  rw [h1]
  congr 1
theorem LogAt.fits (h : LogAt w base B v dv rs) : ∀ r ∈ rs, r.Fits := h.good.fits
theorem LogAt.form (h : LogAt w base B v dv rs) : ∃ A c, v = .slice A rs.length c := by obtain ⟨A, c, e, _⟩ := h.own.form; exact ⟨A, c, e⟩
end
/-- what a call makes of a log -/
def LTo (w w' : World) (base B : Nat) (v dv : Value) (rs' : List Rp) : Prop :=
  ∃ v' dv', LogAt w' base B v' dv' rs' ∧ Chg (LS B v dv) w w' ∧ ∀ k, LS B v' dv' k → LS B v dv k ∨ w.heap.size ≤ k
theorem LogAt.to {w w' : World} {base B : Nat} {v dv : Value} {rs : List Rp} (h : LogAt w base B v dv rs) (hb : Below w.heap.size w w') : LTo w w' base B v dv rs :=
  ⟨v, dv, h.below hb, Chg.of_below hb, fun k hk => .inl hk⟩
theorem OwnL.ne_own {α β : Type} {w : World} {b1 b2 : Nat} {e1 e2 : TypeId} {m1 m2 : Nat} {f : α → List Value} {g : β → List Value} {u v : Value} {l : List α} {k : List β} (h1 : OwnL w b1 e1 m1 f u l) (h2 : OwnL w b2 e2 m2 g v k) (he : e1 ≠ e2) : ∀ j, u.ownBlock = some j → v.ownBlock ≠ some j := by
  intro j hj hv
  rcases h1.own.2 with ⟨q, _⟩ | ⟨g1, c1, x1, q, _, hg1, _⟩
  · rw [q] at hj; cases hj
  rcases h2.own.2 with ⟨q2, _⟩ | ⟨g2, c2, x2, q2, _, hg2, _⟩
  · rw [q2] at hv; cases hv
  rw [q] at hj
  rw [q2] at hv
  cases hj
  cases hv
  rw [hg1] at hg2
  simp at hg2
  exact he hg2.2
end Go.Proofs.YtalfnadejpmjnaaGreatDoor

/- ---- OdOps ---- -/
/- What a log tells: Len, At, Head. -/
namespace Go.Proofs.YtalfnadejpmjnaaGreatDoor
open Go.RowKit
set_option linter.unusedVariables false
set_option linter.unusedSimpArgs false
set_option maxRecDepth 100000
theorem LogAt.lenC {w : World} {base B : Nat} {v dv : Value} {rs : List Rp} (h : LogAt w base B v dv rs) :
    Calls Tryz.prog 41 #[.pointer (some ⟨B, 0, none⟩)] w fun e w' => e = .returned (.int .i64 rs.length) ∧ w = w' := by
  obtain ⟨A, c, rfl⟩ := h.form
  have c0 := h.c0
  generalize rs.length = n at *
  clear h
  go_enter Tryz.func41, Tryz.ntmps41
  go_wp2_with fail
  go_ret
  exact ⟨rfl, rfl⟩
set_option maxHeartbeats 1600000 in
theorem LogAt.at_yes {w : World} {base B : Nat} {v dv : Value} {rs : List Rp} (h : LogAt w base B v dv rs) (k : Nat) (hk : k < rs.length) :
    Calls Tryz.prog 161 #[.pointer (some ⟨B, 0, none⟩), .int .i64 (k : Int)] w fun e w' => e = .returned (.tuple #[.agg rs[k].cells.toArray, .int .i64 0]) ∧ Below w.heap.size w w' := by
  obtain ⟨A, c, rfl⟩ := h.form
  have hzv := rp_zv
  have HBt : Hid (Tryz.prog.built 64 [] = some Rp.zero.cells.toArray) := Lib.hid Rp.zero_built0
  have HZ68 := Lib.hid (Rp.cells_len Rp.zero_fits.prev Rp.zero_fits.hash)
  have HZ1 := Lib.hid (Rp.cells_one Rp.zero_fits.prev Rp.zero_fits.hash)
  obtain ⟨ZT, hZT⟩ : ∃ ZT, Rp.zero.cells = ZT := ⟨_, rfl⟩
  rw [hZT] at hzv HBt HZ68 HZ1
  have HZT := Lib.hid hZT
  clear hZT
  have hf := h.fits _ (List.getElem_mem hk)
  obtain ⟨g, c', hge, _, hgl⟩ := h.own.ne (by intro e; rw [e] at hk; simp at hk)
  injection hge with ea eb ec
  subst ea
  clear eb ec
  have hrng := h.own.at (Rp.lens h.fits) k hk
  have HC68 := Lib.hid (Rp.cells_len hf.prev hf.hash)
  have HC1 := Lib.hid (Rp.cells_one hf.prev hf.hash)
  obtain ⟨C, hC⟩ : ∃ C, rs[k].cells = C := ⟨_, rfl⟩
  rw [hC] at hrng HC68 HC1 ⊢
  have hb0 := (Below.refl w.heap.size w).alloc (Nat.le_refl _) (.cells ZT.toArray 64)
  have c0 := (h.below hb0).c0
  have HRg : Hid ((w.alloc (.cells ZT.toArray 64)).rangeAt g (k * 68) C) := Lib.hid (fun j v hv => (hb0.cell (p := ⟨g, k * 68 + j, none⟩) hgl).trans (hrng j v hv))
  have HR0 := Lib.hid (Row.new w 64 ZT)
  have HB0 := Lib.hid hb0
  have hk0 : (0 : Int) ≤ (k : Int) := by omega
  have hkn : (k : Int) < (rs.length : Int) := by omega
  have d1 : decide ((k : Int) < 0) = false := decide_eq_false (by omega)
  have d2 : decide ((k : Int) ≥ (rs.length : Int)) = false := decide_eq_false (by omega)
  have d2' : decide ((rs.length : Int) ≤ (k : Int)) = false := decide_eq_false (by omega)
  clear h hf hrng hC hb0 hgl hk
  generalize rs.length = n at *
  go_enter Tryz.func161, Tryz.ntmps161
  go_wp2_with (first
    | ((with_reducible show wpList _ _ _ (⟨_, .load 64 (.tmp 26), _, _, _, _⟩ :: _) _ _); refine wpList_load_tx rfl 64 (.tmp 26) rfl g (k * 68) (by first | rfl | simp) C _ (HRg.out) Tryz.underlying64 rfl (by rw [rp_info, HC68.out]) ?_)
    | (
       with_reducible show wpList _ _ _ (⟨_, .store 64 (.tmp 4) _, _, _, _, _⟩ :: _) _ _
       refine wpList_store_at rfl 64 (.tmp 4) (.tmp 27) rfl w.heap.size 0 C ZT _ rfl rfl (HR0.out) (by have := HZ68.out; have := HC68.out; omega) (by rw [rp_info, HC68.out]) HC1.out ?_
       intro w9 hr hg
       rw [splice_all (HC68.out.trans HZ68.out.symm)] at hr
       have HS9 := Lib.hid hr
       have HB9 := Lib.hid (below_own HB0.out hg (fun k hk => by cases hk; exact Nat.le_refl _))
       clear hr hg))
  refine bodyPost_ret (results_rowL rfl _ _ w.heap.size 64 C _ rfl HS9.out Tryz.underlying64 rfl (by rw [rp_info]; simp [HC68.out]) (.int .i64 0) rfl) rfl ⟨rfl, HB9.out⟩
set_option maxHeartbeats 1600000 in
theorem LogAt.at_no {w : World} {base B : Nat} {v dv : Value} {rs : List Rp} (h : LogAt w base B v dv rs) (i : Int) (hi : i < 0 ∨ (rs.length : Int) ≤ i) :
    Calls Tryz.prog 161 #[.pointer (some ⟨B, 0, none⟩), .int .i64 i] w fun e w' => e = .returned (.tuple #[.agg Rp.zero.cells.toArray, .int .i64 4]) ∧ Below w.heap.size w w' := by
  obtain ⟨A, c, rfl⟩ := h.form
  have hzv := rp_zv
  have HBt : Hid (Tryz.prog.built 64 [] = some Rp.zero.cells.toArray) := Lib.hid Rp.zero_built0
  have HZ68 := Lib.hid (Rp.cells_len Rp.zero_fits.prev Rp.zero_fits.hash)
  have HZ1 := Lib.hid (Rp.cells_one Rp.zero_fits.prev Rp.zero_fits.hash)
  obtain ⟨ZT, hZT⟩ : ∃ ZT, Rp.zero.cells = ZT := ⟨_, rfl⟩
  rw [hZT] at hzv HBt HZ68 HZ1
  have HZT := Lib.hid hZT
  clear hZT
  have hb0 := (Below.refl w.heap.size w).alloc (Nat.le_refl _) (.cells ZT.toArray 64)
  have c0 := (h.below hb0).c0
  have HR0 := Lib.hid (Row.new w 64 ZT)
  have HB0 := Lib.hid hb0
  rw [HZT.out]
  generalize rs.length = n at *
  clear h hb0
  by_cases hi0 : i < 0
  · have d1 : decide (i < 0) = true := decide_eq_true hi0
    clear hi hi0
    go_enter Tryz.func161, Tryz.ntmps161
    go_wp2_with (first
      | ((with_reducible show wpList _ _ _ (⟨_, .build 64 _, _, _, _, _⟩ :: _) _ _); refine wpList_buildL rfl 64 [] rfl (some 20) rfl _ rfl ZT.toArray HBt.out ?_)
      | (
         with_reducible show wpList _ _ _ (⟨_, .store 64 (.tmp 4) _, _, _, _, _⟩ :: _) _ _
         refine wpList_store_at rfl 64 (.tmp 4) (.tmp 20) rfl w.heap.size 0 ZT ZT _ rfl rfl (HR0.out) (by have := HZ68.out; have := HZ68.out; omega) (by rw [rp_info, HZ68.out]) HZ1.out ?_
         intro w9 hr hg
         rw [splice_all (HZ68.out.trans HZ68.out.symm)] at hr
         have HS9 := Lib.hid hr
         have HB9 := Lib.hid (below_own HB0.out hg (fun k hk => by cases hk; exact Nat.le_refl _))
         clear hr hg))
    refine bodyPost_ret (results_rowL rfl _ _ w.heap.size 64 ZT _ rfl HS9.out Tryz.underlying64 rfl (by rw [rp_info]; simp [HZ68.out]) (.int .i64 4) rfl) rfl ⟨rfl, HB9.out⟩
  · have d1 : decide (i < 0) = false := decide_eq_false hi0
    have d2 : decide (i ≥ (n : Int)) = true := decide_eq_true (by omega)
    have d2' : decide ((n : Int) ≤ i) = true := decide_eq_true (by omega)
    clear hi hi0
    go_enter Tryz.func161, Tryz.ntmps161
    go_wp2_with (first
      | ((with_reducible show wpList _ _ _ (⟨_, .build 64 _, _, _, _, _⟩ :: _) _ _); refine wpList_buildL rfl 64 [] rfl (some 20) rfl _ rfl ZT.toArray HBt.out ?_)
      | (
         with_reducible show wpList _ _ _ (⟨_, .store 64 (.tmp 4) _, _, _, _, _⟩ :: _) _ _
         refine wpList_store_at rfl 64 (.tmp 4) (.tmp 20) rfl w.heap.size 0 ZT ZT _ rfl rfl (HR0.out) (by have := HZ68.out; have := HZ68.out; omega) (by rw [rp_info, HZ68.out]) HZ1.out ?_
         intro w9 hr hg
         rw [splice_all (HZ68.out.trans HZ68.out.symm)] at hr
         have HS9 := Lib.hid hr
         have HB9 := Lib.hid (below_own HB0.out hg (fun k hk => by cases hk; exact Nat.le_refl _))
         clear hr hg))
    refine bodyPost_ret (results_rowL rfl _ _ w.heap.size 64 ZT _ rfl HS9.out Tryz.underlying64 rfl (by rw [rp_info]; simp [HZ68.out]) (.int .i64 4) rfl) rfl ⟨rfl, HB9.out⟩
/-- Head, where Len and At are known -/
theorem head19 (p : Value) (n : Int) (r : Rp) (hr : r.Fits) (e : Int) (w : World) (L : ∀ W, Below w.heap.size w W → Calls Tryz.prog 41 #[p] W fun e w' => e = .returned (.int .i64 n) ∧ W = w') (hn : -1 ≤ n - 1 ∧ n ≤ 100000)
    (A : ∀ W, Below w.heap.size w W → Calls Tryz.prog 161 #[p, .int .i64 (n - 1)] W fun e' w' => e' = .returned (.tuple #[.agg r.cells.toArray, .int .i64 e]) ∧ Below W.heap.size W w') :
    Calls Tryz.prog 129 #[p] w fun e w' => e = .returned (.agg (bRow r.hash)) ∧ Below w.heap.size w w' := by
  have LN := Lib.hid L
  have AT := Lib.hid A
  have ew : IntKind.i64.wrap (n - 1) = n - 1 := IntWalk.i64_in _ (by omega)
  have hzh : ∀ W : World, (zeroValue 62).run Tryz.prog W = .ok (.agg (bRow Tx.zero).toList.toArray) W := fun W => by rw [Array.toArray_toList]; exact hash_zv W
  have HZ32 := Lib.hid (Tx.bRow_len Tx.zero rfl)
  have HH32 := Lib.hid (Tx.bRow_len r.hash hr.hash)
  have HH1 : Hid (∀ v ∈ (bRow r.hash).toList, v.oneCell' = true) := Lib.hid (hash_one _ hr.hash)
  have HC68 := Lib.hid (Rp.cells_len hr.prev hr.hash)
  have HC1 := Lib.hid (Rp.cells_one hr.prev hr.hash)
  have HAt := Lib.hid (fun W g (h : Row W g 64 r.cells) => (Rp.at hr.prev (row_range h)).2.2.2.2)
  have hzv := rp_zv
  have HBt : Hid (Tryz.prog.built 64 [] = some Rp.zero.cells.toArray) := Lib.hid Rp.zero_built0
  have HZ68 := Lib.hid (Rp.cells_len Rp.zero_fits.prev Rp.zero_fits.hash)
  have HZ1 := Lib.hid (Rp.cells_one Rp.zero_fits.prev Rp.zero_fits.hash)
  obtain ⟨ZT, hZT⟩ : ∃ ZT, Rp.zero.cells = ZT := ⟨_, rfl⟩
  rw [hZT] at hzv HBt HZ68 HZ1
  have HZT := Lib.hid hZT
  clear hZT
  rw [show (bRow r.hash) = (bRow r.hash).toList.toArray by rw [Array.toArray_toList]]
  generalize (bRow r.hash).toList = H at *
  generalize (bRow Tx.zero).toList = ZH at *
  obtain ⟨C, hC⟩ : ∃ C, r.cells = C := ⟨_, rfl⟩
  rw [hC] at AT HC68 HC1 HAt
  have HB1 := Lib.hid ((Below.refl w.heap.size w).alloc (Nat.le_refl _) (.cells ZH.toArray 62))
  have HR1 := Lib.hid (Row.new w 62 ZH)
  clear L A hn hr hC
  go_enter Tryz.func129, Tryz.ntmps129
  go_wp2_with fail
  refine (LN.out _ HB1.out).mono ?_
  rintro _ w2 ⟨rfl, rfl⟩
  go_wp2_with fail
  refine (AT.out _ HB1.out).mono ?_
  rintro _ w3 ⟨rfl, hb3⟩
  have HB3 := Lib.hid (two_below' HB1.out hb3)
  have HR3 := Lib.hid (HR1.out.below hb3)
  clear hb3
  go_wp2_with (first
    | (
       with_reducible show wpList _ _ _ (⟨_, .store 64 (.tmp 3) _, _, _, _, _⟩ :: _) _ _
       refine wpList_store_at rfl 64 (.tmp 3) (.tmp 11) rfl w3.heap.size 0 C ZT _ rfl rfl (Row.new w3 64 ZT) (by have := HZ68.out; have := HC68.out; omega) (by rw [rp_info, HC68.out]) HC1.out ?_
       intro w4 hr hg
       rw [splice_all (HC68.out.trans HZ68.out.symm)] at hr
       have hbx := below_own ((Below.refl w3.heap.size w3).alloc (Nat.le_refl _) (.cells ZT.toArray 64)) hg (fun k hk => by cases hk; exact Nat.le_refl _)
       have HB4 := Lib.hid (two_below' HB3.out hbx)
       have HR4 := Lib.hid (HR3.out.below hbx)
       have HX4 := Lib.hid (HAt.out _ _ hr)
       clear hbx
       clear hr hg)
    | ((with_reducible show wpList _ _ _ (⟨_, .load 62 (.tmp 13), _, _, _, _⟩ :: _) _ _); refine wpList_load_tx rfl 62 (.tmp 13) rfl w3.heap.size 36 (rfl) H _ ((by have := HX4.out; rwa [Nat.zero_add] at this)) Tryz.underlying62 rfl (by rw [hash_info, HH32.out]) ?_)
    | (
       with_reducible show wpList _ _ _ (⟨_, .store 62 (.tmp 2) _, _, _, _, _⟩ :: _) _ _
       refine wpList_store_at rfl 62 (.tmp 2) (.tmp 14) rfl w.heap.size 0 H ZH _ rfl rfl (HR4.out) (by have := HZ32.out; have := HH32.out; omega) (by rw [hash_info, HH32.out]) HH1.out ?_
       intro w9 hr hg
       rw [splice_all (HH32.out.trans HZ32.out.symm)] at hr
       have HS9 := Lib.hid hr
       have HB9 := Lib.hid (below_own HB4.out hg (fun k hk => by cases hk; exact Nat.le_refl _))
       clear hr hg))
  refine bodyPost_ret (results_cell_row rfl _ _ w.heap.size 62 H.toArray (0, 0) _ rfl HS9.out Tryz.underlying62 rfl (by rw [hash_info]; simp [HH32.out])) rfl ⟨rfl, HB9.out⟩
theorem LogAt.head {w : World} {base B : Nat} {v dv : Value} {rs : List Rp} (h : LogAt w base B v dv rs) :
    Calls Tryz.prog 129 #[.pointer (some ⟨B, 0, none⟩)] w fun e w' => e = .returned (.agg (bRow (Od.head rs))) ∧ Below w.heap.size w w' := by
  have hl := h.len
  match hn : rs.length with
  | 0 =>
    have e := List.length_eq_zero_iff.1 hn
    subst e
    exact head19 _ 0 Rp.zero Rp.zero_fits 4 w (fun W hW => (h.below hW).lenC) (by omega) (fun W hW => (h.below hW).at_no (0 - 1) (.inl (by omega)))
  | n + 1 =>
    rw [(Od.last_at hn).1]
    refine head19 _ (n + 1 : Nat) _ (h.fits _ (List.getElem_mem (by omega))) 0 w (fun W hW => by have := (h.below hW).lenC; rw [hn] at this; exact this) (by omega) (fun W hW => ?_)
    have := (h.below hW).at_yes n (by omega)
    rwa [show ((n + 1 : Nat) : Int) - 1 = (n : Int) by omega]
end Go.Proofs.YtalfnadejpmjnaaGreatDoor
