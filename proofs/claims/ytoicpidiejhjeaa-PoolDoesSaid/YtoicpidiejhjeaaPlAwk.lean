/- awake of layer 18. -/
import Derived.Test.YtoicpidiejhjeaaPlNil
namespace Go.Proofs.Ytoicpidiejhjeaa
open Go.RowKit
set_option linter.unusedVariables false
set_option linter.unusedSimpArgs false
set_option maxRecDepth 100000

theorem wpList_store_int {P : Program} {ops : Array Oper} {rest : List Oper} {op : Oper} {a : Act} {w : World} {Q : Exit → Act → World → Prop} (hgd : op.guard = none) (ty : TypeId) (x y : Operand) (ho : op.op = .store ty x y)
    (g i : Nat) (T : TypeId) (xs : List Value) (z : Int) (hx : a.eval x = .pointer (some ⟨g, i, none⟩)) (hy : a.eval y = .int .i64 z) (hg : Row w g T xs) (hi : i < xs.length) (hs : (P.info? ty).map (·.size) = some 1)
    (K : ∀ w', Row w' g T (xs.set i (.int .i64 z)) → w.grownBy w' (some g) → wpList P ops Q rest (a.put op.dst undef) w') : wpList P ops Q (op :: rest) a w := by
  refine wpList_plain hgd fun _ hK => ?_
  have hc := hg.cell i hi
  have hf := hg.free i
  have e : (storeVar ty ⟨g, i, none⟩ (.int .i64 z)).run P w = (storeVar ty ⟨g, i, none⟩ (.agg #[.int .i64 z])).run P w := by simp [storeVar, Value.cells]
  have hr := run_storeVar_mid (P := P) w g i ty #[.int .i64 z] (fun j hj => by
    have : j = 0 := by simp at hj; omega
    subst this
    exact ⟨by rw [Nat.add_zero, hc]; rfl, hf⟩) (by rw [hs]; rfl) (all_oneCell_toArray (cs := [.int .i64 z]) (fun v hv => by simp only [List.mem_singleton] at hv; subst hv; rfl))
  obtain ⟨r1, r2⟩ := row_setCells [.int .i64 z] i w xs hg (by simp; omega)
  unfold Oper.wp execOp
  simp only [ho, hx, hy, Instr.storeAt, Instr.sureAddr, Sem.run_bind, Sem.run_pure, Result.andThen_ok, e, hr]
  refine hK _ _ (K _ ?_ r2)
  have e2 : xs.take i ++ ([.int .i64 z] ++ xs.drop (i + [Value.int .i64 z].length)) = xs.set i (.int .i64 z) := by
    rw [List.set_eq_take_append_cons_drop, if_pos hi]
    rfl
  rw [← e2]
  exact r1
theorem next24 {w : World} {g : Nat} {z : Int} (h : Row w g 3 [.int .i64 z]) : NextFn w 24 (.pointer (some ⟨g, 0, none⟩)) (fun _ => z) :=
  ⟨enters_of Try.func24 (by kernel_rfl) rfl, fun W hW i h0 h1 => by
    have c := (h.below hW).cell 0 (by simp)
    simp only [List.getElem_cons_zero] at c
    clear h hW h0 h1
    go_enter Try.func24, Try.ntmps24
    go_wp2_with fail
    go_ret
    exact ⟨rfl, rfl⟩⟩
namespace Pl
def a1 : Wt := ⟨⟨0, 1, 0, 0, ByteArray.empty, false, 0, 0, Tx.zero, Tx.zero⟩, 0, 9, 2, 0⟩
def a2 : Wt := ⟨Tx.none, 1, 9, 5, 1⟩
def a3 : Wt := ⟨a1.tx, 0, 9, 5, 1⟩
theorem a1_ok : a1.Ok := ⟨⟨rfl, rfl, by decide, ⟨by decide, by decide⟩, ⟨by decide, by decide⟩, ⟨by decide, by decide⟩, ⟨by decide, by decide⟩, ⟨by decide, by decide⟩, ⟨by decide, by decide⟩⟩, ⟨by decide, by decide⟩, ⟨by decide, by decide⟩, ⟨by decide, by decide⟩, ⟨by decide, by decide⟩⟩
theorem a2_ok : a2.Ok := ⟨Tx.none_ok, ⟨by decide, by decide⟩, ⟨by decide, by decide⟩, ⟨by decide, by decide⟩, ⟨by decide, by decide⟩⟩
theorem put1 : putE 2 [] a1 = 0 ∧ putF 2 [] a1 = false ∧ putG 2 [] a1 = Wt.none ∧ put 2 [] a1 = [a1] := ⟨by rfl, by rfl, by rfl, by rfl⟩
theorem put2 : putE 2 [a1] a2 = 0 ∧ putF 2 [a1] a2 = false ∧ putG 2 [a1] a2 = Wt.none ∧ put 2 [a1] a2 = [a1, a2] := ⟨by rfl, by rfl, by rfl, by rfl⟩
theorem next1 : best [a1, a2] 4 (fun _ => 0) 2 = none := by rfl
theorem next2 : best [a1, a2] 5 (fun _ => 0) 2 = some a2 := by rfl
theorem rest2 : ([a1, a2].eraseIdx (pos [a1, a2] a2.ix)).map (raise a2) = [a3] := by rfl
theorem next3 : best [a3] 5 (fun _ => 1) 1 = some a3 := by rfl
theorem rest3 : ([a3].eraseIdx (pos [a3] a3.ix)).map (raise a3) = [] := by rfl
end Pl
/-- awake's pool -/
def AwP (w W : World) (base B : Nat) (l : List Wt) (rows : List (Nat × List Value)) : Prop := ∃ v, PutAt 63 w W base B (.slice none 0 0) v 2 l rows
section
variable {w W W' : World} {base B g : Nat} {l l' : List Wt} {rows rows' : List (Nat × List Value)} {z : Int}
theorem AwP.below (h : AwP w W base B l rows) (hb : Below W.heap.size W W') : AwP w W' base B l rows := by
  obtain ⟨v, h⟩ := h
  exact ⟨v, h.below hb⟩
theorem AwP.to {v : Value} (h : PutAt 63 w W base B (.slice none 0 0) v 2 l rows) (hp : PTo 63 W W' base B v 2 l') : AwP w W' base B l' rows := h.step hp
theorem AwP.put (h : AwP w W base B l rows) (x : Wt) (hx : x.Ok) (hI : Pl.putE 2 l x = 0 → InsOk (if Pl.full 2 l = true then l.eraseIdx (Pl.poor l l.length) else l) x) (l' : List Wt) (g : Wt) (f : Bool) (e0 : Int) (hl : Pl.put 2 l x = l') (hg : Pl.putG 2 l x = g) (hf : Pl.putF 2 l x = f) (he : Pl.putE 2 l x = e0) :
    Calls Try.prog 10 #[.pointer (some ⟨B, 0, none⟩), .agg x.cells.toArray] W fun e w' => e = .returned (.tuple #[.agg g.cells.toArray, .bool f, .int .i64 e0]) ∧ AwP w w' base B l' rows := by
  obtain ⟨v, h⟩ := h
  subst hl hg hf he
  exact (h.pat.put x hx hI).mono fun e w' ⟨q1, q2⟩ => ⟨q1, AwP.to h q2⟩
theorem AwP.next0 (h : AwP w W base B l rows) (now : Int) (hr : Row W g 3 [.int .i64 z]) (hb : Pl.best l now (fun _ => z) l.length = none) :
    Calls Try.prog 15 #[.pointer (some ⟨B, 0, none⟩), .int .i64 now, .func (.func 24) #[] #[.pointer (some ⟨g, 0, none⟩)]] W fun e w' => e = .returned (.tuple #[.agg Wt.none.cells.toArray, .bool false]) ∧ AwP w w' base B l rows ∧ Row w' g 3 [.int .i64 z] := by
  obtain ⟨v, h⟩ := h
  exact (h.pat.next_none now _ _ _ (next24 hr) hb).mono fun e w' ⟨q1, q2⟩ => ⟨q1, AwP.to h q2, h.pat.keepRow q2 hr (by decide) (by decide)⟩
theorem AwP.next1 (h : AwP w W base B l rows) (now : Int) (hr : Row W g 3 [.int .i64 z]) (b : Wt) (hb : Pl.best l now (fun _ => z) l.length = some b) (l' : List Wt) (hl : (l.eraseIdx (Pl.pos l b.ix)).map (Pl.raise b) = l') :
    Calls Try.prog 15 #[.pointer (some ⟨B, 0, none⟩), .int .i64 now, .func (.func 24) #[] #[.pointer (some ⟨g, 0, none⟩)]] W fun e w' => e = .returned (.tuple #[.agg b.cells.toArray, .bool true]) ∧ AwP w w' base B l' rows ∧ Row w' g 3 [.int .i64 z] := by
  obtain ⟨v, h⟩ := h
  subst hl
  exact (h.pat.next_some now _ _ _ (next24 hr) b hb).mono fun e w' ⟨q1, q2⟩ => ⟨q1, AwP.to h q2, h.pat.keepRow q2 hr (by decide) (by decide)⟩
theorem AwP.len0 (h : AwP w W base B l rows) : Calls Try.prog 19 #[.pointer (some ⟨B, 0, none⟩)] W fun e w' => e = .returned (.int .i64 l.length) ∧ W = w' := by
  obtain ⟨v, h⟩ := h
  exact h.pat.len
/-- a block of another type is written -/
theorem AwP.grown (h : AwP w W base B l rows) {T : TypeId} {xs : List Value} (hr : Row W g T xs) (hg : W.grownBy W' (some g)) (h1 : T ≠ 63) (h2 : T ≠ 38) (hs : w.heap.size ≤ g) : AwP w W' base B l rows := by
  obtain ⟨v, h⟩ := h
  have hc : Chg (fun k => k = g) W W' := Chg.of_grown hg (fun k hk => by cases hk; exact .inl rfl)
  exact ⟨v, h.pat.chg hc (fun k hk e => by
    subst e
    rcases hk with e | hk
    · subst e; exact h1 (hr.type h.pat.row)
    · exact h.pat.own.ne_block hr h2 hk), h.chg.trans hc (fun i hi => .inr (by rw [hi]; exact hs)), h.own, fun x hx => hc.row (h.row x hx) (fun e => h2 (by subst e; exact hr.type (h.row x hx))), h.out⟩
/-- a new box, written -/
theorem AwP.box (h : AwP w W base B l rows) {C ZT : List Value} (hg : (W.alloc (.cells ZT.toArray 38)).grownBy W' (some W.heap.size)) (hr : Row W' W.heap.size 38 C) : AwP w W' base B l ((W.heap.size, C) :: rows) := by
  obtain ⟨v, h⟩ := h
  exact ⟨v, (h.alloc ZT).write hg hr ⟨ZT, by simp⟩ (fun x hx => by
    rcases List.mem_cons.1 hx with rfl | hx
    · exact .inl rfl
    · exact .inr ⟨List.mem_cons_of_mem _ hx, fun e => by have := PS.lt_row h hx; omega⟩)⟩
theorem AwP.row (h : AwP w W base B l rows) {x : Nat × List Value} (hx : x ∈ rows) : Row W x.1 38 x.2 := by
  obtain ⟨v, h⟩ := h
  exact h.row x hx
theorem AwP.low {w0 : World} (h : AwP w W base B l rows) (hb : Below w0.heap.size w0 w) (hB : w0.heap.size ≤ B) : Below w0.heap.size w0 W := by
  obtain ⟨v, h⟩ := h
  exact below_chg hb h.chg hb.size (fun k hk => by
    rcases hk with rfl | hk
    · exact hB
    · cases hk)
end
set_option maxHeartbeats 6400000 in
theorem awake18_any (w : World) : Calls Try.prog 9 #[] w fun e w' => e = .returned (.bool true) ∧ Below w.heap.size w w' := by
  have HNew := Lib.hid (poolNew_ok 2 (by decide) (by decide) w)
  have I1 := Lib.hid (insOk_last [] Pl.a1 Pl.a1_ok (by decide) (by rfl))
  have I2 := Lib.hid (insOk_last [Pl.a1] Pl.a2 Pl.a2_ok (by decide) (by rfl))
  have P1 : Hid (∀ w W B base, AwP w W base B [] [] → Calls Try.prog 10 #[.pointer (some ⟨B, 0, none⟩), .agg Pl.a1.cells.toArray] W fun e w' => e = .returned (.tuple #[.agg Wt.none.cells.toArray, .bool false, .int .i64 0]) ∧ AwP w w' base B [Pl.a1] []) := Lib.hid (fun w W B base h => h.put Pl.a1 Pl.a1_ok (fun _ => I1.out) _ _ _ _ Pl.put1.2.2.2 Pl.put1.2.2.1 Pl.put1.2.1 Pl.put1.1)
  have P2 : Hid (∀ w W B base, AwP w W base B [Pl.a1] [] → Calls Try.prog 10 #[.pointer (some ⟨B, 0, none⟩), .agg Pl.a2.cells.toArray] W fun e w' => e = .returned (.tuple #[.agg Wt.none.cells.toArray, .bool false, .int .i64 0]) ∧ AwP w w' base B [Pl.a1, Pl.a2] []) := Lib.hid (fun w W B base h => h.put Pl.a2 Pl.a2_ok (fun _ => I2.out) _ _ _ _ Pl.put2.2.2.2 Pl.put2.2.2.1 Pl.put2.2.1 Pl.put2.1)
  have N1 := Lib.hid (fun w W B base g (h : AwP w W base B [Pl.a1, Pl.a2] []) hr => h.next0 4 (g := g) (z := 0) hr Pl.next1)
  have N2 := Lib.hid (fun w W B base g (h : AwP w W base B [Pl.a1, Pl.a2] []) hr => h.next1 5 (g := g) (z := 0) hr Pl.a2 Pl.next2 [Pl.a3] Pl.rest2)
  have N3 := Lib.hid (fun w W B base g rows (h : AwP w W base B [Pl.a3] rows) hr => h.next1 5 (g := g) (z := 1) hr Pl.a3 Pl.next3 [] Pl.rest3)
  have LN := Lib.hid (fun w W B base rows (h : AwP w W base B [] rows) => h.len0)
  have B1 : Hid (Try.prog.built 36 [(1, .int .i64 1)] = some Pl.a1.tx.cells.toArray) := Lib.hid (by kernel_rfl)
  have B2 : Hid (Try.prog.built 38 [(0, .agg Pl.a1.tx.cells.toArray), (3, .int .i64 2), (2, .int .i64 9)] = some Pl.a1.cells.toArray) := Lib.hid (by kernel_rfl)
  have B3 : Hid (Try.prog.built 38 [(1, .int .i64 1), (3, .int .i64 5), (4, .int .i64 1), (2, .int .i64 9)] = some Pl.a2.cells.toArray) := Lib.hid (by kernel_rfl)
  have HA2 := Lib.hid (fun W b (hr : Row W b 38 Pl.a2.cells) => (WBox.row Pl.a2_ok hr).2.2.2.1)
  have H276 := Lib.hid (Wt.cells_len Pl.a2_ok)
  have H21 := Lib.hid (Wt.cells_one Pl.a2_ok)
  have h3ok : Pl.a3.Ok := ⟨Pl.a1_ok.tx, Pl.a1_ok.ix, Pl.a1_ok.till, Pl.a2_ok.at_, Pl.a2_ok.place⟩
  have HA3 := Lib.hid (fun W b (hr : Row W b 38 Pl.a3.cells) => (WBox.row h3ok hr).2.2.2.2.2)
  have H376 := Lib.hid (Wt.cells_len h3ok)
  have H31 := Lib.hid (Wt.cells_one h3ok)
  have HZ76 := Lib.hid (Wt.cells_len Wt.none_ok)
  have HZ1 := Lib.hid (Wt.cells_one Wt.none_ok)
  have hzv := wait_zv
  have hix : Pl.a2.ix = 1 := rfl
  have hat3 : Pl.a3.at_ = 5 := rfl
  have hpl3 : Pl.a3.place = 1 := rfl
  rw [hix] at HA2
  rw [hat3, hpl3] at HA3
  clear I1 I2 h3ok hix hat3 hpl3
  generalize Pl.a1.tx.cells = CT1 at *
  generalize Pl.a1.cells = C1 at *
  generalize Pl.a2.cells = C2 at *
  generalize Pl.a3.cells = C3 at *
  generalize [Pl.a1, Pl.a2] = L12 at *
  generalize [Pl.a1] = L1 at *
  generalize [Pl.a3] = L3 at *
  generalize Wt.none.cells = ZT at *
  go_enter Try.func9, Try.ntmps9
  go_wp2_with fail
  refine HNew.out.mono ?_
  rintro _ w1 ⟨rfl, hp1, hb1⟩
  have HP1 : Hid (AwP w1 w1 w.heap.size w.heap.size [] []) := Lib.hid ⟨_, hp1.putAt (Below.refl _ _)⟩
  have HB1 := Lib.hid hb1
  clear hp1 hb1 HNew
  have HBe : Hid (w.heap.size ≤ w.heap.size) := Lib.hid (Nat.le_refl _)
  obtain ⟨B, hB⟩ : ∃ B, w.heap.size = B := ⟨_, rfl⟩
  have HP1' : Hid (AwP w1 w1 w.heap.size B [] []) := by rw [← hB]; exact HP1
  have HBB : Hid (w.heap.size ≤ B) := Lib.hid (Nat.le_of_eq hB)
  rw [hB]
  clear HP1 hB HBe
  go_wp2_with (first
  | ((with_reducible show wpList _ _ _ (⟨_, .build 36 _, _, _, _, _⟩ :: _) _ _); refine wpList_buildL rfl 36 [(1, .const (.int .i64 1))] rfl (some 22) rfl _ rfl CT1.toArray B1.out ?_)
  | ((with_reducible show wpList _ _ _ (⟨_, .build 38 _, _, _, _, _⟩ :: _) _ _); refine wpList_buildL rfl 38 [(0, .tmp 22), (3, .const (.int .i64 2)), (2, .const (.int .i64 9))] rfl (some 23) rfl _ rfl C1.toArray B2.out ?_))
  refine (P1.out _ _ _ _ HP1'.out).mono ?_
  rintro _ w2 ⟨rfl, hp2⟩
  have HP2 := Lib.hid hp2
  clear hp2 P1
  go_wp2_with (((with_reducible show wpList _ _ _ (⟨_, .build 38 _, _, _, _, _⟩ :: _) _ _); refine wpList_buildL rfl 38 [(1, .const (.int .i64 1)), (3, .const (.int .i64 5)), (4, .const (.int .i64 1)), (2, .const (.int .i64 9))] rfl (some 26) rfl _ rfl C2.toArray B3.out ?_))
  refine (P2.out _ _ _ _ HP2.out).mono ?_
  rintro _ w3 ⟨rfl, hp3⟩
  have HP3 := Lib.hid hp3
  clear hp3 P2
  have hbn := (Below.refl w3.heap.size w3).alloc (Nat.le_refl _) (.cells #[.int .i64 0] 3)
  have HP3a := Lib.hid (HP3.out.below hbn)
  have HI3a := Lib.hid (Row.new w3 3 [.int .i64 0])
  clear hbn
  go_wp2_with (first
  | ((with_reducible show wpList _ _ _ (⟨_, .store 3 (.tmp 3) _, _, _, _, _⟩ :: _) _ _)
     refine wpList_store_int rfl 3 (.tmp 3) (.const (.int .i64 0)) rfl w3.heap.size 0 3 [.int .i64 0] 0 rfl rfl HI3a.out (by simp) rfl ?_
     intro w4 hr hg
     have hb4 := below_own ((Below.refl w3.heap.size w3).alloc (Nat.le_refl _) (.cells #[.int .i64 0] 3)) hg (fun k hk => by cases hk; exact Nat.le_refl _)
     have HP4 := Lib.hid (HP3.out.below hb4)
     have HI4 := Lib.hid hr
     clear hr hg hb4))
  have HG3 : Hid (w1.heap.size ≤ w3.heap.size) := Lib.hid (by obtain ⟨v, h⟩ := HP3.out; exact h.chg.size)
  clear HP3 HP3a HI3a
  generalize w3.heap.size = g3 at *
  refine (N1.out _ _ _ _ _ HP4.out HI4.out).mono ?_
  rintro _ w5 ⟨rfl, hp5, hi5⟩
  have HP5 := Lib.hid hp5
  have HI5 := Lib.hid hi5
  clear hp5 hi5 N1
  go_wp2_with (first
  | (
     with_reducible show wpList _ _ _ (⟨_, .store 38 (.tmp 5) _, _, _, _, _⟩ :: _) _ _
     refine wpList_store_at rfl 38 (.tmp 5) (.tmp 33) rfl w5.heap.size 0 ZT ZT _ rfl rfl (Row.new w5 38 ZT) (by have := HZ76.out; have := HZ76.out; omega) (by rw [wait_info, HZ76.out]) HZ1.out ?_
     intro w6 hr hg
     rw [splice_all (HZ76.out.trans HZ76.out.symm)] at hr
     have hbx := below_own ((Below.refl w5.heap.size w5).alloc (Nat.le_refl _) (.cells ZT.toArray 38)) hg (fun k hk => by cases hk; exact Nat.le_refl _)
     have HP6 := Lib.hid (HP5.out.below hbx)
     have HI6 := Lib.hid (HI5.out.below hbx)
     clear hbx
     clear hr hg))
  refine (N2.out _ _ _ _ _ HP6.out HI6.out).mono ?_
  rintro _ w7 ⟨rfl, hp7, hi7⟩
  have HP7 := Lib.hid hp7
  have HI7 := Lib.hid hi7
  clear hp7 hi7 N2
  go_wp2_with (first
  | (
     with_reducible show wpList _ _ _ (⟨_, .store 38 (.tmp 7) _, _, _, _, _⟩ :: _) _ _
     refine wpList_store_at rfl 38 (.tmp 7) (.tmp 39) rfl w7.heap.size 0 C2 ZT _ rfl rfl (Row.new w7 38 ZT) (by have := HZ76.out; have := H276.out; omega) (by rw [wait_info, H276.out]) H21.out ?_
     intro w9 hr hg
     rw [splice_all (H276.out.trans HZ76.out.symm)] at hr
     have hbx := below_own ((Below.refl w7.heap.size w7).alloc (Nat.le_refl _) (.cells ZT.toArray 38)) hg (fun k hk => by cases hk; exact Nat.le_refl _)
     have HP9 := Lib.hid (HP7.out.box hg hr)
     have HI9 := Lib.hid (HI7.out.below hbx)
     clear hbx
     clear hr hg)
  | ((with_reducible show wpList _ _ _ (⟨_, .store 3 (.tmp 3) _, _, _, _, _⟩ :: _) _ _)
     refine wpList_store_int rfl 3 (.tmp 3) (.const (.int .i64 1)) rfl g3 0 3 [.int .i64 0] 1 rfl rfl HI9.out (by simp) rfl ?_
     intro w19 hr hg
     replace HP9 := Lib.hid (AwP.grown HP9.out HI9.out hg (by decide) (by decide) HG3.out)
     replace HI9 := Lib.hid hr
     clear hr hg))
  generalize w7.heap.size = g7 at *
  refine (N3.out _ _ _ _ _ _ HP9.out HI9.out).mono ?_
  rintro _ w10 ⟨rfl, hp10, hi10⟩
  have HP10 := Lib.hid hp10
  clear hp10 hi10 N3
  go_wp2_with (first
  | (
     with_reducible show wpList _ _ _ (⟨_, .store 38 (.tmp 9) _, _, _, _, _⟩ :: _) _ _
     refine wpList_store_at rfl 38 (.tmp 9) (.tmp 45) rfl w10.heap.size 0 C3 ZT _ rfl rfl (Row.new w10 38 ZT) (by have := HZ76.out; have := H376.out; omega) (by rw [wait_info, H376.out]) H31.out ?_
     intro w11 hr hg
     rw [splice_all (H376.out.trans HZ76.out.symm)] at hr
     have HP11 := Lib.hid (HP10.out.box hg hr)
     have e7 := HA2.out _ _ (HP11.out.row (x := (g7, C2)) (by simp))
     obtain ⟨e9, e10⟩ := HA3.out _ _ (HP11.out.row (x := (w10.heap.size, C3)) (by simp))
     clear hr hg))
  refine (LN.out _ _ _ _ _ HP11.out).mono ?_
  rintro _ w12 ⟨rfl, rfl⟩
  go_wp2_with fail
  go_ret
  exact ⟨rfl, HP11.out.low HB1.out HBB.out⟩
end Go.Proofs.Ytoicpidiejhjeaa
