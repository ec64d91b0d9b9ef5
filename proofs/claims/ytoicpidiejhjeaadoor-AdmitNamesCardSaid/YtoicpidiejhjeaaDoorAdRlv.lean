/- The reference's gate: Leave. -/
import Derived.Test.YtoicpidiejhjeaaDoorAdRen
namespace Go.Proofs.YtoicpidiejhjeaaDoor
open Go.RowKit
set_option linter.unusedVariables false
set_option linter.unusedSimpArgs false
set_option maxRecDepth 100000

theorem wpList_store_sl17 {P : Program} {ops : Array Oper} {rest : List Oper} {op : Oper} {a : Act} {w : World} {Q : Exit → Act → World → Prop} (hgd : op.guard = none) (ty : TypeId) (x y : Operand) (ho : op.op = .store ty x y)
    (g i : Nat) (T : TypeId) (xs : List Value) (A : Option Addr) (n c : Nat) (hx : a.eval x = .pointer (some ⟨g, i, none⟩)) (hy : a.eval y = .slice A n c) (hg : Row w g T xs) (hi : i < xs.length) (hs : (P.info? ty).map (·.size) = some 1)
    (K : ∀ w', Row w' g T (xs.set i (.slice A n c)) → w.grownBy w' (some g) → wpList P ops Q rest (a.put op.dst undef) w') : wpList P ops Q (op :: rest) a w := by
  refine wpList_plain hgd fun _ hK => ?_
  have hc := hg.cell i hi
  have hf := hg.free i
  have e : (storeVar ty ⟨g, i, none⟩ (.slice A n c)).run P w = (storeVar ty ⟨g, i, none⟩ (.agg #[.slice A n c])).run P w := by simp [storeVar, Value.cells]
  have hr := run_storeVar_mid (P := P) w g i ty #[.slice A n c] (fun j hj => by
    have : j = 0 := by simp at hj; omega
    subst this
    exact ⟨by rw [Nat.add_zero, hc]; rfl, hf⟩) (by rw [hs]; rfl) (all_oneCell_toArray (cs := [.slice A n c]) (fun v hv => by simp only [List.mem_singleton] at hv; subst hv; rfl))
  obtain ⟨r1, r2⟩ := row_setCells [.slice A n c] i w xs hg (by simp; omega)
  unfold Oper.wp execOp
  simp only [ho, hx, hy, Instr.storeAt, Instr.sureAddr, Sem.run_bind, Sem.run_pure, Result.andThen_ok, e, hr]
  refine hK _ _ (K _ ?_ r2)
  have e2 : xs.take i ++ ([.slice A n c] ++ xs.drop (i + [Value.slice A n c].length)) = xs.set i (.slice A n c) := by
    rw [List.set_eq_take_append_cons_drop, if_pos hi]
    rfl
  rw [← e2]
  exact r1
/-- where the loop stands -/
structure RtAt (w wr : World) (v : Value) (out : List Tx) : Prop where
  below : Below w.heap.size w wr
  own : OwnL wr w.heap.size 35 72 Tx.cells v out
/-- what Leave makes of the gate -/
def RGTo2 (w w' : World) (base B K : Nat) (v : Value) (fl : Int) (n : Nat) : Prop :=
  ∃ v' N' L', RGAt w' base B K v' fl N' L' n ∧ Chg (RGS B K v) w w' ∧ ∀ k, RGS B K v' k → RGS B K v k ∨ w.heap.size ≤ k
/-- .. behind the list's store -/
def RGLf (w w' : World) (base B K : Nat) (v : Value) (fl : Int) (N : List Int) (n : Nat) : Prop :=
  ∃ v' L', RGAt w' base B K v' fl N L' n ∧ Chg (RGS B K v) w w' ∧ ∀ k, RGS B K v' k → RGS B K v k ∨ w.heap.size ≤ k
section
variable {w w' : World} {base B K n : Nat} {v : Value} {fl : Int} {N : List Int}
theorem RGLf.to (h : RGLf w w' base B K v fl N n) : RGTo2 w w' base B K v fl (n + 1) := by
  obtain ⟨v', L', h1, h2, h3⟩ := h
  exact ⟨v', N, L', h1.mono (Nat.le_succ n), h2, h3⟩
theorem RGLf.below {W : World} (h : RGLf w w' base B K v fl N n) (hb : Below w'.heap.size w' W) : RGLf w W base B K v fl N n := by
  obtain ⟨v', L', h1, h2, h3⟩ := h
  exact ⟨v', L', h1.below hb, h2.trans (S2 := fun _ => False) (Chg.of_below hb) (fun i hi => hi.elim), h3⟩
theorem RGLf.c1 (h : RGLf w w' base B K v fl N n) : w'.cell? ⟨B, 1, none⟩ = some (.slice (some ⟨K, 0, none⟩) 64 64) := by obtain ⟨v', L', h1, _⟩ := h; exact h1.c1
theorem RGLf.cN (h : RGLf w w' base B K v fl N n) (i : Nat) (hi : i < 64) : w'.cell? ⟨K, i, none⟩ = some (.int .i64 (N.getD i 0)) := by obtain ⟨v', L', h1, _⟩ := h; exact h1.cN i hi
theorem RGLf.fr (h : RGLf w w' base B K v fl N n) (i : Nat) : w'.frozen? ⟨K, i, none⟩ = false := by obtain ⟨v', L', h1, _⟩ := h; exact h1.nx.free i
theorem RGLf.set (h : RGLf w w' base B K v fl N n) (i : Nat) (hi : i < 64) : RGTo2 w (w'.setCell ⟨K, i, none⟩ (.int .i64 (N.getD i 0 + 1))) base B K v fl (n + 1) := by
  obtain ⟨v', L', h1, h2, h3⟩ := h
  have hl : i < N.length := by rw [h1.len.1]; exact hi
  have hg := grownBy_set w' K i (.int .i64 (N.getD i 0 + 1))
  have hm : N.getD i 0 ∈ N := by rw [List.getD_eq_getElem?_getD, List.getElem?_eq_getElem hl]; exact List.getElem_mem hl
  refine ⟨v', N.set i (N.getD i 0 + 1), L', ⟨h1.row.kept hg (fun e => by injection e with e; exact row_ne_row h1.row h1.nx (by decide) e), h1.nx.setNum i _ hl, h1.own.kept hg (.inr (h1.own.ne_block h1.nx (by decide))), ⟨by rw [List.length_set]; exact h1.len.1, fun x hx => ?_⟩, ⟨h1.txs.1, Nat.le_trans h1.txs.2 (Nat.le_succ n)⟩, h1.lo⟩, h2.trans (S2 := fun k => k = K) (Chg.of_grown hg (fun k hk => by cases hk; exact .inl rfl)) (fun i hi => .inl (.inr (.inl hi))), h3⟩
  rcases List.mem_or_eq_of_mem_set hx with hx | hx
  · have := h1.len.2 x hx; omega
  · have := h1.len.2 _ hm; omega
end
theorem RGAt.left {w w1 w2 : World} {base B K n : Nat} {v v' : Value} {fl : Int} {N : List Int} {L Lr : List Tx} (h : RGAt w base B K v fl N L n) (hb : Below w.heap.size w w1) (ho : OwnL w1 w.heap.size 35 72 Tx.cells v' Lr) (hs : ∀ x ∈ Lr, x ∈ L) (hl : Lr.length ≤ L.length)
    (hr : Row w2 B 57 [.int .i64 fl, .slice (some ⟨K, 0, none⟩) 64 64, v']) (hg : w1.grownBy w2 (some B)) : RGLf w w2 base B K v fl N n := by
  have h1 := h.below hb
  have hbase : base ≤ w.heap.size := Nat.le_trans h.lo.1 (Nat.le_of_lt h.row.lt)
  refine ⟨v', Lr, ⟨hr, h1.nx.kept hg (fun e => by injection e with e; exact row_ne_row h1.nx h1.row (by decide) e), (ho.mono hbase).kept hg (.inr (ho.ne_block h1.row (by decide))), h.len, ⟨fun t ht => h.txs.1 t (hs t ht), Nat.le_trans hl h.txs.2⟩, h.lo⟩, ?_, fun k hk => ?_⟩
  · exact (Chg.of_below (S := RGS B K v) hb).trans (S2 := RGS B K v) (Chg.of_grown hg (fun k hk => by cases hk; exact .inl (.inl rfl))) (fun i hi => .inl hi)
  · rcases hk with rfl | rfl | hk
    · exact .inl (.inl rfl)
    · exact .inl (.inr (.inl rfl))
    · exact .inr (ho.lt k hk).1
set_option maxHeartbeats 6400000 in
theorem rgLeave_any {w : World} {base B K n : Nat} {v : Value} {fl : Int} {N : List Int} {L : List Tx} (t : Tx) (ht : t.Ok) (dn : Bool) (h : RGAt w base B K v fl N L n) (hn : n ≤ 900) :
    Calls Tryd.prog 21 #[.pointer (some ⟨B, 0, none⟩), .agg t.cells.toArray, .bool dn] w fun e w' => (∃ i : Int, e = .returned (.int .i64 i)) ∧ RGTo2 w w' base B K v fl (n + 1) := by
  obtain ⟨i0, hi, h2⟩ := Option.map_eq_some_iff.1 tx_whole
  simp only [Prod.mk.injEq] at h2
  obtain ⟨hz, hsi, hby⟩ := h2
  have Hi := Lib.hid hi
  have Hz := Lib.hid hz
  have Hs := Lib.hid hsi
  have Hby := Lib.hid hby
  clear hi hz hsi hby
  obtain ⟨A, c, rfl, _, _⟩ := h.own.form
  obtain ⟨l0, hl0⟩ : ∃ l0, L.length = l0 := ⟨_, rfl⟩
  have hl0n : l0 ≤ 900 := by have := h.txs.2; omega
  rw [hl0] at h ⊢
  have HH := Lib.hid h
  have HT72 := Lib.hid (Tx.cells_length ht)
  have HZ72 := Lib.hid (Tx.cells_length Tx.none_ok)
  have HTk := Lib.hid ht
  have AT : Hid (∀ W, Below w.heap.size w W → Calls Tryd.prog 30 #[.pointer (some ⟨B, 0, none⟩), .agg t.cells.toArray] W fun e w' => (∃ i : Int, e = .returned (.int .i64 i) ∧ (i = -1 ∨ ∃ (k : Nat) (hk : k < L.length), i = k ∧ L[k] = t)) ∧ Below W.heap.size W w') := Lib.hid (fun W hW => rgAt_any t ht (HH.out.below hW) (by omega))
  have HBox : Hid (∀ W, Row W w.heap.size 35 t.cells → W.cell? ⟨w.heap.size, 0, none⟩ = some (.int .i64 t.frm) ∧ W.cell? ⟨w.heap.size, 1, none⟩ = some (.int .i64 t.nonce)) := Lib.hid (fun W h => ⟨(tx_box ht h).1, (tx_box ht h).2.1⟩)
  have Hr0 := Lib.hid (Row.new w 35 t.cells)
  have Hb0 := Lib.hid ((Below.refl w.heap.size w).alloc (Nat.le_refl _) (.cells t.cells.toArray 35))
  obtain ⟨CT, hCT⟩ : ∃ CT, t.cells = CT := ⟨_, rfl⟩
  rw [hCT] at HT72 AT HBox Hr0 Hb0 ⊢
  clear hCT ht
  go_enter Tryd.func21, Tryd.ntmps21
  go_wp2_with ((with_reducible show wpList _ _ _ (⟨_, .load 35 (.tmp 4), _, _, _, _⟩ :: _) _ _); refine wpList_load_tx rfl 35 (.tmp 4) rfl w.heap.size 0 rfl CT _ (row_range Hr0.out) Tryd.underlying35 rfl (by rw [tx_info, HT72.out]) ?_)
  refine (AT.out _ Hb0.out).mono ?_
  rintro _ w5 ⟨⟨i, rfl, hik⟩, hb5⟩
  have HB5 := Lib.hid (two_below' Hb0.out hb5)
  have HR5 := Lib.hid (Hr0.out.kept (grownBy_of_below hb5 none) (by simp))
  clear hb5
  rcases hik with hi1 | ⟨k, hkL, rfl, hkt⟩
  · have hdm : decide (i < 0) = true := by rw [hi1]; decide
    clear hi1
    go_wp2_with fail
    go_ret
    exact ⟨⟨_, rfl⟩, _, N, L, (HH.out.below HB5.out).mono (Nat.le_succ n), Chg.of_below HB5.out, fun k hk => .inl hk⟩
  have hfm : 0 ≤ t.frm ∧ t.frm ≤ 63 := by have := (h.txs.1 _ (List.getElem_mem hkL)).2; rw [hkt] at this; exact this
  obtain ⟨fr, hfe⟩ : ∃ fr : Nat, t.frm = fr := ⟨t.frm.toNat, by omega⟩
  have hfr64 : fr < 64 := by omega
  have hfr0 : (0 : Int) ≤ (fr : Int) := by omega
  have hfri : (fr : Int) < 64 := by omega
  have hkd : decide ((k : Int) < 0) = false := by simp
  have hk0 : ¬ (k : Int) < 0 := by omega
  rw [hfe] at HBox
  have hNb : 0 ≤ N.getD fr 0 ∧ N.getD fr 0 ≤ n := by
    have hl : fr < N.length := by rw [h.len.1]; exact hfr64
    rw [List.getD_eq_getElem?_getD, List.getElem?_eq_getElem hl]
    exact h.len.2 _ (List.getElem_mem hl)
  obtain ⟨Y, hY⟩ : ∃ Y : Nat → Tx, Y = fun j => L.getD j Tx.none := ⟨_, rfl⟩
  have hYe : ∀ j (hj : j < L.length), Y j = L[j] := fun j hj => by rw [hY]; simp [hj]
  have HYF : Hid (∀ j, j < l0 → (Y j).Ok) := Lib.hid (fun j hj => by rw [hYe j (by omega)]; exact (h.txs.1 _ (List.getElem_mem _)).1)
  have HYM : Hid (∀ j, j < l0 → Y j ∈ L) := Lib.hid (fun j hj => by rw [hYe j (by omega)]; exact List.getElem_mem _)
  have HAt : Hid (∀ j, j < l0 → ∃ g, A = some ⟨g, 0, none⟩ ∧ g < w.heap.size ∧ w.rangeAt g (j * 72) (Y j).cells) := Lib.hid (fun j hj => by
    obtain ⟨g, c', e, _, hg⟩ := h.own.ne (by intro e; rw [e] at hl0; simp at hl0; omega)
    injection e with e1 e2 e3
    subst e1
    refine ⟨g, rfl, hg, ?_⟩
    have h1 := h.own
    rw [← hl0] at h1
    have h1 := h1.at (Tx.cells_lenL L (fun t ht => (h.txs.1 t ht).1)) j (by omega)
    rw [hYe j (by omega)]
    exact h1)
  have HLl := Lib.hid hl0
  clear hfe hfm hkt hkL hY hYe h hl0
  generalize Tx.none.cells = ZT at *
  obtain ⟨nx, hnx⟩ : ∃ nx, N.getD fr 0 = nx := ⟨_, rfl⟩
  rw [hnx] at hNb
  have HNx := Lib.hid hnx
  clear hnx
  cases dn with
  | false =>
    go_wp2_with fail
    go_quiet (fail)
    have HW7 := Lib.hid (below_drewN' HB5.out nq)
    have HB7r := Lib.hid (HR5.out.kept (grownBy_drewN w5 nq none) (by simp))
    generalize w5.drewN nq = w7 at *
    go_wp2_with fail
    go_loopw [8, 9] (fun s8 s9 wr => ∃ (u : Value) (j : Nat) (Lr : List Tx), j ≤ l0 ∧ u = s8 ∧ s9 = .int .i64 j ∧ RtAt w7 wr u Lr ∧ (∀ x ∈ Lr, x ∈ L) ∧ Lr.length ≤ j) (fun _ i _ => l0 - (intOf i).toNat)
    case atStart => exact ⟨_, 0, [], Nat.zero_le _, rfl, rfl, ⟨Below.refl _ _, OwnL.nil _ _ _ _ _⟩, by simp, by simp⟩
    case round =>
      obtain ⟨u, j, Lr, hj, rfl, rfl, hC, hsub, hle⟩ := hrel
      have HC := Lib.hid hC
      have HSub := Lib.hid hsub
      have HWr := Lib.hid (two_below' HW7.out hC.below)
      have c2 := (HH.out.below HWr.out).c2
      clear hC hsub
      by_cases hjm : j < l0
      · have hji : (j : Int) < (l0 : Int) := by omega
        have hj0 : (0 : Int) ≤ (j : Int) := by omega
        by_cases hjk : (j : Int) = (k : Int)
        · have hjb : ((j : Int) != (k : Int)) = false := by simpa using hjk
          clear hjk
          go_wp2_with fail
          exact ⟨⟨_, j + 1, Lr, by omega, rfl, by go_num, HC.out, HSub.out, by omega⟩, by simp [intOf]; omega⟩
        · have hjb : ((j : Int) != (k : Int)) = true := by simpa using hjk
          clear hjk
          obtain ⟨g, rfl, hg, hat⟩ := HAt.out j hjm
          have HRr : Hid (wr.rangeAt g (j * 72) (Y j).cells) := Lib.hid (fun i u hu => (HWr.out.cell (p := ⟨g, j * 72 + i, none⟩) hg).trans (hat i u hu))
          have HFt := HYF.out j hjm
          have HK72 := Lib.hid (Tx.cells_length HFt)
          have HK1 := Lib.hid (Tx.cells_one HFt)
          have HYm := Lib.hid (HYM.out j hjm)
          obtain ⟨A1, c1', rfl, hlc, hcm⟩ := HC.out.own.form
          obtain ⟨q, hq⟩ : ∃ q, q = Lr.length := ⟨_, rfl⟩
          have hk63 : q + 1 ≤ maxLen := by unfold maxLen; omega
          have hk48 : ((q + 1) + (q + 1) / 4 + 192) * 136 ≤ 281474976710656 := by omega
          rw [← hq] at hlc HC ⊢
          have HQ := Lib.hid hq
          clear hq hat HAt HYF HFt
          obtain ⟨CK, hCK⟩ : ∃ CK, (Y j).cells = CK := ⟨_, rfl⟩
          rw [hCK] at HRr HK72 HK1
          have HCK := Lib.hid hCK
          clear hCK
          have hbn := (Below.refl wr.heap.size wr).alloc (Nat.le_refl _) (.cells CK.toArray 35)
          have HNew := Lib.hid (Row.new wr 35 CK)
          have HO7 := Lib.hid (HC.out.own.own.alloc (.cells CK.toArray 35))
          rw [← HQ.out] at HO7
          have HB7 := Lib.hid (two_below' HC.out.below hbn)
          have HBs7 := Lib.hid HB7.out.size
          clear hbn
          go_wp2_with (first
            | ((with_reducible show wpList _ _ _ (⟨_, .load 35 (.tmp 47), _, _, _, _⟩ :: _) _ _); refine wpList_load_tx rfl 35 (.tmp 47) rfl g (j * 72) (by first | rfl | simp) CK _ HRr.out Tryd.underlying35 rfl (by rw [tx_info, HK72.out]) ?_)
            | ((with_reducible show wpList _ _ _ (⟨_, .buildSlice 55 _ _, _, _, _, _⟩ :: _) _ _); refine wpList_buildSliceL rfl 55 35 1 [(0, .tmp 48)] rfl (some 49) rfl [(0, .agg CK.toArray)] rfl CK.toArray i0 (.agg ZT.toArray) 72 Tryd.underlying55 Hi.out Hz.out Hs.out (by decide) (by decide) (fill_tx ZT.toArray CK HK72.out) ?_)
            | (at_builtin
               refine wpList_append_own_wide _ rfl (.tmp 41) (.tmp 49) 55 rfl w7.heap.size 35 i0 (.agg ZT.toArray) 72 136 Tryd.underlying55 Hi.out Hz.out Hs.out Hby.out (by have := HZ72.out; simpa [Value.cells] using this) (by decide) _ _ _ rfl HO7.out ⟨wr.heap.size, 0, none⟩ 1 1 CK rfl (by rw [HK72.out]) (fun j u hu => by have := row_range HNew.out j u hu; rw [Nat.zero_add] at this; have hadd : (⟨wr.heap.size, 0, none⟩ : Addr).add j = ⟨wr.heap.size, j, none⟩ := (by unfold Addr.add; split <;> simp_all); rw [hadd]; exact this) HK1.out hk63 hk48 HBs7.out ?_
               intro v8 w8 hown8 hgrow8 _
               have HC8 : Hid (RtAt w7 w8 v8 (Lr ++ [Y j])) := Lib.hid ⟨below_row HB7.out HBs7.out HO7.out hgrow8, OwnL.pushed (by rw [HCK.out, ← HQ.out]; exact hown8)⟩
               clear hown8 hgrow8))
          exact ⟨⟨_, j + 1, Lr ++ [Y j], by omega, rfl, by go_num, HC8.out, fun x hx => (by
            rcases List.mem_append.1 hx with hx | hx
            · exact HSub.out x hx
            · simp only [List.mem_singleton] at hx; subst hx; exact HYm.out), by rw [List.length_append]; have := HQ.out; simp; omega⟩, by simp [intOf]; omega⟩
      · have hji : ¬ (j : Int) < (l0 : Int) := by omega
        have HLe : Hid (Lr.length ≤ L.length) := Lib.hid (by rw [HLl.out]; omega)
        have HO9 : Hid (OwnL wr w.heap.size 35 72 Tx.cells u Lr) := Lib.hid (HC.out.own.mono HW7.out.size)
        have HBX := Lib.hid (HB7r.out.kept (grownBy_of_below HC.out.below none) (by simp))
        have HRX := Lib.hid (HH.out.below HWr.out).row
        obtain ⟨A9, c9, hu, _, _⟩ := HO9.out.form
        obtain ⟨l9, hl9⟩ : ∃ l9, l9 = Lr.length := ⟨_, rfl⟩
        rw [← hl9] at hu
        subst hu
        clear HC HAt HYF HYM hl9
        go_wp2_with (first
          | ((with_reducible show wpList _ _ _ (⟨_, .store 55 _ _, _, _, _, _⟩ :: _) _ _)
             refine wpList_store_sl17 rfl 55 (.tmp 54) (.tmp 52) rfl B 2 57 [.int .i64 fl, .slice (some ⟨K, 0, none⟩) 64 64, .slice A l0 c] A9 l9 c9 rfl rfl HRX.out (by simp) rfl ?_
             intro w9 hr9 hg9
             have HL9 := Lib.hid (RGAt.left HH.out HWr.out HO9.out HSub.out HLe.out hr9 hg9)
             have HB9 : Hid (Row w9 w.heap.size 35 CT) := Lib.hid (HBX.out.kept hg9 (fun e => by injection e with e; exact row_ne_row HBX.out HRX.out (by decide) e))
             clear hr9 hg9))
        go_ret
        exact ⟨⟨0, rfl⟩, HL9.out.to⟩
  | true =>
    have HK5 := Lib.hid (HH.out.below HB5.out)
    have b0 := (HBox.out _ HR5.out).1
    have b1 := (HBox.out _ HR5.out).2
    have g1 := HK5.out.c1
    have g2 := HK5.out.cN fr hfr64
    rw [HNx.out] at g2
    by_cases hne : t.nonce = nx
    · have hnb : (t.nonce != nx) = false := by simpa using hne
      clear hne
      go_wp2_with fail
      go_quiet (fail)
      have HW7 := Lib.hid (below_drewN' HB5.out nq)
      have HB7r := Lib.hid (HR5.out.kept (grownBy_drewN w5 nq none) (by simp))
      clear b0 b1 g1 g2 HK5 hnb
      generalize w5.drewN nq = w7 at *
      go_wp2_with fail
      go_loopw [8, 9] (fun s8 s9 wr => ∃ (u : Value) (j : Nat) (Lr : List Tx), j ≤ l0 ∧ u = s8 ∧ s9 = .int .i64 j ∧ RtAt w7 wr u Lr ∧ (∀ x ∈ Lr, x ∈ L) ∧ Lr.length ≤ j) (fun _ i _ => l0 - (intOf i).toNat)
      case atStart => exact ⟨_, 0, [], Nat.zero_le _, rfl, rfl, ⟨Below.refl _ _, OwnL.nil _ _ _ _ _⟩, by simp, by simp⟩
      case round =>
        obtain ⟨u, j, Lr, hj, rfl, rfl, hC, hsub, hle⟩ := hrel
        have HC := Lib.hid hC
        have HSub := Lib.hid hsub
        have HWr := Lib.hid (two_below' HW7.out hC.below)
        have c2 := (HH.out.below HWr.out).c2
        clear hC hsub
        by_cases hjm : j < l0
        · have hji : (j : Int) < (l0 : Int) := by omega
          have hj0 : (0 : Int) ≤ (j : Int) := by omega
          by_cases hjk : (j : Int) = (k : Int)
          · have hjb : ((j : Int) != (k : Int)) = false := by simpa using hjk
            clear hjk
            go_wp2_with fail
            exact ⟨⟨_, j + 1, Lr, by omega, rfl, by go_num, HC.out, HSub.out, by omega⟩, by simp [intOf]; omega⟩
          · have hjb : ((j : Int) != (k : Int)) = true := by simpa using hjk
            clear hjk
            obtain ⟨g, rfl, hg, hat⟩ := HAt.out j hjm
            have HRr : Hid (wr.rangeAt g (j * 72) (Y j).cells) := Lib.hid (fun i u hu => (HWr.out.cell (p := ⟨g, j * 72 + i, none⟩) hg).trans (hat i u hu))
            have HFt := HYF.out j hjm
            have HK72 := Lib.hid (Tx.cells_length HFt)
            have HK1 := Lib.hid (Tx.cells_one HFt)
            have HYm := Lib.hid (HYM.out j hjm)
            obtain ⟨A1, c1', rfl, hlc, hcm⟩ := HC.out.own.form
            obtain ⟨q, hq⟩ : ∃ q, q = Lr.length := ⟨_, rfl⟩
            have hk63 : q + 1 ≤ maxLen := by unfold maxLen; omega
            have hk48 : ((q + 1) + (q + 1) / 4 + 192) * 136 ≤ 281474976710656 := by omega
            rw [← hq] at hlc HC ⊢
            have HQ := Lib.hid hq
            clear hq hat HAt HYF HFt
            obtain ⟨CK, hCK⟩ : ∃ CK, (Y j).cells = CK := ⟨_, rfl⟩
            rw [hCK] at HRr HK72 HK1
            have HCK := Lib.hid hCK
            clear hCK
            have hbn := (Below.refl wr.heap.size wr).alloc (Nat.le_refl _) (.cells CK.toArray 35)
            have HNew := Lib.hid (Row.new wr 35 CK)
            have HO7 := Lib.hid (HC.out.own.own.alloc (.cells CK.toArray 35))
            rw [← HQ.out] at HO7
            have HB7 := Lib.hid (two_below' HC.out.below hbn)
            have HBs7 := Lib.hid HB7.out.size
            clear hbn
            go_wp2_with (first
              | ((with_reducible show wpList _ _ _ (⟨_, .load 35 (.tmp 47), _, _, _, _⟩ :: _) _ _); refine wpList_load_tx rfl 35 (.tmp 47) rfl g (j * 72) (by first | rfl | simp) CK _ HRr.out Tryd.underlying35 rfl (by rw [tx_info, HK72.out]) ?_)
              | ((with_reducible show wpList _ _ _ (⟨_, .buildSlice 55 _ _, _, _, _, _⟩ :: _) _ _); refine wpList_buildSliceL rfl 55 35 1 [(0, .tmp 48)] rfl (some 49) rfl [(0, .agg CK.toArray)] rfl CK.toArray i0 (.agg ZT.toArray) 72 Tryd.underlying55 Hi.out Hz.out Hs.out (by decide) (by decide) (fill_tx ZT.toArray CK HK72.out) ?_)
              | (at_builtin
                 refine wpList_append_own_wide _ rfl (.tmp 41) (.tmp 49) 55 rfl w7.heap.size 35 i0 (.agg ZT.toArray) 72 136 Tryd.underlying55 Hi.out Hz.out Hs.out Hby.out (by have := HZ72.out; simpa [Value.cells] using this) (by decide) _ _ _ rfl HO7.out ⟨wr.heap.size, 0, none⟩ 1 1 CK rfl (by rw [HK72.out]) (fun j u hu => by have := row_range HNew.out j u hu; rw [Nat.zero_add] at this; have hadd : (⟨wr.heap.size, 0, none⟩ : Addr).add j = ⟨wr.heap.size, j, none⟩ := (by unfold Addr.add; split <;> simp_all); rw [hadd]; exact this) HK1.out hk63 hk48 HBs7.out ?_
                 intro v8 w8 hown8 hgrow8 _
                 have HC8 : Hid (RtAt w7 w8 v8 (Lr ++ [Y j])) := Lib.hid ⟨below_row HB7.out HBs7.out HO7.out hgrow8, OwnL.pushed (by rw [HCK.out, ← HQ.out]; exact hown8)⟩
                 clear hown8 hgrow8))
            exact ⟨⟨_, j + 1, Lr ++ [Y j], by omega, rfl, by go_num, HC8.out, fun x hx => (by
              rcases List.mem_append.1 hx with hx | hx
              · exact HSub.out x hx
              · simp only [List.mem_singleton] at hx; subst hx; exact HYm.out), by rw [List.length_append]; have := HQ.out; simp; omega⟩, by simp [intOf]; omega⟩
        · have hji : ¬ (j : Int) < (l0 : Int) := by omega
          have HLe : Hid (Lr.length ≤ L.length) := Lib.hid (by rw [HLl.out]; omega)
          have HO9 : Hid (OwnL wr w.heap.size 35 72 Tx.cells u Lr) := Lib.hid (HC.out.own.mono HW7.out.size)
          have HBX := Lib.hid (HB7r.out.kept (grownBy_of_below HC.out.below none) (by simp))
          have HRX := Lib.hid (HH.out.below HWr.out).row
          obtain ⟨A9, c9, hu, _, _⟩ := HO9.out.form
          obtain ⟨l9, hl9⟩ : ∃ l9, l9 = Lr.length := ⟨_, rfl⟩
          rw [← hl9] at hu
          subst hu
          clear HC HAt HYF HYM hl9
          go_wp2_with (first
            | ((with_reducible show wpList _ _ _ (⟨_, .store 55 _ _, _, _, _, _⟩ :: _) _ _)
               refine wpList_store_sl17 rfl 55 (.tmp 54) (.tmp 52) rfl B 2 57 [.int .i64 fl, .slice (some ⟨K, 0, none⟩) 64 64, .slice A l0 c] A9 l9 c9 rfl rfl HRX.out (by simp) rfl ?_
               intro w9 hr9 hg9
               have HL9 := Lib.hid (RGAt.left HH.out HWr.out HO9.out HSub.out HLe.out hr9 hg9)
               have HB9 : Hid (Row w9 w.heap.size 35 CT) := Lib.hid (HBX.out.kept hg9 (fun e => by injection e with e; exact row_ne_row HBX.out HRX.out (by decide) e))
               clear hr9 hg9))
          refine region_named 16 (by kernel_rfl) (by kernel_rfl) ?_
          intro w3 hw3
          have hL3 : RGLf w w3 base B K (.slice A l0 c) fl N n := by rw [hw3]; exact HL9.out.below (Below.refl _ _).drew
          have hr3 : Row w3 w.heap.size 35 CT := by rw [hw3]; exact HB9.out
          have h6 := (HBox.out _ hr3).1
          have c1 := hL3.c1
          have cn := hL3.cN fr hfr64
          have hfz := hL3.fr fr
          have HL3 := Lib.hid hL3
          have ewr : IntKind.i64.wrap (nx + 1) = nx + 1 := IntWalk.i64_in _ (by omega)
          clear hw3 hL3 hr3
          rw [HNx.out] at cn
          simp only [List.take_succ_cons, List.take_zero, List.drop_succ_cons, List.drop_zero]
          repeat still_step
          refine wpStill_nil ?_
          go_wp2_with fail
          go_ret
          exact ⟨⟨0, rfl⟩, by rw [← HNx.out]; exact HL3.out.set fr hfr64⟩
    · have hnb : (t.nonce != nx) = true := by simpa using hne
      clear hne
      go_wp2_with fail
      go_quiet (fail)
      go_wp2_with fail
      go_ret
      exact ⟨⟨_, rfl⟩, _, N, L, (HH.out.below (below_drewN' HB5.out _)).mono (Nat.le_succ n), Chg.of_below (below_drewN' HB5.out _), fun k hk => .inl hk⟩
end Go.Proofs.YtoicpidiejhjeaaDoor
