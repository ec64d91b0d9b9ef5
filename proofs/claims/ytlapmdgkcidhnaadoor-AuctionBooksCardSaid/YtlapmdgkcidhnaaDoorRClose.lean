/- The reference's book: Close. -/
import Derived.Test.YtlapmdgkcidhnaaDoorRBk
namespace Go.Proofs.YtlapmdgkcidhnaaDoor
open Go.RowKit Go.Maps
set_option linter.unusedVariables false
set_option linter.unusedSimpArgs false
set_option maxRecDepth 100000

theorem wpList_store_sl {P : Program} {ops : Array Oper} {rest : List Oper} {op : Oper} {a : Act} {w : World} {Q : Exit → Act → World → Prop} (hgd : op.guard = none) (ty : TypeId) (x y : Operand) (ho : op.op = .store ty x y)
    (g i : Nat) (T : TypeId) (xs : List Value) (A : Option Addr) (n c : Nat) (hx : a.eval x = .pointer (some ⟨g, i, none⟩)) (hy : a.eval y = .slice A n c) (hg : Row w g T xs) (hi : i < xs.length) (hs : (P.info? ty).map (·.size) = some 1)
    (K : ∀ w', Row w' g T (xs.set i (.slice A n c)) → w.grownBy w' (some g) → wpList P ops Q rest (a.put op.dst undef) w') : wpList P ops Q (op :: rest) a w := by
  refine wpList_plain hgd fun _ hK => ?_
  have hc := hg.cell i hi
  have hf := hg.free i
  have e : (storeVar ty ⟨g, i, none⟩ (.slice A n c)).run P w = (storeVar ty ⟨g, i, none⟩ (.agg #[.slice A n c])).run P w := by simp [storeVar, Value.cells]
  have hr := run_storeVar_mid (P := P) w g i ty #[.slice A n c] (fun j hj => by
    have : j = 0 := by simp at hj; omega
    subst this
    exact ⟨by rw [Nat.add_zero, hc]; rfl, hf⟩) (by rw [hs]; rfl) (all_oneCell_toArray (cs := [.slice A n c]) (fun v hv => by simp only [List.mem_singleton] at hv; subst hv; rfl))
  obtain ⟨r1, r2⟩ := row_setCells [.slice A n c] i w xs hg (by simp; omega)
  unfold Oper.wp execOp
  simp only [ho, hx, hy, Instr.storeAt, Instr.sureAddr, Sem.run_bind, Sem.run_pure, Result.andThen_ok, e, hr]
  refine hK _ _ (K _ ?_ r2)
  have e2 : xs.take i ++ ([.slice A n c] ++ xs.drop (i + [Value.slice A n c].length)) = xs.set i (.slice A n c) := by
    rw [List.set_eq_take_append_cons_drop, if_pos hi]
    rfl
  rw [← e2]
  exact r1
/-- a book and a bank of the reference's behind a Close -/
structure RCloseTo (w W : World) (base X : Nat) (v : Value) (Y G : Nat) (fl : Int) (L : List Bd) (LK : List Int) (n : Nat) (r : Int) : Prop where
  book : ∃ v', RBookAt W base X v' fl (Au.dropR r L) n ∧ ∀ k, RBkS X v' k → RBkS X v k ∨ w.heap.size ≤ k
  bank : Bn.RefAt W Y G LK
  chg : Chg (fun k => RBkS X v k ∨ k = G) w W
  old : (∀ k, RBkS X v k → k < w.heap.size) ∧ Y < w.heap.size ∧ G < w.heap.size ∧ ¬ RBkS X v Y ∧ ¬ RBkS X v G
theorem Bn.RefAt.below {w w' : World} {Y G : Nat} {LK : List Int} (h : Bn.RefAt w Y G LK) (hb : Below w.heap.size w w') : Bn.RefAt w' Y G LK := h.kept (grownBy_of_below hb none) (by simp) (by simp)
theorem RBookAt.not_row {w : World} {base X n : Nat} {v : Value} {fl : Int} {L : List Bd} (h : RBookAt w base X v fl L n) {k : Nat} {T : TypeId} {xs : List Value} (hr : Row w k T xs) (h1 : T ≠ 47) (h2 : T ≠ 30) : ¬ RBkS X v k := by
  rintro (rfl | hk)
  · exact row_ne_row hr h.row h1 rfl
  · exact h.own.ne_block hr h2 hk
theorem RCloseTo.dropped {w w1 w2 : World} {base X Y G n : Nat} {v v' : Value} {fl r : Int} {L : List Bd} {LK : List Int} (h : RBookAt w base X v fl L n) (hk : Bn.RefAt w Y G LK) (hb : Below w.heap.size w w1) (ho : OwnL w1 w.heap.size 30 36 Bd.cells v' (Au.dropR r L))
    (hr : Row w2 X 47 [.int .i64 fl, v']) (hg : w1.grownBy w2 (some X)) : RCloseTo w w2 base X v Y G fl L LK n r := by
  have h1 := h.below hb
  have hk1 := hk.below hb
  have hbase : base ≤ w.heap.size := Nat.le_trans h.lo (Nat.le_of_lt h.row.lt)
  refine ⟨⟨v', ⟨hr, (ho.mono hbase).kept hg (.inr (ho.ne_block h1.row (by decide))), h.ok.drop r, h.lo⟩, fun k hk => ?_⟩, ?_, ?_, fun k hk => (h.lt k hk).2, hk.1.lt, hk.2.1.lt, h.not_row hk.1 (by decide) (by decide), h.not_row hk.2.1 (by decide) (by decide)⟩
  · rcases hk with rfl | hk
    · exact .inl (.inl rfl)
    · exact .inr (ho.lt k hk).1
  · exact hk1.kept hg (fun e => by injection e with e; exact row_ne_row hk1.1 h1.row (by decide) e) (fun e => by injection e with e; exact row_ne_row hk1.2.1 h1.row (by decide) e)
  · exact (Chg.of_below (S := fun k => RBkS X v k ∨ k = G) hb).trans (S2 := fun k => RBkS X v k ∨ k = G) (Chg.of_grown hg (fun k hk => by cases hk; exact .inl (.inl (.inl rfl)))) (fun i hi => .inl hi)
theorem RCloseTo.put {w W W' : World} {base X Y G n g : Nat} {v : Value} {fl r : Int} {L : List Bd} {LK : List Int} (h : RCloseTo w W base X v Y G fl L LK n r) (hl : w.heap.size ≤ g) {T : TypeId} {xs : List Value} (hr : Row W g T xs) (h1 : T ≠ 47) (h2 : T ≠ 30) (hg : W.grownBy W' (some g)) : RCloseTo w W' base X v Y G fl L LK n r := by
  obtain ⟨v', hb, hs⟩ := h.book
  refine ⟨⟨v', hb.chg (S := fun k => k = g) (Chg.of_grown hg (fun k hk => by cases hk; exact .inl rfl)) (fun k hk e => hb.not_row hr h1 h2 (e ▸ hk)), hs⟩, h.bank.kept hg (fun e => by injection e with e; have := h.old.2.1; omega) (fun e => by injection e with e; have := h.old.2.2.1; omega), ?_, h.old⟩
  exact h.chg.trans (S2 := fun k => k = g) (Chg.of_grown hg (fun k hk => by cases hk; exact .inl rfl)) (fun i hi => .inr (by omega))
theorem RCloseTo.taken {w W W' : World} {base X Y G n : Nat} {v : Value} {fl r : Int} {L : List Bd} {LK LK' : List Int} (h : RCloseTo w W base X v Y G fl L LK n r) (hk : Bn.RefAt W' Y G LK') (hg : W.grownBy W' (some G)) : RCloseTo w W' base X v Y G fl L LK' n r := by
  obtain ⟨v', hb, hs⟩ := h.book
  refine ⟨⟨v', hb.chg (S := fun k => k = G) (Chg.of_grown hg (fun k hk => by cases hk; exact .inl rfl)) (fun k hk e => ?_), hs⟩, hk, ?_, h.old⟩
  · rw [e] at hk
    exact hb.not_row h.bank.2.1 (by decide) (by decide) hk
  · exact h.chg.trans (S2 := fun k => k = G) (Chg.of_grown hg (fun k hk => by cases hk; exact .inl rfl)) (fun i hi => .inl (.inr hi))
namespace Au
theorem dropR_take_succ (r : Int) (L : List Bd) (k : Nat) (hk : k < L.length) : dropR r (L.take (k + 1)) = if (L.getD k Bd.zero).round = r then dropR r (L.take k) else dropR r (L.take k) ++ [L.getD k Bd.zero] := by
  rw [List.take_add_one, List.getElem?_eq_getElem hk, Option.toList_some, List.getD_eq_getElem?_getD, List.getElem?_eq_getElem hk]
  unfold dropR
  rw [List.filter_append]
  by_cases h : L[k].round = r
  · simp [h]
  · simp [h]
theorem dropR_take_len (r : Int) (L : List Bd) (k : Nat) : (dropR r (L.take k)).length ≤ k := by
  refine Nat.le_trans (List.length_filter_le _ _) ?_
  rw [List.length_take]; omega
end Au
set_option maxHeartbeats 6400000 in
theorem rbookClose_any (hRS : RefSum) {w : World} {base X Y G n : Nat} {v : Value} {fl : Int} {L : List Bd} {LK : List Int} (r : Int) (h : RBookAt w base X v fl L n) (hk : Bn.RefAt w Y G LK) (hfl : Tx.fits fl) (hn : n ≤ 1000) :
    Calls Tryd.prog 26 #[.pointer (some ⟨X, 0, none⟩), .int .i64 r, .pointer (some ⟨Y, 0, none⟩)] w fun e w' => e = .returned (Au.winV (Au.winB LK r fl (Au.ofR r L))) ∧ RCloseTo w w' base X v Y G fl L (Au.takeR LK (Au.winB LK r fl (Au.ofR r L))) n r := by
  obtain ⟨i0, hi, h2⟩ := Option.map_eq_some_iff.1 bd_info15
  simp only [Prod.mk.injEq] at h2
  have Hi := Lib.hid hi
  have Hz := Lib.hid h2.1
  have Hsz := Lib.hid h2.2.1
  have Hby := Lib.hid h2.2.2
  clear hi h2
  obtain ⟨A, c, rfl, _, _⟩ := h.own.form
  obtain ⟨l0, hl0⟩ : ∃ l0, L.length = l0 := ⟨_, rfl⟩
  have hl0n : l0 ≤ 1000 := by have := h.ok.len; omega
  rw [hl0] at h ⊢
  have HH := Lib.hid h
  have HBa := Lib.hid hk
  obtain ⟨m, hm⟩ : ∃ m, (Au.ofR r L).length = m := ⟨_, rfl⟩
  have HM := Lib.hid hm
  have HBi : Hid (∀ W, Below w.heap.size w W → Calls Tryd.prog 29 #[.pointer (some ⟨X, 0, none⟩), .int .i64 r] W fun e w' => ∃ v', e = .returned v' ∧ OwnL w' W.heap.size 30 36 Bd.cells v' (Au.ofR r L) ∧ Below W.heap.size W w') := Lib.hid (fun W hW => rbids_any r (HH.out.below hW) hn)
  have hlk64 : LK.length = 64 := HBa.out.2.2.1
  have WN : Hid (∀ W Ab cb bO, Below w.heap.size w W → OwnL W bO 30 36 Bd.cells (.slice Ab m cb) (Au.ofR r L) → Calls Tryd.prog 15 #[.slice Ab m cb, .slice (some ⟨G, 0, none⟩) 64 64, .int .i64 r, .int .i64 fl] W fun e w' => e = .returned (Au.winV (Au.winB LK r fl (Au.ofR r L))) ∧ Below W.heap.size W w') := Lib.hid (fun W Ab cb bO hW hO => by
    have hF : ∀ b ∈ Au.ofR r L, b.Fits := fun b hb => h.ok.fits b (Au.ofR_round hb).2
    have h5 := (hk.below hW).2.1
    have h0 := rwin_any hRS (Au.ofR r L) hF Ab cb LK (some ⟨G, 0, none⟩) 64 r fl W ((hO.lsAt (fun x hx => Bd.cells_len (hF x hx).tag)).bds) (by have := h.ok.few r; omega) (FnIn.row h5 h5.lt) (by omega)
    rw [hlk64, hm] at h0
    exact h0)
  have HFt0 := Au.winB_fits (F := LK) (r := r) (fl := fl) (L := Au.ofR r L) (fun b hb => h.ok.fits b (Au.ofR_round hb).2) hfl
  obtain ⟨R, hR⟩ : ∃ R, R = Au.winB LK r fl (Au.ofR r L) := ⟨_, rfl⟩
  rw [← hR] at WN HFt0 ⊢
  have HFt := Lib.hid HFt0
  obtain ⟨CR, hCR⟩ : ∃ CR, CR = Au.winC R := ⟨_, rfl⟩
  obtain ⟨rb, hrb⟩ : ∃ rb, rb = R.isSome := ⟨_, rfl⟩
  have HR37 : Hid (CR.length = 37) := Lib.hid (by rw [hCR]; exact Au.winC_len HFt.out)
  have HR1 : Hid (∀ v ∈ CR, v.oneCell' = true) := Lib.hid (by rw [hCR]; exact Au.winC_one HFt.out)
  have hwv : Au.winV R = .tuple #[.agg CR.toArray, .bool rb] := by rw [hCR, hrb]; rfl
  rw [hwv] at WN
  have HWV := Lib.hid hwv
  have HCR := Lib.hid hCR
  have HRB := Lib.hid hrb
  have hz := win_zv
  have HZ37 := Lib.hid (Au.wc_len (b := Bd.zero) (p := 0) rfl)
  have Hr0 := Lib.hid (Row.new w 32 (Au.wc Bd.zero 0))
  have Hb0 := Lib.hid ((Below.refl w.heap.size w).alloc (Nat.le_refl _) (.cells (Au.wc Bd.zero 0).toArray 32))
  obtain ⟨T, hTT⟩ : ∃ T : Nat → List Bd, T = fun k => Au.dropR r (L.take k) := ⟨_, rfl⟩
  obtain ⟨Y', hY⟩ : ∃ Y' : Nat → Bd, Y' = fun k => L.getD k Bd.zero := ⟨_, rfl⟩
  have HT0 : Hid (T 0 = []) := Lib.hid (by rw [hTT]; rfl)
  have HTM : Hid (T l0 = Au.dropR r L) := Lib.hid (by rw [hTT, ← hl0]; exact congrArg (Au.dropR r) (List.take_length))
  have HSS : Hid (∀ k, k < l0 → T (k + 1) = if (Y' k).round = r then T k else T k ++ [Y' k]) := Lib.hid (fun k hk => by rw [hTT, hY]; exact Au.dropR_take_succ r L k (by omega))
  have HTL : Hid (∀ k, (T k).length ≤ k) := Lib.hid (fun k => by rw [hTT]; exact Au.dropR_take_len r L k)
  have HYF : Hid (∀ k, k < l0 → (Y' k).Fits) := Lib.hid (fun k hk => by rw [hY]; exact h.ok.fits _ (Au.getD_mem (by omega)))
  have HAt : Hid (∀ k, k < l0 → ∃ g, A = some ⟨g, 0, none⟩ ∧ g < w.heap.size ∧ w.rangeAt g (k * 36) (Y' k).cells) := Lib.hid (fun k hk => by
    obtain ⟨g, c', e, _, hg⟩ := h.own.ne (by intro e; rw [e] at hl0; simp at hl0; omega)
    injection e with e1 e2 e3
    subst e1
    refine ⟨g, rfl, hg, ?_⟩
    have h1 := h.own
    rw [← hl0] at h1
    have h1 := h1.at (fun x hx => Bd.cells_len (h.ok.fits x hx).tag) k (by omega)
    rw [hY]
    show w.rangeAt g (k * 36) (L.getD k Bd.zero).cells
    rw [List.getD_eq_getElem?_getD, List.getElem?_eq_getElem (by omega)]
    exact h1)
  have HZ36 := Lib.hid (Bd.cells_len (b := Bd.zero) rfl)
  generalize Au.wc Bd.zero 0 = WZ at *
  generalize hZB : Bd.zero.cells = ZB at Hz HZ36
  clear h hk hm hfl HFt0 hR hCR hrb hwv hlk64 hRS hl0 hTT hY hn
  go_enter Tryd.func26, Tryd.ntmps26
  go_wp2_with fail
  refine wp_region_held_drew (S := fun w' => Row w' w.heap.size 32 WZ ∧ Below w.heap.size w w') (by kernel_rfl) (⟨Hr0.out.kept (grownBy_drew _ none) (by simp), Hb0.out.drew⟩) (fun hHeld => ?_)
  generalize (w.alloc (.cells WZ.toArray 32)).drew = wq at *
  refine wpAnyH_take (i := 0) (v := .pointer (some ⟨X, 0, none⟩)) rfl (by kernel_rfl) (by kernel_rfl) (by kernel_rfl) (fun _ _ _ h => h) (Or.inl ⟨by rfl, fun w' hSw => by go_simp⟩) hHeld ?_
  try simp only [Act.put, List.getElem_toArray, List.getElem_cons_succ, List.getElem_cons_zero, List.setIfInBounds_toArray, List.set_cons_zero, List.set_cons_succ]
  refine wpAnyH_take (i := 1) (v := .int .i64 r) rfl (by kernel_rfl) (by kernel_rfl) (by kernel_rfl) (fun _ _ _ h => h) (Or.inl ⟨by rfl, fun w' hSw => by go_simp⟩) hHeld ?_
  try simp only [Act.put, List.getElem_toArray, List.getElem_cons_succ, List.getElem_cons_zero, List.setIfInBounds_toArray, List.set_cons_zero, List.set_cons_succ]
  refine wpAnyH_take (i := 3) (v := .pointer (some ⟨Y, 0, none⟩)) rfl (by kernel_rfl) (by kernel_rfl) (by kernel_rfl) (fun _ _ _ h => h) (Or.inl ⟨by rfl, fun w' hSw => by go_simp⟩) hHeld ?_
  try simp only [Act.put, List.getElem_toArray, List.getElem_cons_succ, List.getElem_cons_zero, List.setIfInBounds_toArray, List.set_cons_zero, List.set_cons_succ]
  refine wpAnyH_take (i := 4) (v := .pointer (some ⟨Y, 0, none⟩)) rfl (by kernel_rfl) (by kernel_rfl) (by kernel_rfl) (fun _ _ _ h => h) (Or.inl ⟨by rfl, fun w' hSw => by go_simp⟩) hHeld ?_
  try simp only [Act.put, List.getElem_toArray, List.getElem_cons_succ, List.getElem_cons_zero, List.setIfInBounds_toArray, List.set_cons_zero, List.set_cons_succ]
  refine wpAnyH_take (i := 5) (v := .pointer (some ⟨Y, 0, none⟩)) rfl (by kernel_rfl) (by kernel_rfl) (by kernel_rfl) (fun _ _ _ h => h) (Or.inl ⟨by rfl, fun w' hSw => by go_simp⟩) hHeld ?_
  try simp only [Act.put, List.getElem_toArray, List.getElem_cons_succ, List.getElem_cons_zero, List.setIfInBounds_toArray, List.set_cons_zero, List.set_cons_succ]
  refine wpAnyH_take (i := 6) (v := .slice (some ⟨G, 0, none⟩) 64 64) rfl (by kernel_rfl) (by kernel_rfl) (by kernel_rfl) (fun _ _ _ h => h) (Or.inl ⟨by rfl, fun w' hSw => by have hq := hSw; have q := (HBa.out.below hq.2).1.cell 0 (by simp); simp only [List.getElem_cons_zero] at q; go_simp⟩) hHeld ?_
  try simp only [Act.put, List.getElem_toArray, List.getElem_cons_succ, List.getElem_cons_zero, List.setIfInBounds_toArray, List.set_cons_zero, List.set_cons_succ]
  refine wpAnyH_take (i := 7) (v := .int .i64 r) rfl (by kernel_rfl) (by kernel_rfl) (by kernel_rfl) (fun _ _ _ h => h) (Or.inl ⟨by rfl, fun w' hSw => by go_simp⟩) hHeld ?_
  try simp only [Act.put, List.getElem_toArray, List.getElem_cons_succ, List.getElem_cons_zero, List.setIfInBounds_toArray, List.set_cons_zero, List.set_cons_succ]
  refine wpAnyH_take (i := 8) (v := .pointer (some ⟨X, 0, none⟩)) rfl (by kernel_rfl) (by kernel_rfl) (by kernel_rfl) (fun _ _ _ h => h) (Or.inl ⟨by rfl, fun w' hSw => by go_simp⟩) hHeld ?_
  try simp only [Act.put, List.getElem_toArray, List.getElem_cons_succ, List.getElem_cons_zero, List.setIfInBounds_toArray, List.set_cons_zero, List.set_cons_succ]
  refine wpAnyH_take (i := 9) (v := .pointer (some ⟨X, 0, none⟩)) rfl (by kernel_rfl) (by kernel_rfl) (by kernel_rfl) (fun _ _ _ h => h) (Or.inl ⟨by rfl, fun w' hSw => by go_simp⟩) hHeld ?_
  try simp only [Act.put, List.getElem_toArray, List.getElem_cons_succ, List.getElem_cons_zero, List.setIfInBounds_toArray, List.set_cons_zero, List.set_cons_succ]
  refine wpAnyH_take (i := 10) (v := .pointer (some ⟨X, 0, none⟩)) rfl (by kernel_rfl) (by kernel_rfl) (by kernel_rfl) (fun _ _ _ h => h) (Or.inl ⟨by rfl, fun w' hSw => by go_simp⟩) hHeld ?_
  try simp only [Act.put, List.getElem_toArray, List.getElem_cons_succ, List.getElem_cons_zero, List.setIfInBounds_toArray, List.set_cons_zero, List.set_cons_succ]
  refine wpAnyH_take (i := 11) (v := .int .i64 fl) rfl (by kernel_rfl) (by kernel_rfl) (by kernel_rfl) (fun _ _ _ h => h) (Or.inl ⟨by rfl, fun w' hSw => by have hq := hSw; have q := (HH.out.below hq.2).c0; go_simp⟩) hHeld ?_
  try simp only [Act.put, List.getElem_toArray, List.getElem_cons_succ, List.getElem_cons_zero, List.setIfInBounds_toArray, List.set_cons_zero, List.set_cons_succ]
  refine wpAnyH_ready (rs := [2, 16]) (by kernel_rfl) (by simp) (AllReadyH.cons rfl (fun K1 hK1 => ?_) (AllReadyH.cons rfl (fun K1 hK1 => ?_) AllReadyH.nil))
  · skip
    try simp only [Act.put, List.getElem_toArray, List.getElem_cons_succ, List.getElem_cons_zero, List.setIfInBounds_toArray, List.set_cons_zero, List.set_cons_succ]
    go_simp
    refine Calls.mono (HBi.out _ hHeld.2) ?_
    rintro e wa1 ⟨vb, rfl, hO, hc2⟩
    obtain ⟨Ab, cb, hvb, _, _⟩ := hO.form
    subst hvb
    have HO : Hid (OwnL wa1 wq.heap.size 30 36 Bd.cells (.slice Ab (Au.ofR r L).length cb) (Au.ofR r L)) := Lib.hid hO
    clear hO
    have hHeld2 : Row wa1 w.heap.size 32 WZ ∧ Below w.heap.size w wa1 := ⟨hHeld.1.kept (grownBy_of_below hc2 none) (by simp), two_below' hHeld.2 hc2⟩
    generalize wq.heap.size = bO at *
    rw [HM.out] at *
    refine hK1.out _ _ (hHeld2) (fun hHeld => ?_)
    clear hK1 K1
    try simp only [Act.put, List.getElem_toArray, List.getElem_cons_succ, List.getElem_cons_zero, List.setIfInBounds_toArray, List.set_cons_zero, List.set_cons_succ]
    clear hHeld2
    refine wpAnyH_ready (rs := [12, 16]) (by kernel_rfl) (by simp) (AllReadyH.cons rfl (fun K1 hK1 => ?_) (AllReadyH.cons rfl (fun K1 hK1 => ?_) AllReadyH.nil))
    · skip
      try simp only [Act.put, List.getElem_toArray, List.getElem_cons_succ, List.getElem_cons_zero, List.setIfInBounds_toArray, List.set_cons_zero, List.set_cons_succ]
      go_simp
      refine Calls.mono (WN.out _ _ _ _ hHeld.2 HO.out) ?_
      rintro e wv3 ⟨rfl, hc4⟩
      refine hK1.out _ _ (⟨hHeld.1.kept (grownBy_of_below hc4 none) (by simp), two_below' hHeld.2 hc4⟩) (fun hHeld => ?_)
      clear hK1 K1
      try simp only [Act.put, List.getElem_toArray, List.getElem_cons_succ, List.getElem_cons_zero, List.setIfInBounds_toArray, List.set_cons_zero, List.set_cons_succ]
      refine wpAnyH_take (i := 13) (v := .tuple #[.agg CR.toArray, .bool rb]) rfl (by kernel_rfl) (by kernel_rfl) (by kernel_rfl) (fun _ _ _ h => h) (Or.inl ⟨by rfl, fun w' hSw => by go_simp⟩) hHeld ?_
      try simp only [Act.put, List.getElem_toArray, List.getElem_cons_succ, List.getElem_cons_zero, List.setIfInBounds_toArray, List.set_cons_zero, List.set_cons_succ]
      refine wpAnyH_take (i := 14) (v := .agg CR.toArray) rfl (by kernel_rfl) (by kernel_rfl) (by kernel_rfl) (fun _ _ _ h => h) (Or.inl ⟨by rfl, fun w' hSw => by go_simp⟩) hHeld ?_
      try simp only [Act.put, List.getElem_toArray, List.getElem_cons_succ, List.getElem_cons_zero, List.setIfInBounds_toArray, List.set_cons_zero, List.set_cons_succ]
      refine wpAnyH_take (i := 15) (v := .bool rb) rfl (by kernel_rfl) (by kernel_rfl) (by kernel_rfl) (fun _ _ _ h => h) (Or.inl ⟨by rfl, fun w' hSw => by go_simp⟩) hHeld ?_
      try simp only [Act.put, List.getElem_toArray, List.getElem_cons_succ, List.getElem_cons_zero, List.setIfInBounds_toArray, List.set_cons_zero, List.set_cons_succ]
      refine wpAnyH_ready (rs := [16]) (by kernel_rfl) (by simp) (AllReadyH.cons rfl (fun K1 hK1 => ?_) AllReadyH.nil)
      try simp only [Act.put, List.getElem_toArray, List.getElem_cons_succ, List.getElem_cons_zero, List.setIfInBounds_toArray, List.set_cons_zero, List.set_cons_succ]
      go_simp
      have hd6 := (Below.refl wv3.heap.size wv3).alloc (Nat.le_refl _) (.cells WZ.toArray 32)
      have hHeld2 : Row (wv3.alloc (.cells WZ.toArray 32)) w.heap.size 32 WZ ∧ Below w.heap.size w (wv3.alloc (.cells WZ.toArray 32)) := ⟨hHeld.1.kept (grownBy_of_below hd6 none) (by simp), two_below' hHeld.2 hd6⟩
      have H8 : Hid (Row (wv3.alloc (.cells WZ.toArray 32)) wv3.heap.size 32 WZ) := Lib.hid (Row.new wv3 32 _)
      have N8 : Hid (w.heap.size ≠ wv3.heap.size ∧ w.heap.size ≤ wv3.heap.size) := Lib.hid ⟨by have := hHeld.1.lt; omega, hHeld.2.size⟩
      generalize wv3.alloc (.cells WZ.toArray 32) = wz5 at *
      generalize hg8 : wv3.heap.size = g8 at *
      clear hg8
      refine hK1.out _ _ (hHeld2) (fun hHeld => ?_)
      clear hK1 K1
      try simp only [Act.put, List.getElem_toArray, List.getElem_cons_succ, List.getElem_cons_zero, List.setIfInBounds_toArray, List.set_cons_zero, List.set_cons_succ]
      clear hHeld2
      refine wpAnyH_ready (rs := [17]) (by kernel_rfl) (by simp) (AllReadyH.cons rfl (fun K1 hK1 => ?_) AllReadyH.nil)
      try simp only [Act.put, List.getElem_toArray, List.getElem_cons_succ, List.getElem_cons_zero, List.setIfInBounds_toArray, List.set_cons_zero, List.set_cons_succ]
      rw [if_pos (by rfl)]
      refine wp_store_at 32 (.tmp 8) (.tmp 26) rfl g8 0 CR WZ 32 rfl rfl H8.out (by rw [HR37.out, HZ37.out]; omega) (by rw [win_size, HR37.out]) HR1.out ?_
      intro ws7 hrS hgS
      rw [splice_all (HR37.out.trans HZ37.out.symm)] at hrS
      have hHeld2 : Row ws7 w.heap.size 32 WZ ∧ Below w.heap.size w ws7 := ⟨hHeld.1.kept hgS (fun e => by injection e with e; exact N8.out.1 e), below_own hHeld.2 hgS (fun k hk => by cases hk; exact N8.out.2)⟩
      have HBl : Hid (Blocks w ws7 [(g8, 32, CR), (w.heap.size, 32, WZ)]) := Lib.hid (((Blocks.nil hHeld2.2).cons hHeld2.1).cons hrS)
      clear hrS hgS
      refine hK1.out _ _ (hHeld2) (fun hHeld => ?_)
      clear hK1 K1
      try simp only [Act.put, List.getElem_toArray, List.getElem_cons_succ, List.getElem_cons_zero, List.setIfInBounds_toArray, List.set_cons_zero, List.set_cons_succ]
      clear hHeld2
      refine wpAnyH_take (i := 18) (v := .bool rb) rfl (by kernel_rfl) (by kernel_rfl) (by kernel_rfl) (fun _ _ _ h => h) (Or.inl ⟨by rfl, fun w' hSw => by go_simp⟩) hHeld ?_
      try simp only [Act.put, List.getElem_toArray, List.getElem_cons_succ, List.getElem_cons_zero, List.setIfInBounds_toArray, List.set_cons_zero, List.set_cons_succ]
      refine wpAnyH_done (by kernel_rfl) ?_ _
      clear hHeld H8 N8
      have HWb := Lib.hid HBl.out.1
      have HR8w := Lib.hid HBl.out.hd
      have HR6w := Lib.hid HBl.out.tl.hd
      clear HBl
      generalize ws7 = WW at *
      go_wp2_with fail
      go_loopw [10, 11] (fun s10 s11 wr => ∃ (u : Value) (k : Nat), k ≤ l0 ∧ u = s10 ∧ s11 = .int .i64 k ∧ RcAt WW wr u (T k)) (fun _ i _ => l0 - (intOf i).toNat)
      case atStart => exact ⟨_, 0, Nat.zero_le _, rfl, rfl, by rw [HT0.out]; exact ⟨Below.refl _ _, OwnL.nil _ _ _ _ _⟩⟩
      case round =>
        obtain ⟨u, k, hk, rfl, rfl, hC⟩ := hrel
        have HC := Lib.hid hC
        have HWr := Lib.hid (two_below' HWb.out hC.below)
        have c1 := (HH.out.below HWr.out).c1
        clear hC
        by_cases hkm : k < l0
        · have hki : (k : Int) < (l0 : Int) := by omega
          have hk0 : (0 : Int) ≤ (k : Int) := by omega
          obtain ⟨g, rfl, hg, hat⟩ := HAt.out k hkm
          have HRr : Hid (wr.rangeAt g (k * 36) (Y' k).cells) := Lib.hid (fun j u hu => (HWr.out.cell (p := ⟨g, k * 36 + j, none⟩) hg).trans (hat j u hu))
          have HFt' := Lib.hid (HYF.out k hkm)
          have HK36 := Lib.hid (Bd.cells_len HFt'.out.tag)
          have HK1 := Lib.hid (Bd.cells_one HFt'.out.tag)
          have HS := Lib.hid (HSS.out k hkm)
          have hTLk := HTL.out k
          have e0 : wr.cell? ⟨g, k * 36, none⟩ = some (.int .i64 (Y' k).round) := by have := HRr.out 0 (.int .i64 (Y' k).round) rfl; simpa using this
          obtain ⟨A1, c1', rfl, hlc, hcm⟩ := HC.out.own.form
          obtain ⟨q, hq⟩ : ∃ q, q = (T k).length := ⟨_, rfl⟩
          have hqk : q ≤ k := by rw [hq]; exact hTLk
          have hk63 : q + 1 ≤ maxLen := by unfold maxLen; omega
          have hk48 : ((q + 1) + (q + 1) / 4 + 192) * 64 ≤ 281474976710656 := by omega
          rw [← hq] at hlc HC ⊢
          have HQ := Lib.hid hq
          clear hq hat HAt HSS HTL HYF hTLk
          obtain ⟨CK, hCK⟩ : ∃ CK, (Y' k).cells = CK := ⟨_, rfl⟩
          rw [hCK] at HRr HK36 HK1
          have HCK := Lib.hid hCK
          clear hCK
          obtain ⟨yr, hyr⟩ : ∃ yr, (Y' k).round = yr := ⟨_, rfl⟩
          rw [hyr] at e0 HS
          clear hyr
          by_cases hr : yr = r
          · have hrb : (yr != r) = false := by simpa using hr
            have HS1 : Hid (T (k + 1) = T k) := Lib.hid (by rw [HS.out, if_pos hr])
            clear hr HS
            go_wp2_with fail
            exact ⟨⟨_, k + 1, by omega, rfl, by go_num, by rw [HS1.out]; exact HC.out⟩, by simp [intOf]; omega⟩
          · have hrb : (yr != r) = true := by simpa using hr
            have HS1 : Hid (T (k + 1) = T k ++ [Y' k]) := Lib.hid (by rw [HS.out, if_neg hr])
            clear hr HS
            have hbn := (Below.refl wr.heap.size wr).alloc (Nat.le_refl _) (.cells CK.toArray 30)
            have HNew := Lib.hid (row_news (Row.new wr 30 CK))
            have HO7 := Lib.hid (HC.out.own.own.alloc (.cells CK.toArray 30))
            rw [← HQ.out] at HO7
            have HB7 := Lib.hid (two_below' HC.out.below hbn)
            have HBs7 := Lib.hid HB7.out.size
            clear hbn
            go_wp2_with (first
              | ((with_reducible show wpList _ _ _ (⟨_, .load 30 (.tmp 53), _, _, _, _⟩ :: _) _ _); refine wpList_load_tx rfl 30 (.tmp 53) rfl g (k * 36) (by first | rfl | simp) CK _ (HRr.out) Tryd.underlying30 rfl (by rw [bid_info, HK36.out]) ?_)
              | ((with_reducible show wpList _ _ _ (⟨_, .buildSlice 22 _ _, _, _, _, _⟩ :: _) _ _); refine wpList_buildSliceL rfl 22 30 1 [(0, .tmp 54)] rfl (some 55) rfl [(0, .agg CK.toArray)] rfl CK.toArray i0 (.agg ZB.toArray) 36 Tryd.underlying22 Hi.out Hz.out Hsz.out (by decide) (by decide) (fill_one15 36 _ CK HK36.out) ?_)
              | (at_builtin
                 refine wpList_append_own_wide _ rfl (.tmp 47) (.tmp 55) 22 rfl WW.heap.size 30 i0 (.agg ZB.toArray) 36 64 Tryd.underlying22 Hi.out Hz.out Hsz.out Hby.out (by rw [← HZ36.out]; rfl) (by decide) _ _ _ rfl HO7.out ⟨wr.heap.size, 0, none⟩ 1 1 CK rfl (by rw [HK36.out]) HNew.out HK1.out hk63 hk48 HBs7.out ?_
                 intro v8 w8 hown8 hgrow8 _
                 have HC8 : Hid (RcAt WW w8 v8 (T k ++ [Y' k])) := Lib.hid ⟨below_row HB7.out HBs7.out HO7.out hgrow8, OwnL.pushed (by rw [HCK.out, ← HQ.out]; exact hown8)⟩
                 clear hown8 hgrow8))
            exact ⟨⟨_, k + 1, by omega, rfl, by go_num, by rw [HS1.out]; exact HC8.out⟩, by simp [intOf]; omega⟩
        · have hki : ¬ (k : Int) < (l0 : Int) := by omega
          have e : l0 = k := by omega
          subst e
          have HO9' : Hid (OwnL wr w.heap.size 30 36 Bd.cells u (Au.dropR r L)) := Lib.hid (by
            have h1 := HC.out.own.mono HWb.out.size
            rw [HTM.out] at h1
            exact h1)
          have HR8r := Lib.hid (HR8w.out.kept (grownBy_of_below HC.out.below none) (by simp))
          have HR6r := Lib.hid (HR6w.out.kept (grownBy_of_below HC.out.below none) (by simp))
          have HRX := Lib.hid (HH.out.below HWr.out).row
          obtain ⟨A9, c9, hu, _, _⟩ := HO9'.out.form
          obtain ⟨l9, hl9⟩ : ∃ l9, l9 = (Au.dropR r L).length := ⟨_, rfl⟩
          rw [← hl9] at hu
          subst hu
          have HO9 := HO9'
          clear HC HAt HSS HTL HYF HT0 HTM HR8w HR6w HO9' hl9 WN
          cases R with
          | none =>
            have hrb : rb = false := HRB.out
            subst hrb
            go_wp2_with (first
              | ((with_reducible show wpList _ _ _ (⟨_, .store 22 _ _, _, _, _, _⟩ :: _) _ _)
                 refine wpList_store_sl rfl 22 (.tmp 60) (.tmp 58) rfl X 1 47 [.int .i64 fl, .slice A l0 c] A9 l9 c9 rfl rfl HRX.out (by simp) rfl ?_
                 intro w2 hr2 hg2
                 have HC2 := Lib.hid (RCloseTo.dropped HH.out HBa.out HWr.out HO9.out hr2 hg2)
                 have HR8 : Hid (Row w2 g8 32 CR) := Lib.hid (HR8r.out.kept hg2 (fun e => by injection e with e; exact row_ne_row HR8r.out HRX.out (by decide) e))
                 have HR6 : Hid (Row w2 w.heap.size 32 WZ) := Lib.hid (HR6r.out.kept hg2 (fun e => by injection e with e; exact row_ne_row HR6r.out HRX.out (by decide) e))
                 skip
                 clear hr2 hg2)
              | ((with_reducible show wpList _ _ _ (⟨_, .load 32 (.tmp 8), _, _, _, _⟩ :: _) _ _); refine wpList_load_tx rfl 32 (.tmp 8) rfl g8 0 (rfl) CR _ (row_range HR8.out) Tryd.underlying32 rfl (by rw [win_size, HR37.out]) ?_)
              | (
                 with_reducible show wpList _ _ _ (⟨_, .store 32 (.tmp 6) _, _, _, _, _⟩ :: _) _ _
                 refine wpList_store_at rfl 32 (.tmp 6) (.tmp 69) rfl w.heap.size 0 CR WZ _ rfl rfl (HR6.out) (by have := HZ37.out; have := HR37.out; omega) (by rw [win_size, HR37.out]) HR1.out ?_
                 intro wl hr hg
                 rw [splice_all (HR37.out.trans HZ37.out.symm)] at hr
                 have HrL := Lib.hid hr
                 have HFin := Lib.hid (RCloseTo.put HC2.out (Nat.le_refl _) HR6.out (by decide) (by decide) hg)
                 clear hr hg))
            refine bodyPost_ret (results_rowL rfl _ _ w.heap.size 32 _ _ rfl HrL.out Tryd.underlying32 rfl (by rw [win_size, List.size_toArray, HR37.out]) _ rfl) rfl ⟨?_, HFin.out⟩
            rw [HWV.out]
            rfl
          | some bp =>
            obtain ⟨b, p⟩ := bp
            have hrb : rb = true := HRB.out
            subst hrb
            have HC8 : Hid (∀ W g, Row W g 32 CR → W.cell? ⟨g, 1, none⟩ = some (.int .i64 b.who) ∧ W.cell? ⟨g, 36, none⟩ = some (.int .i64 p)) := Lib.hid (fun W g h => by
              have hcr : CR = Au.wc b p := HCR.out
              rw [hcr] at h
              have h1 := row_range h
              have h2 : W.rangeAt g 0 b.cells := range_head h1
              have h36 := Bd.cells_len HFt.out.1.tag
              have h3 := h1 36 (.int .i64 p) (by unfold Au.wc; rw [List.getElem?_append_right (by rw [h36]; omega), h36]; rfl)
              have a1 := h2 1 _ rfl
              rw [Nat.zero_add] at a1 h3
              exact ⟨a1, h3⟩)
            go_wp2_with (first
              | ((with_reducible show wpList _ _ _ (⟨_, .store 22 _ _, _, _, _, _⟩ :: _) _ _)
                 refine wpList_store_sl rfl 22 (.tmp 60) (.tmp 58) rfl X 1 47 [.int .i64 fl, .slice A l0 c] A9 l9 c9 rfl rfl HRX.out (by simp) rfl ?_
                 intro w2 hr2 hg2
                 have HC2 := Lib.hid (RCloseTo.dropped HH.out HBa.out HWr.out HO9.out hr2 hg2)
                 have HR8 : Hid (Row w2 g8 32 CR) := Lib.hid (HR8r.out.kept hg2 (fun e => by injection e with e; exact row_ne_row HR8r.out HRX.out (by decide) e))
                 have HR6 : Hid (Row w2 w.heap.size 32 WZ) := Lib.hid (HR6r.out.kept hg2 (fun e => by injection e with e; exact row_ne_row HR6r.out HRX.out (by decide) e))
                 have qq := HC8.out _ _ HR8.out
                 have q1 := qq.1
                 have q36 := qq.2
                 clear qq
                 clear hr2 hg2))
            refine (Bn.refTake_any b.who p _ Y G LK HC2.out.bank).mono ?_
            rintro _ w9 ⟨rfl, hk9, hg9⟩
            have HC9 := Lib.hid (HC2.out.taken hk9 hg9)
            have HR89 := Lib.hid (HR8.out.kept hg9 (fun e => by injection e with e; exact row_ne_row HR8.out HC2.out.bank.2.1 (by decide) e))
            have HR69 := Lib.hid (HR6.out.kept hg9 (fun e => by injection e with e; exact row_ne_row HR6.out HC2.out.bank.2.1 (by decide) e))
            clear hk9 hg9 q1 q36
            go_wp2_with (first
              | ((with_reducible show wpList _ _ _ (⟨_, .load 32 (.tmp 8), _, _, _, _⟩ :: _) _ _); refine wpList_load_tx rfl 32 (.tmp 8) rfl g8 0 (rfl) CR _ (row_range HR89.out) Tryd.underlying32 rfl (by rw [win_size, HR37.out]) ?_)
              | (
                 with_reducible show wpList _ _ _ (⟨_, .store 32 (.tmp 6) _, _, _, _, _⟩ :: _) _ _
                 refine wpList_store_at rfl 32 (.tmp 6) (.tmp 69) rfl w.heap.size 0 CR WZ _ rfl rfl (HR69.out) (by have := HZ37.out; have := HR37.out; omega) (by rw [win_size, HR37.out]) HR1.out ?_
                 intro wl hr hg
                 rw [splice_all (HR37.out.trans HZ37.out.symm)] at hr
                 have HrL := Lib.hid hr
                 have HFin := Lib.hid (RCloseTo.put HC9.out (Nat.le_refl _) HR69.out (by decide) (by decide) hg)
                 clear hr hg))
            refine bodyPost_ret (results_rowL rfl _ _ w.heap.size 32 _ _ rfl HrL.out Tryd.underlying32 rfl (by rw [win_size, List.size_toArray, HR37.out]) _ rfl) rfl ⟨?_, HFin.out⟩
            rw [HWV.out]
            rfl
    · skip
      try simp only [Act.put, List.getElem_toArray, List.getElem_cons_succ, List.getElem_cons_zero, List.setIfInBounds_toArray, List.set_cons_zero, List.set_cons_succ]
      go_simp
      have hd9 := (Below.refl wa1.heap.size wa1).alloc (Nat.le_refl _) (.cells WZ.toArray 32)
      replace HO := Lib.hid (HO.out.below hd9)
      have hHeld2 : Row (wa1.alloc (.cells WZ.toArray 32)) w.heap.size 32 WZ ∧ Below w.heap.size w (wa1.alloc (.cells WZ.toArray 32)) := ⟨hHeld.1.kept (grownBy_of_below hd9 none) (by simp), two_below' hHeld.2 hd9⟩
      have H8 : Hid (Row (wa1.alloc (.cells WZ.toArray 32)) wa1.heap.size 32 WZ) := Lib.hid (Row.new wa1 32 _)
      have N8 : Hid (w.heap.size ≠ wa1.heap.size ∧ w.heap.size ≤ wa1.heap.size) := Lib.hid ⟨by have := hHeld.1.lt; omega, hHeld.2.size⟩
      generalize wa1.alloc (.cells WZ.toArray 32) = wz8 at *
      generalize hg8 : wa1.heap.size = g8 at *
      clear hg8
      refine hK1.out _ _ (hHeld2) (fun hHeld => ?_)
      clear hK1 K1
      try simp only [Act.put, List.getElem_toArray, List.getElem_cons_succ, List.getElem_cons_zero, List.setIfInBounds_toArray, List.set_cons_zero, List.set_cons_succ]
      clear hHeld2
      refine wpAnyH_ready (rs := [12]) (by kernel_rfl) (by simp) (AllReadyH.cons rfl (fun K1 hK1 => ?_) AllReadyH.nil)
      try simp only [Act.put, List.getElem_toArray, List.getElem_cons_succ, List.getElem_cons_zero, List.setIfInBounds_toArray, List.set_cons_zero, List.set_cons_succ]
      go_simp
      refine Calls.mono (WN.out _ _ _ _ hHeld.2 HO.out) ?_
      rintro e wv10 ⟨rfl, hc11⟩
      replace H8 := Lib.hid (H8.out.kept (grownBy_of_below hc11 none) (by simp))
      refine hK1.out _ _ (⟨hHeld.1.kept (grownBy_of_below hc11 none) (by simp), two_below' hHeld.2 hc11⟩) (fun hHeld => ?_)
      clear hK1 K1
      try simp only [Act.put, List.getElem_toArray, List.getElem_cons_succ, List.getElem_cons_zero, List.setIfInBounds_toArray, List.set_cons_zero, List.set_cons_succ]
      refine wpAnyH_take (i := 13) (v := .tuple #[.agg CR.toArray, .bool rb]) rfl (by kernel_rfl) (by kernel_rfl) (by kernel_rfl) (fun _ _ _ h => h) (Or.inl ⟨by rfl, fun w' hSw => by go_simp⟩) hHeld ?_
      try simp only [Act.put, List.getElem_toArray, List.getElem_cons_succ, List.getElem_cons_zero, List.setIfInBounds_toArray, List.set_cons_zero, List.set_cons_succ]
      refine wpAnyH_take (i := 14) (v := .agg CR.toArray) rfl (by kernel_rfl) (by kernel_rfl) (by kernel_rfl) (fun _ _ _ h => h) (Or.inl ⟨by rfl, fun w' hSw => by go_simp⟩) hHeld ?_
      try simp only [Act.put, List.getElem_toArray, List.getElem_cons_succ, List.getElem_cons_zero, List.setIfInBounds_toArray, List.set_cons_zero, List.set_cons_succ]
      refine wpAnyH_take (i := 15) (v := .bool rb) rfl (by kernel_rfl) (by kernel_rfl) (by kernel_rfl) (fun _ _ _ h => h) (Or.inl ⟨by rfl, fun w' hSw => by go_simp⟩) hHeld ?_
      try simp only [Act.put, List.getElem_toArray, List.getElem_cons_succ, List.getElem_cons_zero, List.setIfInBounds_toArray, List.set_cons_zero, List.set_cons_succ]
      refine wpAnyH_ready (rs := [17]) (by kernel_rfl) (by simp) (AllReadyH.cons rfl (fun K1 hK1 => ?_) AllReadyH.nil)
      try simp only [Act.put, List.getElem_toArray, List.getElem_cons_succ, List.getElem_cons_zero, List.setIfInBounds_toArray, List.set_cons_zero, List.set_cons_succ]
      rw [if_pos (by rfl)]
      refine wp_store_at 32 (.tmp 8) (.tmp 26) rfl g8 0 CR WZ 32 rfl rfl H8.out (by rw [HR37.out, HZ37.out]; omega) (by rw [win_size, HR37.out]) HR1.out ?_
      intro ws12 hrS hgS
      rw [splice_all (HR37.out.trans HZ37.out.symm)] at hrS
      have hHeld2 : Row ws12 w.heap.size 32 WZ ∧ Below w.heap.size w ws12 := ⟨hHeld.1.kept hgS (fun e => by injection e with e; exact N8.out.1 e), below_own hHeld.2 hgS (fun k hk => by cases hk; exact N8.out.2)⟩
      have HBl : Hid (Blocks w ws12 [(g8, 32, CR), (w.heap.size, 32, WZ)]) := Lib.hid (((Blocks.nil hHeld2.2).cons hHeld2.1).cons hrS)
      clear hrS hgS
      refine hK1.out _ _ (hHeld2) (fun hHeld => ?_)
      clear hK1 K1
      try simp only [Act.put, List.getElem_toArray, List.getElem_cons_succ, List.getElem_cons_zero, List.setIfInBounds_toArray, List.set_cons_zero, List.set_cons_succ]
      clear hHeld2
      refine wpAnyH_take (i := 18) (v := .bool rb) rfl (by kernel_rfl) (by kernel_rfl) (by kernel_rfl) (fun _ _ _ h => h) (Or.inl ⟨by rfl, fun w' hSw => by go_simp⟩) hHeld ?_
      try simp only [Act.put, List.getElem_toArray, List.getElem_cons_succ, List.getElem_cons_zero, List.setIfInBounds_toArray, List.set_cons_zero, List.set_cons_succ]
      refine wpAnyH_done (by kernel_rfl) ?_ _
      clear hHeld H8 N8
      have HWb := Lib.hid HBl.out.1
      have HR8w := Lib.hid HBl.out.hd
      have HR6w := Lib.hid HBl.out.tl.hd
      clear HBl
      generalize ws12 = WW at *
      go_wp2_with fail
      go_loopw [10, 11] (fun s10 s11 wr => ∃ (u : Value) (k : Nat), k ≤ l0 ∧ u = s10 ∧ s11 = .int .i64 k ∧ RcAt WW wr u (T k)) (fun _ i _ => l0 - (intOf i).toNat)
      case atStart => exact ⟨_, 0, Nat.zero_le _, rfl, rfl, by rw [HT0.out]; exact ⟨Below.refl _ _, OwnL.nil _ _ _ _ _⟩⟩
      case round =>
        obtain ⟨u, k, hk, rfl, rfl, hC⟩ := hrel
        have HC := Lib.hid hC
        have HWr := Lib.hid (two_below' HWb.out hC.below)
        have c1 := (HH.out.below HWr.out).c1
        clear hC
        by_cases hkm : k < l0
        · have hki : (k : Int) < (l0 : Int) := by omega
          have hk0 : (0 : Int) ≤ (k : Int) := by omega
          obtain ⟨g, rfl, hg, hat⟩ := HAt.out k hkm
          have HRr : Hid (wr.rangeAt g (k * 36) (Y' k).cells) := Lib.hid (fun j u hu => (HWr.out.cell (p := ⟨g, k * 36 + j, none⟩) hg).trans (hat j u hu))
          have HFt' := Lib.hid (HYF.out k hkm)
          have HK36 := Lib.hid (Bd.cells_len HFt'.out.tag)
          have HK1 := Lib.hid (Bd.cells_one HFt'.out.tag)
          have HS := Lib.hid (HSS.out k hkm)
          have hTLk := HTL.out k
          have e0 : wr.cell? ⟨g, k * 36, none⟩ = some (.int .i64 (Y' k).round) := by have := HRr.out 0 (.int .i64 (Y' k).round) rfl; simpa using this
          obtain ⟨A1, c1', rfl, hlc, hcm⟩ := HC.out.own.form
          obtain ⟨q, hq⟩ : ∃ q, q = (T k).length := ⟨_, rfl⟩
          have hqk : q ≤ k := by rw [hq]; exact hTLk
          have hk63 : q + 1 ≤ maxLen := by unfold maxLen; omega
          have hk48 : ((q + 1) + (q + 1) / 4 + 192) * 64 ≤ 281474976710656 := by omega
          rw [← hq] at hlc HC ⊢
          have HQ := Lib.hid hq
          clear hq hat HAt HSS HTL HYF hTLk
          obtain ⟨CK, hCK⟩ : ∃ CK, (Y' k).cells = CK := ⟨_, rfl⟩
          rw [hCK] at HRr HK36 HK1
          have HCK := Lib.hid hCK
          clear hCK
          obtain ⟨yr, hyr⟩ : ∃ yr, (Y' k).round = yr := ⟨_, rfl⟩
          rw [hyr] at e0 HS
          clear hyr
          by_cases hr : yr = r
          · have hrb : (yr != r) = false := by simpa using hr
            have HS1 : Hid (T (k + 1) = T k) := Lib.hid (by rw [HS.out, if_pos hr])
            clear hr HS
            go_wp2_with fail
            exact ⟨⟨_, k + 1, by omega, rfl, by go_num, by rw [HS1.out]; exact HC.out⟩, by simp [intOf]; omega⟩
          · have hrb : (yr != r) = true := by simpa using hr
            have HS1 : Hid (T (k + 1) = T k ++ [Y' k]) := Lib.hid (by rw [HS.out, if_neg hr])
            clear hr HS
            have hbn := (Below.refl wr.heap.size wr).alloc (Nat.le_refl _) (.cells CK.toArray 30)
            have HNew := Lib.hid (row_news (Row.new wr 30 CK))
            have HO7 := Lib.hid (HC.out.own.own.alloc (.cells CK.toArray 30))
            rw [← HQ.out] at HO7
            have HB7 := Lib.hid (two_below' HC.out.below hbn)
            have HBs7 := Lib.hid HB7.out.size
            clear hbn
            go_wp2_with (first
              | ((with_reducible show wpList _ _ _ (⟨_, .load 30 (.tmp 53), _, _, _, _⟩ :: _) _ _); refine wpList_load_tx rfl 30 (.tmp 53) rfl g (k * 36) (by first | rfl | simp) CK _ (HRr.out) Tryd.underlying30 rfl (by rw [bid_info, HK36.out]) ?_)
              | ((with_reducible show wpList _ _ _ (⟨_, .buildSlice 22 _ _, _, _, _, _⟩ :: _) _ _); refine wpList_buildSliceL rfl 22 30 1 [(0, .tmp 54)] rfl (some 55) rfl [(0, .agg CK.toArray)] rfl CK.toArray i0 (.agg ZB.toArray) 36 Tryd.underlying22 Hi.out Hz.out Hsz.out (by decide) (by decide) (fill_one15 36 _ CK HK36.out) ?_)
              | (at_builtin
                 refine wpList_append_own_wide _ rfl (.tmp 47) (.tmp 55) 22 rfl WW.heap.size 30 i0 (.agg ZB.toArray) 36 64 Tryd.underlying22 Hi.out Hz.out Hsz.out Hby.out (by rw [← HZ36.out]; rfl) (by decide) _ _ _ rfl HO7.out ⟨wr.heap.size, 0, none⟩ 1 1 CK rfl (by rw [HK36.out]) HNew.out HK1.out hk63 hk48 HBs7.out ?_
                 intro v8 w8 hown8 hgrow8 _
                 have HC8 : Hid (RcAt WW w8 v8 (T k ++ [Y' k])) := Lib.hid ⟨below_row HB7.out HBs7.out HO7.out hgrow8, OwnL.pushed (by rw [HCK.out, ← HQ.out]; exact hown8)⟩
                 clear hown8 hgrow8))
            exact ⟨⟨_, k + 1, by omega, rfl, by go_num, by rw [HS1.out]; exact HC8.out⟩, by simp [intOf]; omega⟩
        · have hki : ¬ (k : Int) < (l0 : Int) := by omega
          have e : l0 = k := by omega
          subst e
          have HO9' : Hid (OwnL wr w.heap.size 30 36 Bd.cells u (Au.dropR r L)) := Lib.hid (by
            have h1 := HC.out.own.mono HWb.out.size
            rw [HTM.out] at h1
            exact h1)
          have HR8r := Lib.hid (HR8w.out.kept (grownBy_of_below HC.out.below none) (by simp))
          have HR6r := Lib.hid (HR6w.out.kept (grownBy_of_below HC.out.below none) (by simp))
          have HRX := Lib.hid (HH.out.below HWr.out).row
          obtain ⟨A9, c9, hu, _, _⟩ := HO9'.out.form
          obtain ⟨l9, hl9⟩ : ∃ l9, l9 = (Au.dropR r L).length := ⟨_, rfl⟩
          rw [← hl9] at hu
          subst hu
          have HO9 := HO9'
          clear HC HAt HSS HTL HYF HT0 HTM HR8w HR6w HO9' hl9 WN
          cases R with
          | none =>
            have hrb : rb = false := HRB.out
            subst hrb
            go_wp2_with (first
              | ((with_reducible show wpList _ _ _ (⟨_, .store 22 _ _, _, _, _, _⟩ :: _) _ _)
                 refine wpList_store_sl rfl 22 (.tmp 60) (.tmp 58) rfl X 1 47 [.int .i64 fl, .slice A l0 c] A9 l9 c9 rfl rfl HRX.out (by simp) rfl ?_
                 intro w2 hr2 hg2
                 have HC2 := Lib.hid (RCloseTo.dropped HH.out HBa.out HWr.out HO9.out hr2 hg2)
                 have HR8 : Hid (Row w2 g8 32 CR) := Lib.hid (HR8r.out.kept hg2 (fun e => by injection e with e; exact row_ne_row HR8r.out HRX.out (by decide) e))
                 have HR6 : Hid (Row w2 w.heap.size 32 WZ) := Lib.hid (HR6r.out.kept hg2 (fun e => by injection e with e; exact row_ne_row HR6r.out HRX.out (by decide) e))
                 skip
                 clear hr2 hg2)
              | ((with_reducible show wpList _ _ _ (⟨_, .load 32 (.tmp 8), _, _, _, _⟩ :: _) _ _); refine wpList_load_tx rfl 32 (.tmp 8) rfl g8 0 (rfl) CR _ (row_range HR8.out) Tryd.underlying32 rfl (by rw [win_size, HR37.out]) ?_)
              | (
                 with_reducible show wpList _ _ _ (⟨_, .store 32 (.tmp 6) _, _, _, _, _⟩ :: _) _ _
                 refine wpList_store_at rfl 32 (.tmp 6) (.tmp 69) rfl w.heap.size 0 CR WZ _ rfl rfl (HR6.out) (by have := HZ37.out; have := HR37.out; omega) (by rw [win_size, HR37.out]) HR1.out ?_
                 intro wl hr hg
                 rw [splice_all (HR37.out.trans HZ37.out.symm)] at hr
                 have HrL := Lib.hid hr
                 have HFin := Lib.hid (RCloseTo.put HC2.out (Nat.le_refl _) HR6.out (by decide) (by decide) hg)
                 clear hr hg))
            refine bodyPost_ret (results_rowL rfl _ _ w.heap.size 32 _ _ rfl HrL.out Tryd.underlying32 rfl (by rw [win_size, List.size_toArray, HR37.out]) _ rfl) rfl ⟨?_, HFin.out⟩
            rw [HWV.out]
            rfl
          | some bp =>
            obtain ⟨b, p⟩ := bp
            have hrb : rb = true := HRB.out
            subst hrb
            have HC8 : Hid (∀ W g, Row W g 32 CR → W.cell? ⟨g, 1, none⟩ = some (.int .i64 b.who) ∧ W.cell? ⟨g, 36, none⟩ = some (.int .i64 p)) := Lib.hid (fun W g h => by
              have hcr : CR = Au.wc b p := HCR.out
              rw [hcr] at h
              have h1 := row_range h
              have h2 : W.rangeAt g 0 b.cells := range_head h1
              have h36 := Bd.cells_len HFt.out.1.tag
              have h3 := h1 36 (.int .i64 p) (by unfold Au.wc; rw [List.getElem?_append_right (by rw [h36]; omega), h36]; rfl)
              have a1 := h2 1 _ rfl
              rw [Nat.zero_add] at a1 h3
              exact ⟨a1, h3⟩)
            go_wp2_with (first
              | ((with_reducible show wpList _ _ _ (⟨_, .store 22 _ _, _, _, _, _⟩ :: _) _ _)
                 refine wpList_store_sl rfl 22 (.tmp 60) (.tmp 58) rfl X 1 47 [.int .i64 fl, .slice A l0 c] A9 l9 c9 rfl rfl HRX.out (by simp) rfl ?_
                 intro w2 hr2 hg2
                 have HC2 := Lib.hid (RCloseTo.dropped HH.out HBa.out HWr.out HO9.out hr2 hg2)
                 have HR8 : Hid (Row w2 g8 32 CR) := Lib.hid (HR8r.out.kept hg2 (fun e => by injection e with e; exact row_ne_row HR8r.out HRX.out (by decide) e))
                 have HR6 : Hid (Row w2 w.heap.size 32 WZ) := Lib.hid (HR6r.out.kept hg2 (fun e => by injection e with e; exact row_ne_row HR6r.out HRX.out (by decide) e))
                 have qq := HC8.out _ _ HR8.out
                 have q1 := qq.1
                 have q36 := qq.2
                 clear qq
                 clear hr2 hg2))
            refine (Bn.refTake_any b.who p _ Y G LK HC2.out.bank).mono ?_
            rintro _ w9 ⟨rfl, hk9, hg9⟩
            have HC9 := Lib.hid (HC2.out.taken hk9 hg9)
            have HR89 := Lib.hid (HR8.out.kept hg9 (fun e => by injection e with e; exact row_ne_row HR8.out HC2.out.bank.2.1 (by decide) e))
            have HR69 := Lib.hid (HR6.out.kept hg9 (fun e => by injection e with e; exact row_ne_row HR6.out HC2.out.bank.2.1 (by decide) e))
            clear hk9 hg9 q1 q36
            go_wp2_with (first
              | ((with_reducible show wpList _ _ _ (⟨_, .load 32 (.tmp 8), _, _, _, _⟩ :: _) _ _); refine wpList_load_tx rfl 32 (.tmp 8) rfl g8 0 (rfl) CR _ (row_range HR89.out) Tryd.underlying32 rfl (by rw [win_size, HR37.out]) ?_)
              | (
                 with_reducible show wpList _ _ _ (⟨_, .store 32 (.tmp 6) _, _, _, _, _⟩ :: _) _ _
                 refine wpList_store_at rfl 32 (.tmp 6) (.tmp 69) rfl w.heap.size 0 CR WZ _ rfl rfl (HR69.out) (by have := HZ37.out; have := HR37.out; omega) (by rw [win_size, HR37.out]) HR1.out ?_
                 intro wl hr hg
                 rw [splice_all (HR37.out.trans HZ37.out.symm)] at hr
                 have HrL := Lib.hid hr
                 have HFin := Lib.hid (RCloseTo.put HC9.out (Nat.le_refl _) HR69.out (by decide) (by decide) hg)
                 clear hr hg))
            refine bodyPost_ret (results_rowL rfl _ _ w.heap.size 32 _ _ rfl HrL.out Tryd.underlying32 rfl (by rw [win_size, List.size_toArray, HR37.out]) _ rfl) rfl ⟨?_, HFin.out⟩
            rw [HWV.out]
            rfl
  · skip
    try simp only [Act.put, List.getElem_toArray, List.getElem_cons_succ, List.getElem_cons_zero, List.setIfInBounds_toArray, List.set_cons_zero, List.set_cons_succ]
    go_simp
    have hd14 := (Below.refl wq.heap.size wq).alloc (Nat.le_refl _) (.cells WZ.toArray 32)
    have hHeld2 : Row (wq.alloc (.cells WZ.toArray 32)) w.heap.size 32 WZ ∧ Below w.heap.size w (wq.alloc (.cells WZ.toArray 32)) := ⟨hHeld.1.kept (grownBy_of_below hd14 none) (by simp), two_below' hHeld.2 hd14⟩
    have H8 : Hid (Row (wq.alloc (.cells WZ.toArray 32)) wq.heap.size 32 WZ) := Lib.hid (Row.new wq 32 _)
    have N8 : Hid (w.heap.size ≠ wq.heap.size ∧ w.heap.size ≤ wq.heap.size) := Lib.hid ⟨by have := hHeld.1.lt; omega, hHeld.2.size⟩
    generalize wq.alloc (.cells WZ.toArray 32) = wz13 at *
    generalize hg8 : wq.heap.size = g8 at *
    clear hg8
    refine hK1.out _ _ (hHeld2) (fun hHeld => ?_)
    clear hK1 K1
    try simp only [Act.put, List.getElem_toArray, List.getElem_cons_succ, List.getElem_cons_zero, List.setIfInBounds_toArray, List.set_cons_zero, List.set_cons_succ]
    clear hHeld2
    refine wpAnyH_ready (rs := [2]) (by kernel_rfl) (by simp) (AllReadyH.cons rfl (fun K1 hK1 => ?_) AllReadyH.nil)
    try simp only [Act.put, List.getElem_toArray, List.getElem_cons_succ, List.getElem_cons_zero, List.setIfInBounds_toArray, List.set_cons_zero, List.set_cons_succ]
    go_simp
    refine Calls.mono (HBi.out _ hHeld.2) ?_
    rintro e wa15 ⟨vb, rfl, hO, hc16⟩
    replace H8 := Lib.hid (H8.out.kept (grownBy_of_below hc16 none) (by simp))
    obtain ⟨Ab, cb, hvb, _, _⟩ := hO.form
    subst hvb
    have HO : Hid (OwnL wa15 wz13.heap.size 30 36 Bd.cells (.slice Ab (Au.ofR r L).length cb) (Au.ofR r L)) := Lib.hid hO
    clear hO
    have hHeld2 : Row wa15 w.heap.size 32 WZ ∧ Below w.heap.size w wa15 := ⟨hHeld.1.kept (grownBy_of_below hc16 none) (by simp), two_below' hHeld.2 hc16⟩
    generalize wz13.heap.size = bO at *
    rw [HM.out] at *
    refine hK1.out _ _ (hHeld2) (fun hHeld => ?_)
    clear hK1 K1
    try simp only [Act.put, List.getElem_toArray, List.getElem_cons_succ, List.getElem_cons_zero, List.setIfInBounds_toArray, List.set_cons_zero, List.set_cons_succ]
    clear hHeld2
    refine wpAnyH_ready (rs := [12]) (by kernel_rfl) (by simp) (AllReadyH.cons rfl (fun K1 hK1 => ?_) AllReadyH.nil)
    try simp only [Act.put, List.getElem_toArray, List.getElem_cons_succ, List.getElem_cons_zero, List.setIfInBounds_toArray, List.set_cons_zero, List.set_cons_succ]
    go_simp
    refine Calls.mono (WN.out _ _ _ _ hHeld.2 HO.out) ?_
    rintro e wv17 ⟨rfl, hc18⟩
    replace H8 := Lib.hid (H8.out.kept (grownBy_of_below hc18 none) (by simp))
    refine hK1.out _ _ (⟨hHeld.1.kept (grownBy_of_below hc18 none) (by simp), two_below' hHeld.2 hc18⟩) (fun hHeld => ?_)
    clear hK1 K1
    try simp only [Act.put, List.getElem_toArray, List.getElem_cons_succ, List.getElem_cons_zero, List.setIfInBounds_toArray, List.set_cons_zero, List.set_cons_succ]
    refine wpAnyH_take (i := 13) (v := .tuple #[.agg CR.toArray, .bool rb]) rfl (by kernel_rfl) (by kernel_rfl) (by kernel_rfl) (fun _ _ _ h => h) (Or.inl ⟨by rfl, fun w' hSw => by go_simp⟩) hHeld ?_
    try simp only [Act.put, List.getElem_toArray, List.getElem_cons_succ, List.getElem_cons_zero, List.setIfInBounds_toArray, List.set_cons_zero, List.set_cons_succ]
    refine wpAnyH_take (i := 14) (v := .agg CR.toArray) rfl (by kernel_rfl) (by kernel_rfl) (by kernel_rfl) (fun _ _ _ h => h) (Or.inl ⟨by rfl, fun w' hSw => by go_simp⟩) hHeld ?_
    try simp only [Act.put, List.getElem_toArray, List.getElem_cons_succ, List.getElem_cons_zero, List.setIfInBounds_toArray, List.set_cons_zero, List.set_cons_succ]
    refine wpAnyH_take (i := 15) (v := .bool rb) rfl (by kernel_rfl) (by kernel_rfl) (by kernel_rfl) (fun _ _ _ h => h) (Or.inl ⟨by rfl, fun w' hSw => by go_simp⟩) hHeld ?_
    try simp only [Act.put, List.getElem_toArray, List.getElem_cons_succ, List.getElem_cons_zero, List.setIfInBounds_toArray, List.set_cons_zero, List.set_cons_succ]
    refine wpAnyH_ready (rs := [17]) (by kernel_rfl) (by simp) (AllReadyH.cons rfl (fun K1 hK1 => ?_) AllReadyH.nil)
    try simp only [Act.put, List.getElem_toArray, List.getElem_cons_succ, List.getElem_cons_zero, List.setIfInBounds_toArray, List.set_cons_zero, List.set_cons_succ]
    rw [if_pos (by rfl)]
    refine wp_store_at 32 (.tmp 8) (.tmp 26) rfl g8 0 CR WZ 32 rfl rfl H8.out (by rw [HR37.out, HZ37.out]; omega) (by rw [win_size, HR37.out]) HR1.out ?_
    intro ws19 hrS hgS
    rw [splice_all (HR37.out.trans HZ37.out.symm)] at hrS
    have hHeld2 : Row ws19 w.heap.size 32 WZ ∧ Below w.heap.size w ws19 := ⟨hHeld.1.kept hgS (fun e => by injection e with e; exact N8.out.1 e), below_own hHeld.2 hgS (fun k hk => by cases hk; exact N8.out.2)⟩
    have HBl : Hid (Blocks w ws19 [(g8, 32, CR), (w.heap.size, 32, WZ)]) := Lib.hid (((Blocks.nil hHeld2.2).cons hHeld2.1).cons hrS)
    clear hrS hgS
    refine hK1.out _ _ (hHeld2) (fun hHeld => ?_)
    clear hK1 K1
    try simp only [Act.put, List.getElem_toArray, List.getElem_cons_succ, List.getElem_cons_zero, List.setIfInBounds_toArray, List.set_cons_zero, List.set_cons_succ]
    clear hHeld2
    refine wpAnyH_take (i := 18) (v := .bool rb) rfl (by kernel_rfl) (by kernel_rfl) (by kernel_rfl) (fun _ _ _ h => h) (Or.inl ⟨by rfl, fun w' hSw => by go_simp⟩) hHeld ?_
    try simp only [Act.put, List.getElem_toArray, List.getElem_cons_succ, List.getElem_cons_zero, List.setIfInBounds_toArray, List.set_cons_zero, List.set_cons_succ]
    refine wpAnyH_done (by kernel_rfl) ?_ _
    clear hHeld H8 N8
    have HWb := Lib.hid HBl.out.1
    have HR8w := Lib.hid HBl.out.hd
    have HR6w := Lib.hid HBl.out.tl.hd
    clear HBl
    generalize ws19 = WW at *
    go_wp2_with fail
    go_loopw [10, 11] (fun s10 s11 wr => ∃ (u : Value) (k : Nat), k ≤ l0 ∧ u = s10 ∧ s11 = .int .i64 k ∧ RcAt WW wr u (T k)) (fun _ i _ => l0 - (intOf i).toNat)
    case atStart => exact ⟨_, 0, Nat.zero_le _, rfl, rfl, by rw [HT0.out]; exact ⟨Below.refl _ _, OwnL.nil _ _ _ _ _⟩⟩
    case round =>
      obtain ⟨u, k, hk, rfl, rfl, hC⟩ := hrel
      have HC := Lib.hid hC
      have HWr := Lib.hid (two_below' HWb.out hC.below)
      have c1 := (HH.out.below HWr.out).c1
      clear hC
      by_cases hkm : k < l0
      · have hki : (k : Int) < (l0 : Int) := by omega
        have hk0 : (0 : Int) ≤ (k : Int) := by omega
        obtain ⟨g, rfl, hg, hat⟩ := HAt.out k hkm
        have HRr : Hid (wr.rangeAt g (k * 36) (Y' k).cells) := Lib.hid (fun j u hu => (HWr.out.cell (p := ⟨g, k * 36 + j, none⟩) hg).trans (hat j u hu))
        have HFt' := Lib.hid (HYF.out k hkm)
        have HK36 := Lib.hid (Bd.cells_len HFt'.out.tag)
        have HK1 := Lib.hid (Bd.cells_one HFt'.out.tag)
        have HS := Lib.hid (HSS.out k hkm)
        have hTLk := HTL.out k
        have e0 : wr.cell? ⟨g, k * 36, none⟩ = some (.int .i64 (Y' k).round) := by have := HRr.out 0 (.int .i64 (Y' k).round) rfl; simpa using this
        obtain ⟨A1, c1', rfl, hlc, hcm⟩ := HC.out.own.form
        obtain ⟨q, hq⟩ : ∃ q, q = (T k).length := ⟨_, rfl⟩
        have hqk : q ≤ k := by rw [hq]; exact hTLk
        have hk63 : q + 1 ≤ maxLen := by unfold maxLen; omega
        have hk48 : ((q + 1) + (q + 1) / 4 + 192) * 64 ≤ 281474976710656 := by omega
        rw [← hq] at hlc HC ⊢
        have HQ := Lib.hid hq
        clear hq hat HAt HSS HTL HYF hTLk
        obtain ⟨CK, hCK⟩ : ∃ CK, (Y' k).cells = CK := ⟨_, rfl⟩
        rw [hCK] at HRr HK36 HK1
        have HCK := Lib.hid hCK
        clear hCK
        obtain ⟨yr, hyr⟩ : ∃ yr, (Y' k).round = yr := ⟨_, rfl⟩
        rw [hyr] at e0 HS
        clear hyr
        by_cases hr : yr = r
        · have hrb : (yr != r) = false := by simpa using hr
          have HS1 : Hid (T (k + 1) = T k) := Lib.hid (by rw [HS.out, if_pos hr])
          clear hr HS
          go_wp2_with fail
          exact ⟨⟨_, k + 1, by omega, rfl, by go_num, by rw [HS1.out]; exact HC.out⟩, by simp [intOf]; omega⟩
        · have hrb : (yr != r) = true := by simpa using hr
          have HS1 : Hid (T (k + 1) = T k ++ [Y' k]) := Lib.hid (by rw [HS.out, if_neg hr])
          clear hr HS
          have hbn := (Below.refl wr.heap.size wr).alloc (Nat.le_refl _) (.cells CK.toArray 30)
          have HNew := Lib.hid (row_news (Row.new wr 30 CK))
          have HO7 := Lib.hid (HC.out.own.own.alloc (.cells CK.toArray 30))
          rw [← HQ.out] at HO7
          have HB7 := Lib.hid (two_below' HC.out.below hbn)
          have HBs7 := Lib.hid HB7.out.size
          clear hbn
          go_wp2_with (first
            | ((with_reducible show wpList _ _ _ (⟨_, .load 30 (.tmp 53), _, _, _, _⟩ :: _) _ _); refine wpList_load_tx rfl 30 (.tmp 53) rfl g (k * 36) (by first | rfl | simp) CK _ (HRr.out) Tryd.underlying30 rfl (by rw [bid_info, HK36.out]) ?_)
            | ((with_reducible show wpList _ _ _ (⟨_, .buildSlice 22 _ _, _, _, _, _⟩ :: _) _ _); refine wpList_buildSliceL rfl 22 30 1 [(0, .tmp 54)] rfl (some 55) rfl [(0, .agg CK.toArray)] rfl CK.toArray i0 (.agg ZB.toArray) 36 Tryd.underlying22 Hi.out Hz.out Hsz.out (by decide) (by decide) (fill_one15 36 _ CK HK36.out) ?_)
            | (at_builtin
               refine wpList_append_own_wide _ rfl (.tmp 47) (.tmp 55) 22 rfl WW.heap.size 30 i0 (.agg ZB.toArray) 36 64 Tryd.underlying22 Hi.out Hz.out Hsz.out Hby.out (by rw [← HZ36.out]; rfl) (by decide) _ _ _ rfl HO7.out ⟨wr.heap.size, 0, none⟩ 1 1 CK rfl (by rw [HK36.out]) HNew.out HK1.out hk63 hk48 HBs7.out ?_
               intro v8 w8 hown8 hgrow8 _
               have HC8 : Hid (RcAt WW w8 v8 (T k ++ [Y' k])) := Lib.hid ⟨below_row HB7.out HBs7.out HO7.out hgrow8, OwnL.pushed (by rw [HCK.out, ← HQ.out]; exact hown8)⟩
               clear hown8 hgrow8))
          exact ⟨⟨_, k + 1, by omega, rfl, by go_num, by rw [HS1.out]; exact HC8.out⟩, by simp [intOf]; omega⟩
      · have hki : ¬ (k : Int) < (l0 : Int) := by omega
        have e : l0 = k := by omega
        subst e
        have HO9' : Hid (OwnL wr w.heap.size 30 36 Bd.cells u (Au.dropR r L)) := Lib.hid (by
          have h1 := HC.out.own.mono HWb.out.size
          rw [HTM.out] at h1
          exact h1)
        have HR8r := Lib.hid (HR8w.out.kept (grownBy_of_below HC.out.below none) (by simp))
        have HR6r := Lib.hid (HR6w.out.kept (grownBy_of_below HC.out.below none) (by simp))
        have HRX := Lib.hid (HH.out.below HWr.out).row
        obtain ⟨A9, c9, hu, _, _⟩ := HO9'.out.form
        obtain ⟨l9, hl9⟩ : ∃ l9, l9 = (Au.dropR r L).length := ⟨_, rfl⟩
        rw [← hl9] at hu
        subst hu
        have HO9 := HO9'
        clear HC HAt HSS HTL HYF HT0 HTM HR8w HR6w HO9' hl9 WN
        cases R with
        | none =>
          have hrb : rb = false := HRB.out
          subst hrb
          go_wp2_with (first
            | ((with_reducible show wpList _ _ _ (⟨_, .store 22 _ _, _, _, _, _⟩ :: _) _ _)
               refine wpList_store_sl rfl 22 (.tmp 60) (.tmp 58) rfl X 1 47 [.int .i64 fl, .slice A l0 c] A9 l9 c9 rfl rfl HRX.out (by simp) rfl ?_
               intro w2 hr2 hg2
               have HC2 := Lib.hid (RCloseTo.dropped HH.out HBa.out HWr.out HO9.out hr2 hg2)
               have HR8 : Hid (Row w2 g8 32 CR) := Lib.hid (HR8r.out.kept hg2 (fun e => by injection e with e; exact row_ne_row HR8r.out HRX.out (by decide) e))
               have HR6 : Hid (Row w2 w.heap.size 32 WZ) := Lib.hid (HR6r.out.kept hg2 (fun e => by injection e with e; exact row_ne_row HR6r.out HRX.out (by decide) e))
               skip
               clear hr2 hg2)
            | ((with_reducible show wpList _ _ _ (⟨_, .load 32 (.tmp 8), _, _, _, _⟩ :: _) _ _); refine wpList_load_tx rfl 32 (.tmp 8) rfl g8 0 (rfl) CR _ (row_range HR8.out) Tryd.underlying32 rfl (by rw [win_size, HR37.out]) ?_)
            | (
               with_reducible show wpList _ _ _ (⟨_, .store 32 (.tmp 6) _, _, _, _, _⟩ :: _) _ _
               refine wpList_store_at rfl 32 (.tmp 6) (.tmp 69) rfl w.heap.size 0 CR WZ _ rfl rfl (HR6.out) (by have := HZ37.out; have := HR37.out; omega) (by rw [win_size, HR37.out]) HR1.out ?_
               intro wl hr hg
               rw [splice_all (HR37.out.trans HZ37.out.symm)] at hr
               have HrL := Lib.hid hr
               have HFin := Lib.hid (RCloseTo.put HC2.out (Nat.le_refl _) HR6.out (by decide) (by decide) hg)
               clear hr hg))
          refine bodyPost_ret (results_rowL rfl _ _ w.heap.size 32 _ _ rfl HrL.out Tryd.underlying32 rfl (by rw [win_size, List.size_toArray, HR37.out]) _ rfl) rfl ⟨?_, HFin.out⟩
          rw [HWV.out]
          rfl
        | some bp =>
          obtain ⟨b, p⟩ := bp
          have hrb : rb = true := HRB.out
          subst hrb
          have HC8 : Hid (∀ W g, Row W g 32 CR → W.cell? ⟨g, 1, none⟩ = some (.int .i64 b.who) ∧ W.cell? ⟨g, 36, none⟩ = some (.int .i64 p)) := Lib.hid (fun W g h => by
            have hcr : CR = Au.wc b p := HCR.out
            rw [hcr] at h
            have h1 := row_range h
            have h2 : W.rangeAt g 0 b.cells := range_head h1
            have h36 := Bd.cells_len HFt.out.1.tag
            have h3 := h1 36 (.int .i64 p) (by unfold Au.wc; rw [List.getElem?_append_right (by rw [h36]; omega), h36]; rfl)
            have a1 := h2 1 _ rfl
            rw [Nat.zero_add] at a1 h3
            exact ⟨a1, h3⟩)
          go_wp2_with (first
            | ((with_reducible show wpList _ _ _ (⟨_, .store 22 _ _, _, _, _, _⟩ :: _) _ _)
               refine wpList_store_sl rfl 22 (.tmp 60) (.tmp 58) rfl X 1 47 [.int .i64 fl, .slice A l0 c] A9 l9 c9 rfl rfl HRX.out (by simp) rfl ?_
               intro w2 hr2 hg2
               have HC2 := Lib.hid (RCloseTo.dropped HH.out HBa.out HWr.out HO9.out hr2 hg2)
               have HR8 : Hid (Row w2 g8 32 CR) := Lib.hid (HR8r.out.kept hg2 (fun e => by injection e with e; exact row_ne_row HR8r.out HRX.out (by decide) e))
               have HR6 : Hid (Row w2 w.heap.size 32 WZ) := Lib.hid (HR6r.out.kept hg2 (fun e => by injection e with e; exact row_ne_row HR6r.out HRX.out (by decide) e))
               have qq := HC8.out _ _ HR8.out
               have q1 := qq.1
               have q36 := qq.2
               clear qq
               clear hr2 hg2))
          refine (Bn.refTake_any b.who p _ Y G LK HC2.out.bank).mono ?_
          rintro _ w9 ⟨rfl, hk9, hg9⟩
          have HC9 := Lib.hid (HC2.out.taken hk9 hg9)
          have HR89 := Lib.hid (HR8.out.kept hg9 (fun e => by injection e with e; exact row_ne_row HR8.out HC2.out.bank.2.1 (by decide) e))
          have HR69 := Lib.hid (HR6.out.kept hg9 (fun e => by injection e with e; exact row_ne_row HR6.out HC2.out.bank.2.1 (by decide) e))
          clear hk9 hg9 q1 q36
          go_wp2_with (first
            | ((with_reducible show wpList _ _ _ (⟨_, .load 32 (.tmp 8), _, _, _, _⟩ :: _) _ _); refine wpList_load_tx rfl 32 (.tmp 8) rfl g8 0 (rfl) CR _ (row_range HR89.out) Tryd.underlying32 rfl (by rw [win_size, HR37.out]) ?_)
            | (
               with_reducible show wpList _ _ _ (⟨_, .store 32 (.tmp 6) _, _, _, _, _⟩ :: _) _ _
               refine wpList_store_at rfl 32 (.tmp 6) (.tmp 69) rfl w.heap.size 0 CR WZ _ rfl rfl (HR69.out) (by have := HZ37.out; have := HR37.out; omega) (by rw [win_size, HR37.out]) HR1.out ?_
               intro wl hr hg
               rw [splice_all (HR37.out.trans HZ37.out.symm)] at hr
               have HrL := Lib.hid hr
               have HFin := Lib.hid (RCloseTo.put HC9.out (Nat.le_refl _) HR69.out (by decide) (by decide) hg)
               clear hr hg))
          refine bodyPost_ret (results_rowL rfl _ _ w.heap.size 32 _ _ rfl HrL.out Tryd.underlying32 rfl (by rw [win_size, List.size_toArray, HR37.out]) _ rfl) rfl ⟨?_, HFin.out⟩
          rw [HWV.out]
          rfl
end Go.Proofs.YtlapmdgkcidhnaaDoor
