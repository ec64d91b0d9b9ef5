/- the law PoolEnds. -/
import Derived.Test.YtoicpidiejhjeaaPlOrds
namespace Go.Proofs.Ytoicpidiejhjeaa
open Go.RowKit
set_option linter.unusedVariables false
set_option linter.unusedSimpArgs false
set_option maxRecDepth 100000

def Bs (l : List Bool) : List Value := l.map Value.bool
theorem make_bools18 (u : World) : (Instr.makeSlice 57 (.int .i64 200) (.int .i64 200)).run Try.prog u = .ok (.slice (some ⟨u.heap.size, 0, none⟩) 200 200) (u.alloc (.cells (Bs (List.replicate 200 false)).toArray 4)) := by kernel_rfl
theorem wpList_store_bool {P : Program} {ops : Array Oper} {rest : List Oper} {op : Oper} {a : Act} {w : World} {Q : Exit → Act → World → Prop} (hgd : op.guard = none) (ty : TypeId) (x y : Operand) (ho : op.op = .store ty x y)
    (g i : Nat) (T : TypeId) (xs : List Value) (z : Bool) (hx : a.eval x = .pointer (some ⟨g, i, none⟩)) (hy : a.eval y = .bool z) (hg : Row w g T xs) (hi : i < xs.length) (hs : (P.info? ty).map (·.size) = some 1)
    (K : ∀ w', Row w' g T (xs.set i (.bool z)) → w.grownBy w' (some g) → wpList P ops Q rest (a.put op.dst undef) w') : wpList P ops Q (op :: rest) a w := by
  refine wpList_plain hgd fun _ hK => ?_
  have hc := hg.cell i hi
  have hf := hg.free i
  have e : (storeVar ty ⟨g, i, none⟩ (.bool z)).run P w = (storeVar ty ⟨g, i, none⟩ (.agg #[.bool z])).run P w := by simp [storeVar, Value.cells]
  have hr := run_storeVar_mid (P := P) w g i ty #[.bool z] (fun j hj => by
    have : j = 0 := by simp at hj; omega
    subst this
    exact ⟨by rw [Nat.add_zero, hc]; rfl, hf⟩) (by rw [hs]; rfl) (all_oneCell_toArray (cs := [.bool z]) (fun v hv => by simp only [List.mem_singleton] at hv; subst hv; rfl))
  obtain ⟨r1, r2⟩ := row_setCells [.bool z] i w xs hg (by simp; omega)
  unfold Oper.wp execOp
  simp only [ho, hx, hy, Instr.storeAt, Instr.sureAddr, Sem.run_bind, Sem.run_pure, Result.andThen_ok, e, hr]
  refine hK _ _ (K _ ?_ r2)
  have e2 : xs.take i ++ ([.bool z] ++ xs.drop (i + [Value.bool z].length)) = xs.set i (.bool z) := by
    rw [List.set_eq_take_append_cons_drop, if_pos hi]
    rfl
  rw [← e2]
  exact r1
theorem empty18 (w : World) : OwnL (w.alloc (.cells #[] 38)) w.heap.size 38 76 Wt.cells (.slice (some ⟨w.heap.size, 0, none⟩) 0 0) [] := ⟨rfl, .inr ⟨w.heap.size, 0, #[], rfl, Nat.le_refl _, heap_alloc_new _ _, Nat.le_refl _, Nat.zero_le _, rfl, rfl⟩⟩
theorem PyE.all {w W : World} {base B size : Nat} {L lo lg : List Wt} {uo ug : Value} {rows : Rows18} (h : PyE w W base B size L uo lo ug lg rows) : Calls Try.prog 18 #[.pointer (some ⟨B, 0, none⟩)] W fun e w' => (∃ u, e = .returned u ∧ OwnL w' W.heap.size 38 76 Wt.cells u L) ∧ Below W.heap.size W w' := by
  obtain ⟨v, h⟩ := h
  exact h.pat.all
theorem PyE.len {w W : World} {base B size : Nat} {L lo lg : List Wt} {uo ug : Value} {rows : Rows18} (h : PyE w W base B size L uo lo ug lg rows) : Calls Try.prog 19 #[.pointer (some ⟨B, 0, none⟩)] W fun e w' => e = .returned (.int .i64 L.length) ∧ W = w' := by
  obtain ⟨v, h⟩ := h
  exact h.pat.len
/-- a list added behind an own one -/
theorem own_grew {w0 w w' : World} {v : Value} {l : List Wt} (hb : Below w0.heap.size w0 w) (ho : OwnL w w0.heap.size 38 76 Wt.cells v l) (hc : Chg (fun k => v.ownBlock = some k) w w') : Below w0.heap.size w0 w' :=
  below_chg hb hc hb.size (fun k hk => (ho.own.lt k hk).1)
set_option maxHeartbeats 6400000 in
theorem poolEnds_any (z : Int) (hz : 0 ≤ z ∧ z ≤ 255) (l : List Come18) (A : Option Addr) (c : Nat) (w : World) (hin : Come18sAt w w.heap.size A l) :
    Calls Try.prog 5 #[.int .u8 z, .slice A l.length c] w fun e w' => e = .returned (.bool true) ∧ Below w.heap.size w w' := by
  obtain ⟨size, k0, s, hsz, _, hk0, hk0l, hI, hp⟩ := play_law z hz l A c w hin
  obtain ⟨sl, snx, so, sg, snow, sput⟩ := s
  simp only at hp
  have PL := Lib.hid hp
  have AW := Lib.hid awake18_any
  have hmz := make_bools18
  obtain ⟨Z200, hZ⟩ : ∃ Z, Bs (List.replicate 200 false) = Z := ⟨_, rfl⟩
  rw [hZ] at hmz
  have HZ := Lib.hid hZ
  have ew0 : IntKind.i64.wrap z = z := IntWalk.i64_in _ (by omega)
  have ew1 : IntKind.i64.wrap (z + 1) = z + 1 := IntWalk.i64_in _ (by omega)
  have hW : ∀ w ∈ so ++ sg ++ sl, w.Ok ∧ Pl.May w ∧ w.ix < k0 ∧ w.tx = (l.getD w.ix.toNat Pl.cz).tx := hI.whole
  have hE : ((so ++ sg ++ sl).map Wt.ix).Nodup := hI.ends
  have hsum : so.length + sg.length + sl.length = sput := hI.sum
  have hput : sput ≤ k0 := hI.put
  have hsl : sl.length ≤ size := hI.ok.len
  have hle : ((sl.length : Nat) : Int) ≤ z + 1 := by omega
  have HW := Lib.hid hW
  have HE := Lib.hid hE
  have HSum := Lib.hid hsum
  have HIn := Lib.hid hin
  have H1 : Hid (∀ x ∈ so, x.Ok) := Lib.hid (fun x hx => (hW x (List.mem_append_left _ (List.mem_append_left _ hx))).1)
  have H2 : Hid (∀ x ∈ sg, x.Ok) := Lib.hid (fun x hx => (hW x (List.mem_append_left _ (List.mem_append_right _ hx))).1)
  have H3 : Hid (∀ x ∈ sl, x.Ok) := Lib.hid (fun x hx => (hW x (List.mem_append_right _ hx)).1)
  have HLs : Hid (so.length ≤ 120 ∧ sg.length ≤ 120 ∧ sl.length ≤ 120 ∧ sput ≤ 120) := Lib.hid (by omega)
  have hp120 : sput ≤ 120 := by omega
  obtain ⟨ln, hln⟩ : ∃ ln, l.length = ln := ⟨_, rfl⟩
  rw [hln] at PL hk0l ⊢
  have HLn := Lib.hid hln
  clear hin hp hW hE hsum hput hsl hI hZ hz hsz hln
  go_enter Try.func5, Try.ntmps5
  go_wp2_with fail
  refine PL.out.mono ?_
  rintro _ w1 ⟨uo, ug, B, base, rfl, hpe⟩
  obtain ⟨A1, c1, rfl, _, _⟩ := hpe.out.form
  obtain ⟨A2, c2, rfl, _, _⟩ := hpe.gone.form
  have HB1 := Lib.hid hpe.low
  have HP1 := Lib.hid hpe
  clear hpe PL
  obtain ⟨n1, hn1⟩ : ∃ n, so.length = n := ⟨_, rfl⟩
  obtain ⟨n2, hn2⟩ : ∃ n, sg.length = n := ⟨_, rfl⟩
  have HO1 : Hid (SlW w1 w1.heap.size A1 c1 so) := Lib.hid (HP1.out.out.slW H1.out (by have := HLs.out; omega))
  have HG1 : Hid (SlW w1 w1.heap.size A2 c2 sg) := Lib.hid (HP1.out.gone.slW H2.out (by have := HLs.out; omega))
  rw [hn1, hn2] at HP1 ⊢
  have HN1 := Lib.hid hn1
  have HN2 := Lib.hid hn2
  clear hn1 hn2
  go_wp2_with fail
  refine (AW.out _).mono ?_
  rintro _ w2 ⟨rfl, hb2⟩
  have HB2 := Lib.hid (two_below' HB1.out hb2)
  have HP2 := Lib.hid (HP1.out.below hb2)
  have HO2 := Lib.hid ((HO1.out.below hb2).mono hb2.size)
  have HG2 := Lib.hid ((HG1.out.below hb2).mono hb2.size)
  clear hb2 AW HP1 HO1 HG1
  have HE0 := Lib.hid (empty18 w2)
  have Hb0 := Lib.hid ((Below.refl w2.heap.size w2).alloc (Nat.le_refl _) (.cells #[] 38))
  have HO3 := Lib.hid ((HO2.out.below Hb0.out).mono Hb0.out.size)
  go_wp2_with (first
  | ((with_reducible show wpList _ _ _ (⟨_, .call { callee := .builtin .append, args := #[.tmp 29, .tmp 30], argTypes := _ }, _, _, _, _⟩ :: _) _ _)
     go_loud (refine wpList_appL rfl (.tmp 29) (.tmp 30) rfl (so) A1 c1 HO3.out w2.heap.size _ ([]) HE0.out Hb0.out.size (by decide) rfl (by rw [HN1.out]; rfl) ?_)
     intro v4 w4 ho9 hc9 hk9
     have HB4 := Lib.hid (own_grew Hb0.out HE0.out hc9)
     have HO4 := Lib.hid ho9
     have HS4 := Lib.hid ((HG2.out.below HB4.out).mono HB4.out.size)
     clear ho9 hc9 hk9)
  | ((with_reducible show wpList _ _ _ (⟨_, .call { callee := .builtin .append, args := #[.tmp 31, .tmp 32], argTypes := _ }, _, _, _, _⟩ :: _) _ _)
     go_loud (refine wpList_appL rfl (.tmp 31) (.tmp 32) rfl (sg) A2 c2 HS4.out w2.heap.size _ (_) HO4.out HB4.out.size (by have := HLs.out; simp; omega) rfl (by rw [HN2.out]; rfl) ?_)
     intro v5 w5 ho9 hc9 hk9
     have HB5 := Lib.hid (own_grew HB4.out HO4.out hc9)
     have HO5 := Lib.hid ho9
     have HP5 := Lib.hid (HP2.out.below HB5.out)
     clear ho9 hc9 hk9))
  refine (HP5.out.all).mono ?_
  rintro _ w6 ⟨⟨u6, rfl, ho6⟩, hb6⟩
  obtain ⟨A3, c3, rfl, _, _⟩ := ho6.form
  have HS6 := Lib.hid (ho6.slW H3.out (by have := HLs.out; omega))
  have HB6 := Lib.hid (two_below' HB5.out hb6)
  have HO6 := Lib.hid (HO5.out.below hb6)
  clear ho6 hb6
  obtain ⟨n3, hn3⟩ : ∃ n, sl.length = n := ⟨_, rfl⟩
  rw [hn3] at hle ⊢
  have HN3 := Lib.hid hn3
  clear hn3
  go_wp2_with (first
  | ((with_reducible show wpList _ _ _ (⟨_, .call { callee := .builtin .append, args := #[.tmp 33, .tmp 35], argTypes := _ }, _, _, _, _⟩ :: _) _ _)
     go_loud (refine wpList_appL rfl (.tmp 33) (.tmp 35) rfl (sl) A3 c3 HS6.out w2.heap.size _ (_) HO6.out HB6.out.size (by have := HLs.out; simp; omega) rfl (by rw [HN3.out]; rfl) ?_)
     intro v7 w7 ho9 hc9 hk9
     have HB7 := Lib.hid (own_grew HB6.out HO6.out hc9)
     have HO7 := Lib.hid ho9
     clear ho9 hc9 hk9))
  obtain ⟨all, hall⟩ : ∃ all, so ++ sg ++ sl = all := ⟨_, rfl⟩
  have hall2 : [] ++ so ++ sg ++ sl = all := by rw [← hall]; rfl
  rw [hall2] at HO7
  rw [hall] at HW HE
  have hlen : all.length = sput := by rw [← hall, List.length_append, List.length_append]; exact HSum.out
  obtain ⟨A7, c7, rfl, _, _⟩ := HO7.out.form
  have HS7 := Lib.hid (HO7.out.slW (fun x hx => (HW.out x hx).1) (by omega))
  rw [hlen]
  have HNl := Lib.hid hlen
  have HP7 := Lib.hid (HP2.out.below HB7.out)
  clear hall hall2 HO7 HO6 HO5 HO4 HP5 HP2 HS6 HS4 HO3 hlen H1 H2 H3 HE0 Hb0 HB4 HB5 HB6 HG2 HO2
  have HR7 := Lib.hid (Row.new w7 4 Z200)
  have HB8 := Lib.hid ((Below.refl w7.heap.size w7).alloc (Nat.le_refl _) (.cells Z200.toArray 4))
  go_wp2_with fail
  obtain ⟨gM, hgM⟩ : ∃ gM, w7.heap.size = gM := ⟨_, rfl⟩
  rw [hgM] at HR7 ⊢
  have HGE := Lib.hid hgM
  clear hgM hmz
  go_loopw [11] (fun s11 wr => ∃ k : Nat, k ≤ sput ∧ s11 = .int .i64 k ∧ Below w7.heap.size w7 wr ∧ ∃ M : List Bool, Row wr gM 4 (Bs M) ∧ M.length = 200 ∧ ∀ q : Nat, M.getD q false = true → ∃ x ∈ all.take k, x.ix = q) (fun i _ => sput - (intOf i).toNat)
  case atStart =>
    refine ⟨0, Nat.zero_le _, rfl, HB8.out, List.replicate 200 false, by rw [HZ.out]; exact HR7.out, by simp, fun q hq => ?_⟩
    rw [List.getD_eq_getElem?_getD, List.getElem?_replicate] at hq
    split at hq <;> simp at hq
  case round =>
    obtain ⟨k, hk, rfl, hbr, M, hrow, hml, hmt⟩ := hrel
    have HBr := Lib.hid hbr
    have HRow := Lib.hid hrow
    clear HR7 HB8 hbr hrow
    have hk0i : (0 : Int) ≤ (k : Int) := by omega
    by_cases hkn : k < sput
    · have hki : (k : Int) < (sput : Int) := by omega
      have hkl : k < all.length := by have := HNl.out; omega
      obtain ⟨g, rfl, hg, hat⟩ := HS7.out.1 (by intro e; rw [e] at hkl; simp at hkl)
      obtain ⟨xk, xm, xi, xt⟩ := HW.out _ (List.getElem_mem hkl)
      have hHC : ∀ (W : World), Below wr.heap.size wr W → W.rangeAt g (k * 76) all[k].cells := fun W hW => fun r u hu => ((two_below' HBr.out hW).cell (p := ⟨g, k * 76 + r, none⟩) hg).trans (hat k hkl r u hu)
      have hnd : ∀ x ∈ all.take k, x.ix ≠ all[k].ix := fun x hx e => by
        have hnd := HE.out
        have hsp : all = all.take k ++ (all[k] :: all.drop (k + 1)) := by rw [← List.drop_eq_getElem_cons hkl, List.take_append_drop]
        rw [hsp, List.map_append] at hnd
        exact (List.nodup_append.1 hnd).2.2 x.ix (List.mem_map_of_mem hx) x.ix (by rw [e]; exact List.mem_map_of_mem List.mem_cons_self) rfl
      have htk : all.take (k + 1) = all.take k ++ [all[k]] := List.take_succ_eq_append_getElem hkl
      obtain ⟨X, hX⟩ : ∃ X, all[k] = X := ⟨_, rfl⟩
      rw [hX] at xk xm xi xt hHC hnd htk
      have hsm := xm.2.1
      unfold Pl.small at hsm
      obtain ⟨q, hq⟩ : ∃ q : Nat, X.ix = q := ⟨X.ix.toNat, by omega⟩
      have hqk : q < k0 := by omega
      have hql : q < l.length := by have := HLn.out; omega
      have hqi : (q : Int) < (ln : Int) := by have := HLn.out; omega
      have hq0 : (0 : Int) ≤ (q : Int) := by omega
      have hq200 : (q : Int) < 200 := by omega
      have hxt : X.tx = l[q].tx := by
        rw [xt, hq, Int.toNat_natCast, List.getD_eq_getElem?_getD, List.getElem?_eq_getElem hql]
        rfl
      obtain ⟨ga, off, rfl, hgB, hcs⟩ := HIn.out.1 (by intro e; rw [e] at hql; exact absurd hql (by simp))
      have hb27 := two_below' HB2.out (two_below' HB7.out HBr.out)
      have hrl : ∀ (W : World), Below wr.heap.size wr W → W.rangeAt ga (off + q * 75 + 1) X.tx.cells := fun W hW => by
        rw [hxt]
        exact (come_cells (HIn.out.2.2.1 _ (List.getElem_mem hql)) (fun j v hv => by rw [← hcs q hql j v hv]; exact (two_below' hb27 hW).cell (p := ⟨ga, off + q * 75 + j, none⟩) hgB)).2.1
      have hrt : ∀ (W : World), Below wr.heap.size wr W → W.rangeAt g (k * 76) X.tx.cells := fun W hW => Wt.tx_range xk (hHC W hW)
      have hixc : ∀ (W : World), Below wr.heap.size wr W → W.cell? ⟨g, k * 76 + 72, none⟩ = some (.int .i64 q) := fun W hW => by
        rw [← hq]; exact (WBox.of xk (hHC W hW)).2.2.2.1
      have hmf : M.getD q false = false := by
        cases hm : M.getD q false with
        | false => rfl
        | true =>
          obtain ⟨x, hx, hxe⟩ := hmt q hm
          exact absurd (hxe.trans hq.symm) (hnd x hx)
      have hmc : ∀ (W : World), Below wr.heap.size wr W → W.cell? ⟨gM, q, none⟩ = some (.bool false) := fun W hW => by
        have h1 := (HRow.out.below hW).cell q (by unfold Bs; rw [List.length_map]; omega)
        rw [h1, ← hmf]
        unfold Bs
        rw [List.getElem_map, List.getD_eq_getElem?_getD, List.getElem?_eq_getElem (by omega)]
        rfl
      have hmt' : ∀ p : Nat, (M.set q true).getD p false = true → ∃ x ∈ all.take (k + 1), x.ix = p := fun p hp => by
        rw [htk]
        by_cases hpq : p = q
        · subst hpq
          exact ⟨X, List.mem_append_right _ (List.mem_singleton.2 rfl), hq⟩
        · rw [List.getD_eq_getElem?_getD, List.getElem?_set_ne (Ne.symm hpq), ← List.getD_eq_getElem?_getD] at hp
          obtain ⟨x, hx, hxe⟩ := hmt p hp
          exact ⟨x, List.mem_append_left _ hx, hxe⟩
      have HTE := Lib.hid (fun W => tx_same W xk.tx)
      have HT72' := Tx.cells_length xk.tx
      obtain ⟨CT, hCT⟩ : ∃ CT, X.tx.cells = CT := ⟨_, rfl⟩
      rw [hCT] at hrl hrt HTE HT72'
      have HT72 := Lib.hid HT72'
      have HRL := Lib.hid hrl
      have HRT := Lib.hid hrt
      have HIx := Lib.hid hixc
      have HMf := Lib.hid hmc
      have HMt := Lib.hid hmt'
      have HMl : Hid ((M.set q true).length = 200) := Lib.hid (by rw [List.length_set]; exact hml)
      have HBl : Hid ((Bs M).length = 200) := Lib.hid (by unfold Bs; rw [List.length_map]; exact hml)
      have HSet : Hid ((Bs M).set q (.bool true) = Bs (M.set q true)) := Lib.hid (by unfold Bs; rw [List.map_set])
      have ci := HIx.out _ (Below.refl _ _)
      have dQ1 : decide ((q : Int) < 0) = false := decide_eq_false (by omega)
      have dQ2 : decide ((q : Int) ≥ 200) = false := decide_eq_false (by omega)
      have dQ3 : decide ((200 : Int) ≤ (q : Int)) = false := decide_eq_false (by omega)
      have HQ2 : Hid (q < 200) := Lib.hid (by omega)
      clear hg hat xk xm xi xt hHC hnd htk hX hsm hq hqk hql hxt hgB hcs hb27 hrl hrt hixc hmf hmc hmt' HT72' hCT hml hmt
      go_wp2_with fail
      clear ci
      refine wp_region_noPanic ?_
      refine wp_region_held_drew (S := fun w' => Below wr.heap.size wr w') (by kernel_rfl) ((Below.refl _ _).drew) (fun hHeld => ?_)
      generalize wr.drew = wq at *
      refine wpAnyH_take (i := 0) (v := .int .i64 q) rfl (by kernel_rfl) (by kernel_rfl) (by kernel_rfl) (fun _ _ _ h => h) (Or.inl ⟨by rfl, fun w' hSw => by go_simp⟩) hHeld ?_
      try simp only [Act.put, List.getElem_toArray, List.getElem_cons_succ, List.getElem_cons_zero, List.setIfInBounds_toArray, List.set_cons_zero, List.set_cons_succ]
      refine wpAnyH_take (i := 1) (v := .bool false) rfl (by kernel_rfl) (by kernel_rfl) (by kernel_rfl) (fun _ _ _ h => h) (Or.inl ⟨by rfl, fun w' hSw => by go_simp⟩) hHeld ?_
      try simp only [Act.put, List.getElem_toArray, List.getElem_cons_succ, List.getElem_cons_zero, List.setIfInBounds_toArray, List.set_cons_zero, List.set_cons_succ]
      refine wpAnyH_take (i := 2) (v := .bool false) rfl (by kernel_rfl) (by kernel_rfl) (by kernel_rfl) (fun _ _ _ h => h) (Or.inl ⟨by rfl, fun w' hSw => by go_simp⟩) hHeld ?_
      try simp only [Act.put, List.getElem_toArray, List.getElem_cons_succ, List.getElem_cons_zero, List.setIfInBounds_toArray, List.set_cons_zero, List.set_cons_succ]
      refine wpAnyH_take (i := 3) (v := .int .i64 q) rfl (by kernel_rfl) (by kernel_rfl) (by kernel_rfl) (fun _ _ _ h => h) (Or.inl ⟨by rfl, fun w' hSw => by go_simp⟩) hHeld ?_
      try simp only [Act.put, List.getElem_toArray, List.getElem_cons_succ, List.getElem_cons_zero, List.setIfInBounds_toArray, List.set_cons_zero, List.set_cons_succ]
      refine wpAnyH_take (i := 4) (v := .slice (some ⟨gM, 0, none⟩) 200 200) rfl (by kernel_rfl) (by kernel_rfl) (by kernel_rfl) (fun _ _ _ h => h) (Or.inl ⟨by rfl, fun w' hSw => by go_simp⟩) hHeld ?_
      try simp only [Act.put, List.getElem_toArray, List.getElem_cons_succ, List.getElem_cons_zero, List.setIfInBounds_toArray, List.set_cons_zero, List.set_cons_succ]
      refine wpAnyH_take (i := 5) (v := .int .i64 200) rfl (by kernel_rfl) (by kernel_rfl) (by kernel_rfl) (fun _ _ _ h => h) (Or.inl ⟨by rfl, fun w' hSw => by go_simp⟩) hHeld ?_
      try simp only [Act.put, List.getElem_toArray, List.getElem_cons_succ, List.getElem_cons_zero, List.setIfInBounds_toArray, List.set_cons_zero, List.set_cons_succ]
      refine wpAnyH_take (i := 6) (v := .bool false) rfl (by kernel_rfl) (by kernel_rfl) (by kernel_rfl) (fun _ _ _ h => h) (Or.inl ⟨by rfl, fun w' hSw => by go_simp⟩) hHeld ?_
      try simp only [Act.put, List.getElem_toArray, List.getElem_cons_succ, List.getElem_cons_zero, List.setIfInBounds_toArray, List.set_cons_zero, List.set_cons_succ]
      refine wpAnyH_take (i := 7) (v := .bool false) rfl (by kernel_rfl) (by kernel_rfl) (by kernel_rfl) (fun _ _ _ h => h) (Or.inl ⟨by rfl, fun w' hSw => by go_simp⟩) hHeld ?_
      try simp only [Act.put, List.getElem_toArray, List.getElem_cons_succ, List.getElem_cons_zero, List.setIfInBounds_toArray, List.set_cons_zero, List.set_cons_succ]
      refine wpAnyH_take (i := 8) (v := .bool false) rfl (by kernel_rfl) (by kernel_rfl) (by kernel_rfl) (fun _ _ _ h => h) (Or.inl ⟨by rfl, fun w' hSw => by go_simp⟩) hHeld ?_
      try simp only [Act.put, List.getElem_toArray, List.getElem_cons_succ, List.getElem_cons_zero, List.setIfInBounds_toArray, List.set_cons_zero, List.set_cons_succ]
      refine wpAnyH_take (i := 9) (v := .slice (some ⟨gM, 0, none⟩) 200 200) rfl (by kernel_rfl) (by kernel_rfl) (by kernel_rfl) (fun _ _ _ h => h) (Or.inl ⟨by rfl, fun w' hSw => by go_simp⟩) hHeld ?_
      try simp only [Act.put, List.getElem_toArray, List.getElem_cons_succ, List.getElem_cons_zero, List.setIfInBounds_toArray, List.set_cons_zero, List.set_cons_succ]
      refine wpAnyH_take (i := 10) (v := .int .i64 q) rfl (by kernel_rfl) (by kernel_rfl) (by kernel_rfl) (fun _ _ _ h => h) (Or.inl ⟨by rfl, fun w' hSw => by go_simp⟩) hHeld ?_
      try simp only [Act.put, List.getElem_toArray, List.getElem_cons_succ, List.getElem_cons_zero, List.setIfInBounds_toArray, List.set_cons_zero, List.set_cons_succ]
      refine wpAnyH_take (i := 11) (v := .pointer (some ⟨gM, q, none⟩)) rfl (by kernel_rfl) (by kernel_rfl) (by kernel_rfl) (fun _ _ _ h => h) (Or.inl ⟨by rfl, fun w' hSw => by go_simp⟩) hHeld ?_
      try simp only [Act.put, List.getElem_toArray, List.getElem_cons_succ, List.getElem_cons_zero, List.setIfInBounds_toArray, List.set_cons_zero, List.set_cons_succ]
      refine wpAnyH_take (i := 12) (v := .bool false) rfl (by kernel_rfl) (by kernel_rfl) (by kernel_rfl) (fun _ _ _ h => h) (Or.inl ⟨by rfl, fun w' hSw => by have hq := hSw; have hd := HMf.out _ hq; go_simp⟩) hHeld ?_
      try simp only [Act.put, List.getElem_toArray, List.getElem_cons_succ, List.getElem_cons_zero, List.setIfInBounds_toArray, List.set_cons_zero, List.set_cons_succ]
      refine wpAnyH_take (i := 13) (v := .bool false) rfl (by kernel_rfl) (by kernel_rfl) (by kernel_rfl) (fun _ _ _ h => h) (Or.inl ⟨by rfl, fun w' hSw => by go_simp⟩) hHeld ?_
      try simp only [Act.put, List.getElem_toArray, List.getElem_cons_succ, List.getElem_cons_zero, List.setIfInBounds_toArray, List.set_cons_zero, List.set_cons_succ]
      refine wpAnyH_take (i := 14) (v := .bool false) rfl (by kernel_rfl) (by kernel_rfl) (by kernel_rfl) (fun _ _ _ h => h) (Or.inl ⟨by rfl, fun w' hSw => by go_simp⟩) hHeld ?_
      try simp only [Act.put, List.getElem_toArray, List.getElem_cons_succ, List.getElem_cons_zero, List.setIfInBounds_toArray, List.set_cons_zero, List.set_cons_succ]
      refine wpAnyH_take (i := 15) (v := .slice (some ⟨g, 0, none⟩) sput c7) rfl (by kernel_rfl) (by kernel_rfl) (by kernel_rfl) (fun _ _ _ h => h) (Or.inl ⟨by rfl, fun w' hSw => by go_simp⟩) hHeld ?_
      try simp only [Act.put, List.getElem_toArray, List.getElem_cons_succ, List.getElem_cons_zero, List.setIfInBounds_toArray, List.set_cons_zero, List.set_cons_succ]
      refine wpAnyH_take (i := 16) (v := .int .i64 k) rfl (by kernel_rfl) (by kernel_rfl) (by kernel_rfl) (fun _ _ _ h => h) (Or.inl ⟨by rfl, fun w' hSw => by go_simp⟩) hHeld ?_
      try simp only [Act.put, List.getElem_toArray, List.getElem_cons_succ, List.getElem_cons_zero, List.setIfInBounds_toArray, List.set_cons_zero, List.set_cons_succ]
      refine wpAnyH_take (i := 17) (v := .pointer (some ⟨g, (k * 76), none⟩)) rfl (by kernel_rfl) (by kernel_rfl) (by kernel_rfl) (fun _ _ _ h => h) (Or.inl ⟨by rfl, fun w' hSw => by go_simp⟩) hHeld ?_
      try simp only [Act.put, List.getElem_toArray, List.getElem_cons_succ, List.getElem_cons_zero, List.setIfInBounds_toArray, List.set_cons_zero, List.set_cons_succ]
      refine wpAnyH_take (i := 18) (v := .pointer (some ⟨g, (k * 76), none⟩)) rfl (by kernel_rfl) (by kernel_rfl) (by kernel_rfl) (fun _ _ _ h => h) (Or.inl ⟨by rfl, fun w' hSw => by go_simp⟩) hHeld ?_
      try simp only [Act.put, List.getElem_toArray, List.getElem_cons_succ, List.getElem_cons_zero, List.setIfInBounds_toArray, List.set_cons_zero, List.set_cons_succ]
      refine' wpAnyH_take (i := 19) (v := _) rfl (by kernel_rfl) (by kernel_rfl) (by kernel_rfl) (fun _ _ _ h => h) (yieldsIf_load_mid (by rfl) _ _ rfl g (k * 76) rfl CT _ (fun w' hSw => (HRT.out _ hSw)) Try.underlying36 rfl (by rw [tx_info, HT72.out])) hHeld ?_
      try simp only [Act.put, List.getElem_toArray, List.getElem_cons_succ, List.getElem_cons_zero, List.setIfInBounds_toArray, List.set_cons_zero, List.set_cons_succ]
      refine wpAnyH_take (i := 20) (v := .slice (some ⟨ga, off, none⟩) ln c) rfl (by kernel_rfl) (by kernel_rfl) (by kernel_rfl) (fun _ _ _ h => h) (Or.inl ⟨by rfl, fun w' hSw => by go_simp⟩) hHeld ?_
      try simp only [Act.put, List.getElem_toArray, List.getElem_cons_succ, List.getElem_cons_zero, List.setIfInBounds_toArray, List.set_cons_zero, List.set_cons_succ]
      refine wpAnyH_take (i := 21) (v := .int .i64 q) rfl (by kernel_rfl) (by kernel_rfl) (by kernel_rfl) (fun _ _ _ h => h) (Or.inl ⟨by rfl, fun w' hSw => by go_simp⟩) hHeld ?_
      try simp only [Act.put, List.getElem_toArray, List.getElem_cons_succ, List.getElem_cons_zero, List.setIfInBounds_toArray, List.set_cons_zero, List.set_cons_succ]
      refine wpAnyH_take (i := 22) (v := .pointer (some ⟨ga, (off + q * 75), none⟩)) rfl (by kernel_rfl) (by kernel_rfl) (by kernel_rfl) (fun _ _ _ h => h) (Or.inl ⟨by rfl, fun w' hSw => by go_simp⟩) hHeld ?_
      try simp only [Act.put, List.getElem_toArray, List.getElem_cons_succ, List.getElem_cons_zero, List.setIfInBounds_toArray, List.set_cons_zero, List.set_cons_succ]
      refine wpAnyH_take (i := 23) (v := .pointer (some ⟨ga, (off + q * 75 + 1), none⟩)) rfl (by kernel_rfl) (by kernel_rfl) (by kernel_rfl) (fun _ _ _ h => h) (Or.inl ⟨by rfl, fun w' hSw => by go_simp⟩) hHeld ?_
      try simp only [Act.put, List.getElem_toArray, List.getElem_cons_succ, List.getElem_cons_zero, List.setIfInBounds_toArray, List.set_cons_zero, List.set_cons_succ]
      refine' wpAnyH_take (i := 24) (v := _) rfl (by kernel_rfl) (by kernel_rfl) (by kernel_rfl) (fun _ _ _ h => h) (yieldsIf_load_mid (by rfl) _ _ rfl ga (off + q * 75 + 1) rfl CT _ (fun w' hSw => (HRL.out _ hSw)) Try.underlying36 rfl (by rw [tx_info, HT72.out])) hHeld ?_
      try simp only [Act.put, List.getElem_toArray, List.getElem_cons_succ, List.getElem_cons_zero, List.setIfInBounds_toArray, List.set_cons_zero, List.set_cons_succ]
      refine wpAnyH_take (i := 25) (v := .bool false) rfl (by kernel_rfl) (by kernel_rfl) (by kernel_rfl) (fun _ _ _ h => h) (Or.inl ⟨by rfl, fun w' hSw => by have hq := hSw; have hq9 := HTE.out; go_simp⟩) hHeld ?_
      try simp only [Act.put, List.getElem_toArray, List.getElem_cons_succ, List.getElem_cons_zero, List.setIfInBounds_toArray, List.set_cons_zero, List.set_cons_succ]
      refine wpAnyH_take (i := 26) (v := .bool false) rfl (by kernel_rfl) (by kernel_rfl) (by kernel_rfl) (fun _ _ _ h => h) (Or.inl ⟨by rfl, fun w' hSw => by go_simp⟩) hHeld ?_
      try simp only [Act.put, List.getElem_toArray, List.getElem_cons_succ, List.getElem_cons_zero, List.setIfInBounds_toArray, List.set_cons_zero, List.set_cons_succ]
      refine wpAnyH_done (by kernel_rfl) ?_ _
      refine NoPanic.normal ?_
      have HR9 := Lib.hid (HRow.out.below hHeld)
      have HB9 := Lib.hid (two_below' HBr.out hHeld)
      clear hHeld
      go_wp2_with (first
      | ((with_reducible show wpList _ _ _ (⟨_, .store 4 (.tmp 78) _, _, _, _, _⟩ :: _) _ _)
         refine wpList_store_bool rfl 4 (.tmp 78) (.const (.bool true)) rfl gM q 4 (Bs M) true (by first | rfl | simp) rfl (HR9.out) (by rw [HBl.out]; exact HQ2.out) rfl ?_
         intro w8 hr hg
         rw [HSet.out] at hr
         have HR0 := Lib.hid hr
         have HB0 := Lib.hid (below_own HB9.out hg (fun k hk => by cases hk; exact Nat.le_of_eq HGE.out))
         clear hr hg))
      exact ⟨⟨k + 1, by omega, by go_num, HB0.out, M.set q true, HR0.out, HMl.out, HMt.out⟩, by simp [intOf]; omega⟩
    · have hki : ¬ (k : Int) < (sput : Int) := by omega
      have HLn8 := Lib.hid ((HP7.out.below HBr.out).len)
      have HN3b := Lib.hid HN3.out
      rw [HN3b.out] at HLn8
      have dL : decide ((n3 : Int) ≤ z + 1) = true := decide_eq_true hle
      go_wp2_with fail
      refine (HLn8.out).mono ?_
      rintro _ w9 ⟨rfl, rfl⟩
      go_wp2_with fail
      go_ret
      exact ⟨rfl, two_below' HB2.out (two_below' HB7.out HBr.out)⟩
end Go.Proofs.Ytoicpidiejhjeaa
