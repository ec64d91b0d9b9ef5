/- the law OrderTurned. -/
import Derived.Test.YtgdijbcoacgadaaDoorOdFlip
namespace Go.Proofs.YtgdijbcoacgadaaDoor
open Go.RowKit
set_option linter.unusedVariables false
set_option linter.unusedSimpArgs false
set_option maxRecDepth 100000

theorem wpList_store_u8 {P : Program} {ops : Array Oper} {rest : List Oper} {op : Oper} {a : Act} {w : World} {Q : Exit → Act → World → Prop} (hgd : op.guard = none) (ty : TypeId) (x y : Operand) (ho : op.op = .store ty x y)
    (g i : Nat) (T : TypeId) (xs : List Value) (z : Int) (hx : a.eval x = .pointer (some ⟨g, i, none⟩)) (hy : a.eval y = .int .u8 z) (hg : Row w g T xs) (hi : i < xs.length) (hs : (P.info? ty).map (·.size) = some 1)
    (K : ∀ w', Row w' g T (xs.set i (.int .u8 z)) → w.grownBy w' (some g) → wpList P ops Q rest (a.put op.dst undef) w') : wpList P ops Q (op :: rest) a w := by
  refine wpList_plain hgd fun _ hK => ?_
  have hc := hg.cell i hi
  have hf := hg.free i
  have e : (storeVar ty ⟨g, i, none⟩ (.int .u8 z)).run P w = (storeVar ty ⟨g, i, none⟩ (.agg #[.int .u8 z])).run P w := by simp [storeVar, Value.cells]
  have hr := run_storeVar_mid (P := P) w g i ty #[.int .u8 z] (fun j hj => by
    have : j = 0 := by simp at hj; omega
    subst this
    exact ⟨by rw [Nat.add_zero, hc]; rfl, hf⟩) (by rw [hs]; rfl) (all_oneCell_toArray (cs := [.int .u8 z]) (fun v hv => by simp only [List.mem_singleton] at hv; subst hv; rfl))
  obtain ⟨r1, r2⟩ := row_setCells [.int .u8 z] i w xs hg (by simp; omega)
  unfold Oper.wp execOp
  simp only [ho, hx, hy, Instr.storeAt, Instr.sureAddr, Sem.run_bind, Sem.run_pure, Result.andThen_ok, e, hr]
  refine hK _ _ (K _ ?_ r2)
  have e2 : xs.take i ++ ([.int .u8 z] ++ xs.drop (i + [Value.int .u8 z].length)) = xs.set i (.int .u8 z) := by
    rw [List.set_eq_take_append_cons_drop, if_pos hi]
    rfl
  rw [← e2]
  exact r1
theorem linkE_fits {r : Rp} (h : r.Fits) : (Rp.linkE r).1.Fits := by
  unfold Rp.linkE
  split
  · exact ⟨h.prev, Rp.link_len r, h.body, h.index, h.kind, h.time⟩
  · exact Rp.zero_fits
theorem LTo.box_write {w w1 w2 w3 : World} {base B : Nat} {v dv : Value} {a : List Rp} (h : LTo w w1 base B v dv a) (hb : Below w1.heap.size w1 w2) (hg : w2.grownBy w3 (some w1.heap.size)) : LTo w w3 base B v dv a := by
  obtain ⟨v1, dv1, h1, h2, h3⟩ := h
  have hc : Chg (fun k => k = w1.heap.size) w2 w3 := Chg.of_grown hg (fun k hk => by cases hk; exact .inl rfl)
  refine ⟨v1, dv1, (h1.below hb).chg hc (fun k hk q => by have := (h1.lt k hk).2; omega), ?_, h3⟩
  exact (h2.trans (Chg.of_below (S := fun _ => False) hb) (fun _ q => q.elim)).trans hc (fun i hi => .inr (by rw [hi]; exact h2.size))
theorem take_snoc2 {α : Type} {l : List α} {k : Nat} (h : k < l.length) : l.take k ++ [l[k]] = l.take (k + 1) := List.take_append_getElem h
set_option maxHeartbeats 12800000 in
theorem orderTurned_any (hRS : RefSum) (l : List Act19) (A0 : Option Addr) (c0 : Nat) (sk : Int) (hsk : 0 ≤ sk ∧ sk ≤ 255) (wh : Int) (hwh : 0 ≤ wh ∧ wh ≤ 255) (w : World) (hin : Act19sAt w w.heap.size A0 l) (hT : Tab w) :
    Calls Tryd.prog 6 #[.slice A0 l.length c0, .int .u8 sk, .int .u8 wh] w fun e w' => e = .returned (.bool true) ∧ Below w.heap.size w w' := by
  have MD := Lib.hid (made19_any l A0 c0 w hin hT)
  have HT : Hid (∀ W, Below w.heap.size w W → Tab W) := Lib.hid (fun W hW => hT.below hW hT.pos)
  have NW := Lib.hid logNew_any
  have AW : Hid (∀ W, Below w.heap.size w W → Calls Tryd.prog 9 #[] W fun e w' => e = .returned (.bool true) ∧ Below W.heap.size W w') := Lib.hid (fun W hW => awake19_any W (hT.below hW hT.pos))
  have hle : (Od.made l).length ≤ 40 := Od.madeK_len l 40
  generalize Od.made l = rs at *
  generalize l.length = n0 at *
  clear hin hT
  go_enter Tryd.func6, Tryd.ntmps6
  go_wp2_with fail
  refine MD.out.mono ?_
  rintro _ w1 ⟨rfl, ha1⟩
  have hgood := ha1.good
  have hlen := Lib.hid hle
  obtain ⟨v, dv, hl1, hb1, _⟩ := ha1
  have HL1 := Lib.hid hl1
  have HB1 := Lib.hid hb1
  have HGd := Lib.hid hgood
  clear hl1 hb1 hgood MD
  obtain ⟨B, hB⟩ : ∃ B, w.heap.size = B := ⟨_, rfl⟩
  have HL1' : Hid (LogAt w1 w.heap.size B v dv rs) := by rw [← hB]; exact HL1
  rw [show (Value.pointer (some ⟨w.heap.size, 0, none⟩)) = .pointer (some ⟨B, 0, none⟩) by rw [hB]]
  clear HL1 hB
  have HL1 := HL1'
  clear HL1'
  have HLt : Hid (∀ k, LS B v dv k → k < w1.heap.size) := Lib.hid (fun k hk => (HL1.out.lt k hk).2)
  go_wp2_with fail
  refine (NW.out w1).mono ?_
  rintro _ w2 ⟨rfl, hm2, hb2⟩
  have HM2 := Lib.hid hm2
  have HL2 := Lib.hid (HL1.out.below hb2)
  have HB2 := Lib.hid (two_below' HB1.out hb2)
  have HBm : Hid (w.heap.size ≤ w1.heap.size) := Lib.hid HB1.out.size
  have HSz2 : Hid (w1.heap.size < w2.heap.size) := Lib.hid HM2.out.row.lt
  clear hm2 hb2 HL1 HB1
  generalize w1.heap.size = Bm at *
  clear NW
  go_wp2_with fail
  refine (AW.out _ HB2.out).mono ?_
  rintro _ w4 ⟨rfl, hb4⟩
  have HM4 := Lib.hid (HM2.out.below hb4)
  have HL4 := Lib.hid (HL2.out.below hb4)
  have HB4 := Lib.hid (two_below' HB2.out hb4)
  have HSz4 : Hid (Bm < w4.heap.size) := Lib.hid (Nat.lt_of_lt_of_le HSz2.out hb4.size)
  clear hb4 HM2 HL2 HB2 AW
  go_wp2_with fail
  refine (HL4.out.all).mono ?_
  rintro _ w5 ⟨⟨u, rfl, ho⟩, hb5⟩
  have hA5 : ∀ k, u.ownBlock = some k → w4.heap.size ≤ k := fun k hk => (ho.own.lt k hk).1
  obtain ⟨A, c, rfl, hs5⟩ := ho.slR19 HGd.out.fits (by have := hlen.out; omega)
  have HAw : Hid (∀ a, A = some a → w4.heap.size ≤ a.block) := Lib.hid (fun a ha => by
    subst ha
    rcases ho.own.2 with ⟨e3, hn⟩ | ⟨g, cap, cur, e3, hbs, _⟩
    · injection e3 with e1 e2 e3
      cases e1
    · injection e3 with e1 e2 e3
      cases e1
      exact hbs)
  have HS5 := Lib.hid hs5
  have HM5 := Lib.hid (HM4.out.below hb5)
  have HL5 := Lib.hid (HL4.out.below hb5)
  have HB5 := Lib.hid (two_below' HB4.out hb5)
  have HSz5 : Hid (Bm < w5.heap.size) := Lib.hid (Nat.lt_of_lt_of_le HSz4.out hb5.size)
  clear ho hb5 hA5 hs5 HM4 HL4 HB4
  have HLSn : Hid (∀ q k : Nat, LS q (.slice none 0 0) (.slice none 0 0) k → k = q) := Lib.hid (fun q k hk => by
    rcases hk with h | h | h
    · exact h
    · cases h
    · cases h)
  obtain ⟨n, hn⟩ : ∃ n, rs.length = n := ⟨_, rfl⟩
  rw [hn]
  have HN := Lib.hid hn
  have hn40 : n ≤ 40 := by have := hlen.out; omega
  clear hn
  -- all stays
  have HLow5 : Hid (∀ W a, LTo w5 W Bm Bm (.slice none 0 0) (.slice none 0 0) a → Below w.heap.size w W) := Lib.hid (fun W a h => below_chg HB5.out h.chg19 HB5.out.size (fun k hk => by have := HLSn.out _ _ hk; have := HBm.out; omega))
  have HLd : Hid (∀ W i (hi : i < rs.length), LTo w5 W Bm Bm (.slice none 0 0) (.slice none 0 0) (rs.take i) → Calls Tryd.prog 11 #[.pointer (some ⟨Bm, 0, none⟩), .agg rs[i].cells.toArray] W fun e w' => e = .returned (.int .i64 0) ∧ LTo w5 w' Bm Bm (.slice none 0 0) (.slice none 0 0) (rs.take (i + 1))) := Lib.hid (fun W i hi h => by
    have := h.loadY rs[i] (HGd.out.fits _ (List.getElem_mem hi)) (HT.out _ (HLow5.out _ _ h)) (by rw [List.length_take]; have := hlen.out; omega) (HGd.out.loads i hi)
    rwa [take_snoc2 hi] at this)
  have HRn : Hid (∀ W a i (hi : i < rs.length), LTo w5 W Bm Bm (.slice none 0 0) (.slice none 0 0) a → ∃ gA oA, A = some ⟨gA, oA, none⟩ ∧ W.rangeAt gA (oA + i * 68) rs[i].cells) := Lib.hid (fun W a i hi h => by
    have hs := HS5.out.chg h.chg19 (Nat.le_refl _) (fun a ha q => by have := HAw.out a ha; have := HLSn.out _ _ q; have := HSz4.out; have := HSz2.out; omega)
    obtain ⟨gA, oA, e, _, hat⟩ := hs.1 (by intro e; rw [e] at hi; simp at hi)
    exact ⟨gA, oA, e, hat i hi⟩)
  have HSt : Hid (LTo w5 w5 Bm Bm (.slice none 0 0) (.slice none 0 0) (rs.take 0)) := Lib.hid (HM5.out.to (Below.refl _ _))
  by_cases hn0 : n = 0
  · subst hn0
    go_wp2_with fail
    go_ret
    exact ⟨rfl, HB5.out⟩
  have dn : ((n : Int) = 0) = False := by simp; omega
  have dn'' : (n = 0) = False := by simp; omega
  have dnb : ((n : Int) == 0) = false := by simp; omega
  have dnd : decide ((n : Int) = 0) = false := decide_eq_false (by omega)
  have dnd2 : decide (n = 0) = false := decide_eq_false (by omega)
  obtain ⟨k, hk⟩ : ∃ k : Nat, sk % (n : Int) = (k : Int) := Int.eq_ofNat_of_zero_le (Int.emod_nonneg _ (by omega))
  have hkn : k < n := by have := Int.emod_lt_of_pos sk (show (0 : Int) < (n : Int) by omega); omega
  have hrem0 : Int.tmod sk (n : Int) = (k : Int) := by rw [Int.tmod_eq_emod_of_nonneg hsk.1]; exact hk
  have esk : IntKind.i64.wrap sk = sk := IntWalk.i64_in _ (by omega)
  have ekk : IntKind.i64.wrap (k : Int) = (k : Int) := IntWalk.i64_in _ (by omega)
  have hkl : k < rs.length := by rw [HN.out]; exact hkn
  have HLen : Hid (∀ W, LTo w5 W Bm Bm (.slice none 0 0) (.slice none 0 0) (rs.take k) → Calls Tryd.prog 16 #[.pointer (some ⟨Bm, 0, none⟩)] W fun e w' => e = .returned (.int .i64 k) ∧ W = w') := Lib.hid (fun W h => by
    have := h.lenC
    rwa [show (rs.take k).length = k by rw [List.length_take, HN.out]; omega] at this)
  have HLdY : Hid (∀ W, LTo w5 W Bm Bm (.slice none 0 0) (.slice none 0 0) (rs.take k) → Calls Tryd.prog 11 #[.pointer (some ⟨Bm, 0, none⟩), .agg rs[k].cells.toArray] W fun e w' => e = .returned (.int .i64 0) ∧ LTo w5 w' Bm Bm (.slice none 0 0) (.slice none 0 0) (rs.take (k + 1))) := Lib.hid (fun W h => HLd.out W k hkl h)
  obtain ⟨gA, oA, rfl, hq0⟩ := HRn.out _ _ k hkl HSt.out
  clear hq0
  have HRk : Hid (∀ W a, LTo w5 W Bm Bm (.slice none 0 0) (.slice none 0 0) a → W.rangeAt gA (oA + k * 68) rs[k].cells) := Lib.hid (fun W a h => by
    obtain ⟨g, o, e, q⟩ := HRn.out W a k hkl h
    injection e with e
    injection e with e1 e2 e3
    subst e1
    subst e2
    exact q)
  have HKf := Lib.hid (HGd.out.fits _ (List.getElem_mem hkl))
  have HKr := Lib.hid (HGd.out.ranges k hkl)
  obtain ⟨rk, hrk⟩ : ∃ rk, rs[k] = rk := ⟨_, rfl⟩
  rw [hrk] at HLdY HRk HKf HKr
  have HKe : Hid (∃ h : k < rs.length, rs[k] = rk) := Lib.hid ⟨hkl, hrk⟩
  have HK68 := Lib.hid (Rp.cells_len HKf.out.prev HKf.out.hash)
  have HK1 := Lib.hid (Rp.cells_one HKf.out.prev HKf.out.hash)
  clear hk hsk hn0 hkl hrk
  have hzv := rp_zv
  have HBt : Hid (Tryd.prog.built 30 [] = some Rp.zero.cells.toArray) := Lib.hid Rp.zero_built0
  have HZ68 := Lib.hid (Rp.cells_len Rp.zero_fits.prev Rp.zero_fits.hash)
  have HZ1 := Lib.hid (Rp.cells_one Rp.zero_fits.prev Rp.zero_fits.hash)
  obtain ⟨ZT, hZT⟩ : ∃ ZT, Rp.zero.cells = ZT := ⟨_, rfl⟩
  rw [hZT] at hzv HBt HZ68 HZ1
  have HZT := Lib.hid hZT
  clear hZT
  go_wp2_with fail
  clear hrem0 esk ekk
  go_loopw [11] (fun s11 wr => ∃ i : Nat, i ≤ k ∧ s11 = .int .i64 i ∧ LTo w5 wr Bm Bm (.slice none 0 0) (.slice none 0 0) (rs.take i)) (fun s11 _ => k - (intOf s11).toNat)
  case atStart => exact ⟨0, Nat.zero_le _, rfl, HSt.out⟩
  case round =>
    obtain ⟨i, hi, rfl, ht⟩ := hrel
    have HTo := Lib.hid ht
    clear ht HSt
    have hi0 : (0 : Int) ≤ (i : Int) := by omega
    by_cases hin : i < k
    · have hii : (i : Int) < (k : Int) := by omega
      have hni : (i : Int) < (n : Int) := by omega
      have hil : i < rs.length := by rw [HN.out]; omega
      obtain ⟨g1, o1, e1, hrg⟩ := HRn.out _ _ i hil HTo.out
      injection e1 with e1
      injection e1 with e1 e2 e3
      subst e1
      subst e2
      have hf := HGd.out.fits _ (List.getElem_mem hil)
      have HC68 := Lib.hid (Rp.cells_len hf.prev hf.hash)
      have CL := Lib.hid (HLd.out wr i hil HTo.out)
      have HRg := Lib.hid hrg
      clear hrg hf e3
      generalize rs[i].cells = C at *
      clear hil
      go_wp2_with (first
      | ((with_reducible show wpList _ _ _ (⟨_, .load 30 (.tmp 46), _, _, _, _⟩ :: _) _ _); refine wpList_load_tx rfl 30 (.tmp 46) rfl gA (oA + i * 68) (rfl) C _ (HRg.out) Tryd.underlying30 rfl (by rw [rp_info, HC68.out]) ?_))
      refine CL.out.mono ?_
      rintro _ w6 ⟨rfl, ht6⟩
      have HT6 := Lib.hid ht6
      clear ht6 CL
      go_wp2_with fail
      exact ⟨⟨i + 1, by omega, by go_num, HT6.out⟩, by simp [intOf]; omega⟩
    · have hii : ¬ (i : Int) < (k : Int) := by omega
      have hik : k = i := by omega
      subst hik
      have hki : (k : Int) < (n : Int) := by omega
      have HRk0 := Lib.hid (HRk.out _ _ HTo.out)
      clear hin HLd HRn hi
      obtain ⟨CK, hCK⟩ : ∃ CK, rk.cells = CK := ⟨_, rfl⟩
      have HCK := Lib.hid hCK
      rw [hCK] at HRk HRk0 HLdY HK68 HK1
      clear hCK
      have h5 : wh % 5 = 0 ∨ wh % 5 = 1 ∨ wh % 5 = 2 ∨ wh % 5 = 3 ∨ wh % 5 = 4 := by omega
      rcases h5 with hs | hs | hs | hs | hs
      · skip
        have hs : wh % 5 = 0 := hs
        have hrem : Int.tmod wh 5 = 0 := by rw [Int.tmod_eq_emod_of_nonneg hwh.1]; exact hs
        have ewr : IntKind.u8.wrap 0 = 0 := by decide
        have HKc : Hid (∀ {g : Nat} (W : World), Row W g 30 CK → W.rangeAt g 0 rk.cells) := Lib.hid (fun W h => by rw [HCK.out]; exact row_range h)
        clear hs hwh
        have hov : IntKind.i64.wrap (rk.index + 1) = rk.index + 1 := IntWalk.i64_in _ (by have := HKr.out; omega)
        obtain ⟨rr, hrr⟩ : ∃ rr : Rp, ({ rk with index := rk.index + 1 } : Rp) = rr := ⟨_, rfl⟩
        have HRR := Lib.hid hrr
        have HRf : Hid rr.Fits := Lib.hid (by rw [← hrr]; exact ⟨HKf.out.prev, HKf.out.hash, HKf.out.body, ⟨by have := HKr.out; simp only; omega, by have := HKr.out; simp only; omega⟩, HKf.out.kind, HKf.out.time⟩)
        have HNo : Hid (¬ Od.fitsIn (rs.take k) rr) := Lib.hid (by rw [← hrr]; obtain ⟨hk, e⟩ := HKe.out; subst e; exact Od.Good.noindex hk HGd.out (by simp only; omega))
        have HLE := Lib.hid (fun h => @Od.fitsIn_link (rs.take k) rr h)
        obtain ⟨X, ee, hXe⟩ : ∃ X ee, Rp.linkE ⟨rr.index, rr.kind, rr.time, rr.body, rr.prev, Tx.zero⟩ = (X, ee) := ⟨_, _, rfl⟩
        have HXf : Hid X.Fits := Lib.hid (by have := linkE_fits (r := ⟨rr.index, rr.kind, rr.time, rr.body, rr.prev, Tx.zero⟩) ⟨HRf.out.prev, rfl, HRf.out.body, HRf.out.index, HRf.out.kind, HRf.out.time⟩; rw [hXe] at this; exact this)
        have HLk : Hid (∀ W, Calls Tryd.prog 23 #[.agg (bRow rr.prev).toList.toArray, .int .i64 rr.index, .int .i64 rr.kind, .int .i64 rr.time, .string rr.body] W fun e w' => e = .returned (.tuple #[.agg X.cells.toArray, .int .i64 ee]) ∧ Below W.heap.size W w') := Lib.hid (fun W => by
          have := rlink5_any hRS rr.index rr.kind rr.time rr.body rr.prev HRf.out.prev W
          rw [hXe] at this
          rw [Array.toArray_toList]
          exact this)
        rw [hXe] at HLE
        have HLdN : Hid (¬ Od.fitsIn (rs.take k) rr → ∀ W, LTo w5 W Bm Bm (.slice none 0 0) (.slice none 0 0) (rs.take k) → Calls Tryd.prog 11 #[.pointer (some ⟨Bm, 0, none⟩), .agg rr.cells.toArray] W fun e w' => e = .returned (.int .i64 7) ∧ LTo w5 w' Bm Bm (.slice none 0 0) (.slice none 0 0) (rs.take k)) := Lib.hid (fun hnf W h => h.loadN rr HRf.out (HT.out _ (HLow5.out _ _ h)) (by rw [List.length_take]; have := hlen.out; omega) hnf)
        have HPc : Hid (∀ {g : Nat} (W : World), Row W g 30 rr.cells → W.rangeAt g 4 (bRow rr.prev).toList) := Lib.hid (fun W h => rp_prev HRf.out.prev h)
        have HPh : Hid (∀ {g : Nat} (W : World), Row W g 30 rr.cells → W.rangeAt g 36 (bRow rr.hash).toList) := Lib.hid (fun W h => by have := (Rp.at HRf.out.prev (row_range h)).2.2.2.2; rwa [Nat.zero_add] at this)
        have HXh : Hid (∀ {g : Nat} (W : World), Row W g 30 X.cells → W.rangeAt g 36 (bRow X.hash).toList) := Lib.hid (fun W h => by have := (Rp.at HXf.out.prev (row_range h)).2.2.2.2; rwa [Nat.zero_add] at this)
        have HP32 := Lib.hid (Tx.bRow_len rr.prev HRf.out.prev)
        have HR32 := Lib.hid (Tx.bRow_len rr.hash HRf.out.hash)
        have HX32 := Lib.hid (Tx.bRow_len X.hash HXf.out.hash)
        have HX68 := Lib.hid (Rp.cells_len HXf.out.prev HXf.out.hash)
        have HX1 := Lib.hid (Rp.cells_one HXf.out.prev HXf.out.hash)
        have HCR68 := Lib.hid (Rp.cells_len HRf.out.prev HRf.out.hash)
        clear hrr hXe
        go_wp2_with (first
          | ((with_reducible show wpList _ _ _ (⟨_, .load 30 (.tmp 51), _, _, _, _⟩ :: _) _ _); refine wpList_load_tx rfl 30 (.tmp 51) rfl gA (oA + k * 68) (rfl) CK _ (HRk0.out) Tryd.underlying30 rfl (by rw [rp_info, HK68.out]) ?_)
          | (
             with_reducible show wpList _ _ _ (⟨_, .store 30 (.tmp 12) _, _, _, _, _⟩ :: _) _ _
             refine wpList_store_at rfl 30 (.tmp 12) (.tmp 52) rfl wr.heap.size 0 CK ZT _ rfl rfl (Row.new wr 30 ZT) (by have := HZ68.out; have := HK68.out; omega) (by rw [rp_info, HK68.out]) HK1.out ?_
             intro w9 hr hg
             rw [splice_all (HK68.out.trans HZ68.out.symm)] at hr
             have hbx := below_own ((Below.refl wr.heap.size wr).alloc (Nat.le_refl _) (.cells ZT.toArray 30)) hg (fun k hk => by cases hk; exact Nat.le_refl _)
             have HTw : Hid (∀ W, w9.grownBy W (some wr.heap.size) → LTo w5 W Bm Bm (.slice none 0 0) (.slice none 0 0) (rs.take k)) := Lib.hid (fun W h => HTo.out.box_write hbx h)
             have HR9 := Lib.hid hr
             clear hbx
             generalize wr.heap.size = g12 at *
             obtain ⟨cx0, cx1, cx2, _, _⟩ := Rp.at HKf.out.prev (HKc.out _ HR9.out)
             rw [Nat.zero_add] at cx1 cx2
             clear hr hg)
          | ((with_reducible show wpList _ _ _ (⟨_, .store 3 (.tmp 64) _, _, _, _, _⟩ :: _) _ _)
             refine wpList_store_int rfl 3 (.tmp 64) (.tmp 63) rfl g12 0 30 CK (rk.index + 1) rfl rfl HR9.out (by rw [HK68.out]; decide) (by kernel_rfl) ?_
             intro w10 hr hg
             have HTt := Lib.hid (HTw.out w10 hg)
             have hrw := hr
             rw [← HCK.out, Rp.set_index, HRR.out] at hrw
             have HRw := Lib.hid hrw
             clear hr hg hrw
             obtain ⟨x0, x1, x2, x3, _⟩ := Rp.at HRf.out.prev (row_range HRw.out)
             rw [Nat.zero_add] at x1 x2 x3
             have HPr := Lib.hid (HPc.out _ HRw.out))
          | ((with_reducible show wpList _ _ _ (⟨_, .load 28 (.tmp 88), _, _, _, _⟩ :: _) _ _); refine wpList_load_tx rfl 28 (.tmp 88) rfl g12 4 (rfl) (bRow rr.prev).toList _ (HPr.out) Tryd.underlying28 rfl (by rw [hash_info, HP32.out]) ?_))
        refine (HLk.out _).mono ?_
        rintro _ w11 ⟨rfl, hb11⟩
        have HTa := Lib.hid (HTt.out.below19 hb11)
        have HRa := Lib.hid (HRw.out.below hb11)
        clear hb11 HTt HRw x0 x1 x2 x3 HLk HTw HTo
        by_cases he : ee = 0
        · subst he
          go_wp2_with (first
            | (
               with_reducible show wpList _ _ _ (⟨_, .store 30 (.tmp 13) _, _, _, _, _⟩ :: _) _ _
               refine wpList_store_at rfl 30 (.tmp 13) (.tmp 99) rfl w11.heap.size 0 X.cells ZT _ rfl rfl (Row.new w11 30 ZT) (by have := HZ68.out; have := HX68.out; omega) (by rw [rp_info, HX68.out]) HX1.out ?_
               intro w12 hr hg
               rw [splice_all (HX68.out.trans HZ68.out.symm)] at hr
               have hbx := below_own ((Below.refl w11.heap.size w11).alloc (Nat.le_refl _) (.cells ZT.toArray 30)) hg (fun k hk => by cases hk; exact Nat.le_refl _)
               have HTb := Lib.hid (HTa.out.below19 hbx)
               have HRb := Lib.hid (HRa.out.below hbx)
               have HXb := Lib.hid hr
               clear hbx
               clear hr hg)
            | ((with_reducible show wpList _ _ _ (⟨_, .load 30 (.tmp 12), _, _, _, _⟩ :: _) _ _); refine wpList_load_tx rfl 30 (.tmp 12) rfl g12 0 (rfl) rr.cells _ (row_range HRb.out) Tryd.underlying30 rfl (by rw [rp_info, HCR68.out]) ?_))
          refine (HLdN.out HNo.out _ HTb.out).mono ?_
          rintro _ w14 ⟨rfl, ht14⟩
          have HTc := Lib.hid ht14
          clear ht14
          go_wp2_with fail
          refine (HLen.out _ HTc.out).mono ?_
          rintro _ _ ⟨rfl, rfl⟩
          go_wp2_with (first
            | ((with_reducible show wpList _ _ _ (⟨_, .load 30 (.tmp 134), _, _, _, _⟩ :: _) _ _); refine wpList_load_tx rfl 30 (.tmp 134) rfl gA (oA + k * 68) (rfl) CK _ (HRk.out _ _ HTc.out) Tryd.underlying30 rfl (by rw [rp_info, HK68.out]) ?_))
          refine (HLdY.out _ HTc.out).mono ?_
          rintro _ w15 ⟨rfl, ht15⟩
          have HLz := Lib.hid (HLow5.out _ _ ht15)
          clear ht15
          go_wp2_with fail
          go_ret
          exact ⟨by first | rfl | simp, HLz.out⟩
        · have de : decide (ee = 0) = false := decide_eq_false he
          have deb : (ee == 0) = false := by simpa using he
          have dep : (ee = 0) = False := by simpa using he
          have HNo : Hid (¬ Od.fitsIn (rs.take k) rr) := Lib.hid (fun h => he (by have := HLE.out h; injection this))
          clear he
          go_wp2_with (first
            | (
               with_reducible show wpList _ _ _ (⟨_, .store 30 (.tmp 13) _, _, _, _, _⟩ :: _) _ _
               refine wpList_store_at rfl 30 (.tmp 13) (.tmp 99) rfl w11.heap.size 0 X.cells ZT _ rfl rfl (Row.new w11 30 ZT) (by have := HZ68.out; have := HX68.out; omega) (by rw [rp_info, HX68.out]) HX1.out ?_
               intro w12 hr hg
               rw [splice_all (HX68.out.trans HZ68.out.symm)] at hr
               have hbx := below_own ((Below.refl w11.heap.size w11).alloc (Nat.le_refl _) (.cells ZT.toArray 30)) hg (fun k hk => by cases hk; exact Nat.le_refl _)
               have HTb := Lib.hid (HTa.out.below19 hbx)
               have HRb := Lib.hid (HRa.out.below hbx)
               have HXb := Lib.hid hr
               clear hbx
               clear hr hg)
            | ((with_reducible show wpList _ _ _ (⟨_, .load 30 (.tmp 12), _, _, _, _⟩ :: _) _ _); refine wpList_load_tx rfl 30 (.tmp 12) rfl g12 0 (rfl) rr.cells _ (row_range HRb.out) Tryd.underlying30 rfl (by rw [rp_info, HCR68.out]) ?_))
          refine (HLdN.out HNo.out _ HTb.out).mono ?_
          rintro _ w14 ⟨rfl, ht14⟩
          have HTc := Lib.hid ht14
          clear ht14
          go_wp2_with fail
          refine (HLen.out _ HTc.out).mono ?_
          rintro _ _ ⟨rfl, rfl⟩
          go_wp2_with (first
            | ((with_reducible show wpList _ _ _ (⟨_, .load 30 (.tmp 134), _, _, _, _⟩ :: _) _ _); refine wpList_load_tx rfl 30 (.tmp 134) rfl gA (oA + k * 68) (rfl) CK _ (HRk.out _ _ HTc.out) Tryd.underlying30 rfl (by rw [rp_info, HK68.out]) ?_))
          refine (HLdY.out _ HTc.out).mono ?_
          rintro _ w15 ⟨rfl, ht15⟩
          have HLz := Lib.hid (HLow5.out _ _ ht15)
          clear ht15
          go_wp2_with fail
          go_ret
          exact ⟨by first | rfl | simp, HLz.out⟩
      · skip
        have hs : wh % 5 = 1 := hs
        have hrem : Int.tmod wh 5 = 1 := by rw [Int.tmod_eq_emod_of_nonneg hwh.1]; exact hs
        have ewr : IntKind.u8.wrap 1 = 1 := by decide
        have HKc : Hid (∀ {g : Nat} (W : World), Row W g 30 CK → W.rangeAt g 0 rk.cells) := Lib.hid (fun W h => by rw [HCK.out]; exact row_range h)
        clear hs hwh
        have hov : IntKind.i64.wrap (rk.time + 1) = rk.time + 1 := IntWalk.i64_in _ (by have := HKr.out; omega)
        obtain ⟨rr, hrr⟩ : ∃ rr : Rp, ({ rk with time := rk.time + 1 } : Rp) = rr := ⟨_, rfl⟩
        have HRR := Lib.hid hrr
        have HRf : Hid rr.Fits := Lib.hid (by rw [← hrr]; exact ⟨HKf.out.prev, HKf.out.hash, HKf.out.body, HKf.out.index, HKf.out.kind, ⟨by have := HKr.out; simp only; omega, by have := HKr.out; simp only; omega⟩⟩)
        have HLE := Lib.hid (fun h => @Od.fitsIn_link (rs.take k) rr h)
        obtain ⟨X, ee, hXe⟩ : ∃ X ee, Rp.linkE ⟨rr.index, rr.kind, rr.time, rr.body, rr.prev, Tx.zero⟩ = (X, ee) := ⟨_, _, rfl⟩
        have HXf : Hid X.Fits := Lib.hid (by have := linkE_fits (r := ⟨rr.index, rr.kind, rr.time, rr.body, rr.prev, Tx.zero⟩) ⟨HRf.out.prev, rfl, HRf.out.body, HRf.out.index, HRf.out.kind, HRf.out.time⟩; rw [hXe] at this; exact this)
        have HLk : Hid (∀ W, Calls Tryd.prog 23 #[.agg (bRow rr.prev).toList.toArray, .int .i64 rr.index, .int .i64 rr.kind, .int .i64 rr.time, .string rr.body] W fun e w' => e = .returned (.tuple #[.agg X.cells.toArray, .int .i64 ee]) ∧ Below W.heap.size W w') := Lib.hid (fun W => by
          have := rlink5_any hRS rr.index rr.kind rr.time rr.body rr.prev HRf.out.prev W
          rw [hXe] at this
          rw [Array.toArray_toList]
          exact this)
        rw [hXe] at HLE
        have HLdN : Hid (¬ Od.fitsIn (rs.take k) rr → ∀ W, LTo w5 W Bm Bm (.slice none 0 0) (.slice none 0 0) (rs.take k) → Calls Tryd.prog 11 #[.pointer (some ⟨Bm, 0, none⟩), .agg rr.cells.toArray] W fun e w' => e = .returned (.int .i64 7) ∧ LTo w5 w' Bm Bm (.slice none 0 0) (.slice none 0 0) (rs.take k)) := Lib.hid (fun hnf W h => h.loadN rr HRf.out (HT.out _ (HLow5.out _ _ h)) (by rw [List.length_take]; have := hlen.out; omega) hnf)
        have HPc : Hid (∀ {g : Nat} (W : World), Row W g 30 rr.cells → W.rangeAt g 4 (bRow rr.prev).toList) := Lib.hid (fun W h => rp_prev HRf.out.prev h)
        have HPh : Hid (∀ {g : Nat} (W : World), Row W g 30 rr.cells → W.rangeAt g 36 (bRow rr.hash).toList) := Lib.hid (fun W h => by have := (Rp.at HRf.out.prev (row_range h)).2.2.2.2; rwa [Nat.zero_add] at this)
        have HXh : Hid (∀ {g : Nat} (W : World), Row W g 30 X.cells → W.rangeAt g 36 (bRow X.hash).toList) := Lib.hid (fun W h => by have := (Rp.at HXf.out.prev (row_range h)).2.2.2.2; rwa [Nat.zero_add] at this)
        have HP32 := Lib.hid (Tx.bRow_len rr.prev HRf.out.prev)
        have HR32 := Lib.hid (Tx.bRow_len rr.hash HRf.out.hash)
        have HX32 := Lib.hid (Tx.bRow_len X.hash HXf.out.hash)
        have HX68 := Lib.hid (Rp.cells_len HXf.out.prev HXf.out.hash)
        have HX1 := Lib.hid (Rp.cells_one HXf.out.prev HXf.out.hash)
        have HCR68 := Lib.hid (Rp.cells_len HRf.out.prev HRf.out.hash)
        clear hrr hXe
        go_wp2_with (first
          | ((with_reducible show wpList _ _ _ (⟨_, .load 30 (.tmp 51), _, _, _, _⟩ :: _) _ _); refine wpList_load_tx rfl 30 (.tmp 51) rfl gA (oA + k * 68) (rfl) CK _ (HRk0.out) Tryd.underlying30 rfl (by rw [rp_info, HK68.out]) ?_)
          | (
             with_reducible show wpList _ _ _ (⟨_, .store 30 (.tmp 12) _, _, _, _, _⟩ :: _) _ _
             refine wpList_store_at rfl 30 (.tmp 12) (.tmp 52) rfl wr.heap.size 0 CK ZT _ rfl rfl (Row.new wr 30 ZT) (by have := HZ68.out; have := HK68.out; omega) (by rw [rp_info, HK68.out]) HK1.out ?_
             intro w9 hr hg
             rw [splice_all (HK68.out.trans HZ68.out.symm)] at hr
             have hbx := below_own ((Below.refl wr.heap.size wr).alloc (Nat.le_refl _) (.cells ZT.toArray 30)) hg (fun k hk => by cases hk; exact Nat.le_refl _)
             have HTw : Hid (∀ W, w9.grownBy W (some wr.heap.size) → LTo w5 W Bm Bm (.slice none 0 0) (.slice none 0 0) (rs.take k)) := Lib.hid (fun W h => HTo.out.box_write hbx h)
             have HR9 := Lib.hid hr
             clear hbx
             generalize wr.heap.size = g12 at *
             obtain ⟨cx0, cx1, cx2, _, _⟩ := Rp.at HKf.out.prev (HKc.out _ HR9.out)
             rw [Nat.zero_add] at cx1 cx2
             clear hr hg)
          | ((with_reducible show wpList _ _ _ (⟨_, .store 3 (.tmp 70) _, _, _, _, _⟩ :: _) _ _)
             refine wpList_store_int rfl 3 (.tmp 70) (.tmp 69) rfl g12 2 30 CK (rk.time + 1) rfl rfl HR9.out (by rw [HK68.out]; decide) (by kernel_rfl) ?_
             intro w10 hr hg
             have HTt := Lib.hid (HTw.out w10 hg)
             have hrw := hr
             rw [← HCK.out, Rp.set_time, HRR.out] at hrw
             have HRw := Lib.hid hrw
             clear hr hg hrw
             obtain ⟨x0, x1, x2, x3, _⟩ := Rp.at HRf.out.prev (row_range HRw.out)
             rw [Nat.zero_add] at x1 x2 x3
             have HPr := Lib.hid (HPc.out _ HRw.out))
          | ((with_reducible show wpList _ _ _ (⟨_, .load 28 (.tmp 88), _, _, _, _⟩ :: _) _ _); refine wpList_load_tx rfl 28 (.tmp 88) rfl g12 4 (rfl) (bRow rr.prev).toList _ (HPr.out) Tryd.underlying28 rfl (by rw [hash_info, HP32.out]) ?_))
        refine (HLk.out _).mono ?_
        rintro _ w11 ⟨rfl, hb11⟩
        have HTa := Lib.hid (HTt.out.below19 hb11)
        have HRa := Lib.hid (HRw.out.below hb11)
        clear hb11 HTt HRw x0 x1 x2 x3 HLk HTw HTo
        by_cases he : ee = 0
        · subst he
          by_cases hh : X.hash = rr.hash
          · have heqX : ∀ W : World, (Op.equalIn 10000 28 (.agg (bRow X.hash).toList.toArray) (.agg (bRow rr.hash).toList.toArray)).run Tryd.prog W = .ok true W := fun W => by rw [Array.toArray_toList, Array.toArray_toList, hash_eq W _ _ HXf.out.hash HRf.out.hash, decide_eq_true hh]
            clear hh
            go_wp2_with (first
              | (
                 with_reducible show wpList _ _ _ (⟨_, .store 30 (.tmp 13) _, _, _, _, _⟩ :: _) _ _
                 refine wpList_store_at rfl 30 (.tmp 13) (.tmp 99) rfl w11.heap.size 0 X.cells ZT _ rfl rfl (Row.new w11 30 ZT) (by have := HZ68.out; have := HX68.out; omega) (by rw [rp_info, HX68.out]) HX1.out ?_
                 intro w12 hr hg
                 rw [splice_all (HX68.out.trans HZ68.out.symm)] at hr
                 have hbx := below_own ((Below.refl w11.heap.size w11).alloc (Nat.le_refl _) (.cells ZT.toArray 30)) hg (fun k hk => by cases hk; exact Nat.le_refl _)
                 have HTb := Lib.hid (HTa.out.below19 hbx)
                 have HRb := Lib.hid (HRa.out.below hbx)
                 have HXb := Lib.hid hr
                 clear hbx
                 clear hr hg)
              | ((with_reducible show wpList _ _ _ (⟨_, .load 28 (.tmp 114), _, _, _, _⟩ :: _) _ _); refine wpList_load_tx rfl 28 (.tmp 114) rfl w11.heap.size 36 (rfl) (bRow X.hash).toList _ (HXh.out _ HXb.out) Tryd.underlying28 rfl (by rw [hash_info, HX32.out]) ?_)
              | ((with_reducible show wpList _ _ _ (⟨_, .load 28 (.tmp 116), _, _, _, _⟩ :: _) _ _); refine wpList_load_tx rfl 28 (.tmp 116) rfl g12 36 (rfl) (bRow rr.hash).toList _ (HPh.out _ HRb.out) Tryd.underlying28 rfl (by rw [hash_info, HR32.out]) ?_))
            have HLz := Lib.hid (HLow5.out _ _ HTb.out)
            go_ret
            exact ⟨by first | rfl | simp, HLz.out⟩
          · have heqX : ∀ W : World, (Op.equalIn 10000 28 (.agg (bRow X.hash).toList.toArray) (.agg (bRow rr.hash).toList.toArray)).run Tryd.prog W = .ok false W := fun W => by rw [Array.toArray_toList, Array.toArray_toList, hash_eq W _ _ HXf.out.hash HRf.out.hash, decide_eq_false hh]
            have HNo : Hid (¬ Od.fitsIn (rs.take k) rr) := Lib.hid (fun h => hh (by have := HLE.out h; injection this with q1 q2; rw [q1]))
            clear hh
            go_wp2_with (first
              | (
                 with_reducible show wpList _ _ _ (⟨_, .store 30 (.tmp 13) _, _, _, _, _⟩ :: _) _ _
                 refine wpList_store_at rfl 30 (.tmp 13) (.tmp 99) rfl w11.heap.size 0 X.cells ZT _ rfl rfl (Row.new w11 30 ZT) (by have := HZ68.out; have := HX68.out; omega) (by rw [rp_info, HX68.out]) HX1.out ?_
                 intro w12 hr hg
                 rw [splice_all (HX68.out.trans HZ68.out.symm)] at hr
                 have hbx := below_own ((Below.refl w11.heap.size w11).alloc (Nat.le_refl _) (.cells ZT.toArray 30)) hg (fun k hk => by cases hk; exact Nat.le_refl _)
                 have HTb := Lib.hid (HTa.out.below19 hbx)
                 have HRb := Lib.hid (HRa.out.below hbx)
                 have HXb := Lib.hid hr
                 clear hbx
                 clear hr hg)
              | ((with_reducible show wpList _ _ _ (⟨_, .load 28 (.tmp 114), _, _, _, _⟩ :: _) _ _); refine wpList_load_tx rfl 28 (.tmp 114) rfl w11.heap.size 36 (rfl) (bRow X.hash).toList _ (HXh.out _ HXb.out) Tryd.underlying28 rfl (by rw [hash_info, HX32.out]) ?_)
              | ((with_reducible show wpList _ _ _ (⟨_, .load 28 (.tmp 116), _, _, _, _⟩ :: _) _ _); refine wpList_load_tx rfl 28 (.tmp 116) rfl g12 36 (rfl) (bRow rr.hash).toList _ (HPh.out _ HRb.out) Tryd.underlying28 rfl (by rw [hash_info, HR32.out]) ?_)
              | ((with_reducible show wpList _ _ _ (⟨_, .load 30 (.tmp 12), _, _, _, _⟩ :: _) _ _); refine wpList_load_tx rfl 30 (.tmp 12) rfl g12 0 (rfl) rr.cells _ (row_range HRb.out) Tryd.underlying30 rfl (by rw [rp_info, HCR68.out]) ?_))
            refine (HLdN.out HNo.out _ HTb.out).mono ?_
            rintro _ w14 ⟨rfl, ht14⟩
            have HTc := Lib.hid ht14
            clear ht14
            go_wp2_with fail
            refine (HLen.out _ HTc.out).mono ?_
            rintro _ _ ⟨rfl, rfl⟩
            go_wp2_with (first
              | ((with_reducible show wpList _ _ _ (⟨_, .load 30 (.tmp 134), _, _, _, _⟩ :: _) _ _); refine wpList_load_tx rfl 30 (.tmp 134) rfl gA (oA + k * 68) (rfl) CK _ (HRk.out _ _ HTc.out) Tryd.underlying30 rfl (by rw [rp_info, HK68.out]) ?_))
            refine (HLdY.out _ HTc.out).mono ?_
            rintro _ w15 ⟨rfl, ht15⟩
            have HLz := Lib.hid (HLow5.out _ _ ht15)
            clear ht15
            go_wp2_with fail
            go_ret
            exact ⟨by first | rfl | simp, HLz.out⟩
        · have de : decide (ee = 0) = false := decide_eq_false he
          have deb : (ee == 0) = false := by simpa using he
          have dep : (ee = 0) = False := by simpa using he
          have HNo : Hid (¬ Od.fitsIn (rs.take k) rr) := Lib.hid (fun h => he (by have := HLE.out h; injection this))
          clear he
          go_wp2_with (first
            | (
               with_reducible show wpList _ _ _ (⟨_, .store 30 (.tmp 13) _, _, _, _, _⟩ :: _) _ _
               refine wpList_store_at rfl 30 (.tmp 13) (.tmp 99) rfl w11.heap.size 0 X.cells ZT _ rfl rfl (Row.new w11 30 ZT) (by have := HZ68.out; have := HX68.out; omega) (by rw [rp_info, HX68.out]) HX1.out ?_
               intro w12 hr hg
               rw [splice_all (HX68.out.trans HZ68.out.symm)] at hr
               have hbx := below_own ((Below.refl w11.heap.size w11).alloc (Nat.le_refl _) (.cells ZT.toArray 30)) hg (fun k hk => by cases hk; exact Nat.le_refl _)
               have HTb := Lib.hid (HTa.out.below19 hbx)
               have HRb := Lib.hid (HRa.out.below hbx)
               have HXb := Lib.hid hr
               clear hbx
               clear hr hg)
            | ((with_reducible show wpList _ _ _ (⟨_, .load 30 (.tmp 12), _, _, _, _⟩ :: _) _ _); refine wpList_load_tx rfl 30 (.tmp 12) rfl g12 0 (rfl) rr.cells _ (row_range HRb.out) Tryd.underlying30 rfl (by rw [rp_info, HCR68.out]) ?_))
          refine (HLdN.out HNo.out _ HTb.out).mono ?_
          rintro _ w14 ⟨rfl, ht14⟩
          have HTc := Lib.hid ht14
          clear ht14
          go_wp2_with fail
          refine (HLen.out _ HTc.out).mono ?_
          rintro _ _ ⟨rfl, rfl⟩
          go_wp2_with (first
            | ((with_reducible show wpList _ _ _ (⟨_, .load 30 (.tmp 134), _, _, _, _⟩ :: _) _ _); refine wpList_load_tx rfl 30 (.tmp 134) rfl gA (oA + k * 68) (rfl) CK _ (HRk.out _ _ HTc.out) Tryd.underlying30 rfl (by rw [rp_info, HK68.out]) ?_))
          refine (HLdY.out _ HTc.out).mono ?_
          rintro _ w15 ⟨rfl, ht15⟩
          have HLz := Lib.hid (HLow5.out _ _ ht15)
          clear ht15
          go_wp2_with fail
          go_ret
          exact ⟨by first | rfl | simp, HLz.out⟩
      · skip
        have hs : wh % 5 = 2 := hs
        have hrem : Int.tmod wh 5 = 2 := by rw [Int.tmod_eq_emod_of_nonneg hwh.1]; exact hs
        have ewr : IntKind.u8.wrap 2 = 2 := by decide
        have HKc : Hid (∀ {g : Nat} (W : World), Row W g 30 CK → W.rangeAt g 0 rk.cells) := Lib.hid (fun W h => by rw [HCK.out]; exact row_range h)
        clear hs hwh
        obtain ⟨yy, hy1, hy2⟩ := flip1 (rk.hash[0]'(by rw [HKf.out.hash]; decide))
        have HY := Lib.hid hy2
        clear hy2
        obtain ⟨rr, hrr⟩ : ∃ rr : Rp, ({ rk with hash := rk.hash.set 0 yy } : Rp) = rr := ⟨_, rfl⟩
        have HRR := Lib.hid hrr
        have HRf : Hid rr.Fits := Lib.hid (by rw [← hrr]; exact ⟨HKf.out.prev, by simp only [List.length_set]; exact HKf.out.hash, HKf.out.body, HKf.out.index, HKf.out.kind, HKf.out.time⟩)
        have HNo : Hid (¬ Od.fitsIn (rs.take k) rr) := Lib.hid (by rw [← hrr]; obtain ⟨hk, e⟩ := HKe.out; subst e; exact Od.Good.nohash hk HGd.out rfl rfl rfl (set_ne _ HY.out))
        have HLE := Lib.hid (fun h => @Od.fitsIn_link (rs.take k) rr h)
        obtain ⟨X, ee, hXe⟩ : ∃ X ee, Rp.linkE ⟨rr.index, rr.kind, rr.time, rr.body, rr.prev, Tx.zero⟩ = (X, ee) := ⟨_, _, rfl⟩
        have HXf : Hid X.Fits := Lib.hid (by have := linkE_fits (r := ⟨rr.index, rr.kind, rr.time, rr.body, rr.prev, Tx.zero⟩) ⟨HRf.out.prev, rfl, HRf.out.body, HRf.out.index, HRf.out.kind, HRf.out.time⟩; rw [hXe] at this; exact this)
        have HLk : Hid (∀ W, Calls Tryd.prog 23 #[.agg (bRow rr.prev).toList.toArray, .int .i64 rr.index, .int .i64 rr.kind, .int .i64 rr.time, .string rr.body] W fun e w' => e = .returned (.tuple #[.agg X.cells.toArray, .int .i64 ee]) ∧ Below W.heap.size W w') := Lib.hid (fun W => by
          have := rlink5_any hRS rr.index rr.kind rr.time rr.body rr.prev HRf.out.prev W
          rw [hXe] at this
          rw [Array.toArray_toList]
          exact this)
        rw [hXe] at HLE
        have HLdN : Hid (¬ Od.fitsIn (rs.take k) rr → ∀ W, LTo w5 W Bm Bm (.slice none 0 0) (.slice none 0 0) (rs.take k) → Calls Tryd.prog 11 #[.pointer (some ⟨Bm, 0, none⟩), .agg rr.cells.toArray] W fun e w' => e = .returned (.int .i64 7) ∧ LTo w5 w' Bm Bm (.slice none 0 0) (.slice none 0 0) (rs.take k)) := Lib.hid (fun hnf W h => h.loadN rr HRf.out (HT.out _ (HLow5.out _ _ h)) (by rw [List.length_take]; have := hlen.out; omega) hnf)
        have HPc : Hid (∀ {g : Nat} (W : World), Row W g 30 rr.cells → W.rangeAt g 4 (bRow rr.prev).toList) := Lib.hid (fun W h => rp_prev HRf.out.prev h)
        have HPh : Hid (∀ {g : Nat} (W : World), Row W g 30 rr.cells → W.rangeAt g 36 (bRow rr.hash).toList) := Lib.hid (fun W h => by have := (Rp.at HRf.out.prev (row_range h)).2.2.2.2; rwa [Nat.zero_add] at this)
        have HXh : Hid (∀ {g : Nat} (W : World), Row W g 30 X.cells → W.rangeAt g 36 (bRow X.hash).toList) := Lib.hid (fun W h => by have := (Rp.at HXf.out.prev (row_range h)).2.2.2.2; rwa [Nat.zero_add] at this)
        have HP32 := Lib.hid (Tx.bRow_len rr.prev HRf.out.prev)
        have HR32 := Lib.hid (Tx.bRow_len rr.hash HRf.out.hash)
        have HX32 := Lib.hid (Tx.bRow_len X.hash HXf.out.hash)
        have HX68 := Lib.hid (Rp.cells_len HXf.out.prev HXf.out.hash)
        have HX1 := Lib.hid (Rp.cells_one HXf.out.prev HXf.out.hash)
        have HCR68 := Lib.hid (Rp.cells_len HRf.out.prev HRf.out.hash)
        clear hrr hXe
        go_wp2_with (first
          | ((with_reducible show wpList _ _ _ (⟨_, .load 30 (.tmp 51), _, _, _, _⟩ :: _) _ _); refine wpList_load_tx rfl 30 (.tmp 51) rfl gA (oA + k * 68) (rfl) CK _ (HRk0.out) Tryd.underlying30 rfl (by rw [rp_info, HK68.out]) ?_)
          | (
             with_reducible show wpList _ _ _ (⟨_, .store 30 (.tmp 12) _, _, _, _, _⟩ :: _) _ _
             refine wpList_store_at rfl 30 (.tmp 12) (.tmp 52) rfl wr.heap.size 0 CK ZT _ rfl rfl (Row.new wr 30 ZT) (by have := HZ68.out; have := HK68.out; omega) (by rw [rp_info, HK68.out]) HK1.out ?_
             intro w9 hr hg
             rw [splice_all (HK68.out.trans HZ68.out.symm)] at hr
             have hbx := below_own ((Below.refl wr.heap.size wr).alloc (Nat.le_refl _) (.cells ZT.toArray 30)) hg (fun k hk => by cases hk; exact Nat.le_refl _)
             have HTw : Hid (∀ W, w9.grownBy W (some wr.heap.size) → LTo w5 W Bm Bm (.slice none 0 0) (.slice none 0 0) (rs.take k)) := Lib.hid (fun W h => HTo.out.box_write hbx h)
             have HR9 := Lib.hid hr
             clear hbx
             generalize wr.heap.size = g12 at *
             obtain ⟨cx0, cx1, cx2, _, _⟩ := Rp.at HKf.out.prev (HKc.out _ HR9.out)
             rw [Nat.zero_add] at cx1 cx2
             have cu := Rp.at_hash0 HKf.out (HKc.out _ HR9.out)
             rw [Nat.zero_add] at cu
             clear hr hg)
          | ((with_reducible show wpList _ _ _ (⟨_, .store 5 (.tmp 78) _, _, _, _, _⟩ :: _) _ _)
             refine wpList_store_u8 rfl 5 (.tmp 78) (.tmp 76) rfl g12 36 30 CK (yy.toNat : Int) rfl rfl HR9.out (by rw [HK68.out]; decide) (by kernel_rfl) ?_
             intro w10 hr hg
             have HTt := Lib.hid (HTw.out w10 hg)
             have hrw := hr
             rw [← HCK.out, Rp.set_hash HKf.out, HRR.out] at hrw
             have HRw := Lib.hid hrw
             clear hr hg hrw
             obtain ⟨x0, x1, x2, x3, _⟩ := Rp.at HRf.out.prev (row_range HRw.out)
             rw [Nat.zero_add] at x1 x2 x3
             have HPr := Lib.hid (HPc.out _ HRw.out))
          | ((with_reducible show wpList _ _ _ (⟨_, .load 28 (.tmp 88), _, _, _, _⟩ :: _) _ _); refine wpList_load_tx rfl 28 (.tmp 88) rfl g12 4 (rfl) (bRow rr.prev).toList _ (HPr.out) Tryd.underlying28 rfl (by rw [hash_info, HP32.out]) ?_))
        refine (HLk.out _).mono ?_
        rintro _ w11 ⟨rfl, hb11⟩
        have HTa := Lib.hid (HTt.out.below19 hb11)
        have HRa := Lib.hid (HRw.out.below hb11)
        clear hb11 HTt HRw x0 x1 x2 x3 HLk HTw HTo
        by_cases he : ee = 0
        · subst he
          go_wp2_with (first
            | (
               with_reducible show wpList _ _ _ (⟨_, .store 30 (.tmp 13) _, _, _, _, _⟩ :: _) _ _
               refine wpList_store_at rfl 30 (.tmp 13) (.tmp 99) rfl w11.heap.size 0 X.cells ZT _ rfl rfl (Row.new w11 30 ZT) (by have := HZ68.out; have := HX68.out; omega) (by rw [rp_info, HX68.out]) HX1.out ?_
               intro w12 hr hg
               rw [splice_all (HX68.out.trans HZ68.out.symm)] at hr
               have hbx := below_own ((Below.refl w11.heap.size w11).alloc (Nat.le_refl _) (.cells ZT.toArray 30)) hg (fun k hk => by cases hk; exact Nat.le_refl _)
               have HTb := Lib.hid (HTa.out.below19 hbx)
               have HRb := Lib.hid (HRa.out.below hbx)
               have HXb := Lib.hid hr
               clear hbx
               clear hr hg)
            | ((with_reducible show wpList _ _ _ (⟨_, .load 30 (.tmp 12), _, _, _, _⟩ :: _) _ _); refine wpList_load_tx rfl 30 (.tmp 12) rfl g12 0 (rfl) rr.cells _ (row_range HRb.out) Tryd.underlying30 rfl (by rw [rp_info, HCR68.out]) ?_))
          refine (HLdN.out HNo.out _ HTb.out).mono ?_
          rintro _ w14 ⟨rfl, ht14⟩
          have HTc := Lib.hid ht14
          clear ht14
          go_wp2_with fail
          refine (HLen.out _ HTc.out).mono ?_
          rintro _ _ ⟨rfl, rfl⟩
          go_wp2_with (first
            | ((with_reducible show wpList _ _ _ (⟨_, .load 30 (.tmp 134), _, _, _, _⟩ :: _) _ _); refine wpList_load_tx rfl 30 (.tmp 134) rfl gA (oA + k * 68) (rfl) CK _ (HRk.out _ _ HTc.out) Tryd.underlying30 rfl (by rw [rp_info, HK68.out]) ?_))
          refine (HLdY.out _ HTc.out).mono ?_
          rintro _ w15 ⟨rfl, ht15⟩
          have HLz := Lib.hid (HLow5.out _ _ ht15)
          clear ht15
          go_wp2_with fail
          go_ret
          exact ⟨by first | rfl | simp, HLz.out⟩
        · have de : decide (ee = 0) = false := decide_eq_false he
          have deb : (ee == 0) = false := by simpa using he
          have dep : (ee = 0) = False := by simpa using he
          have HNo : Hid (¬ Od.fitsIn (rs.take k) rr) := Lib.hid (fun h => he (by have := HLE.out h; injection this))
          clear he
          go_wp2_with (first
            | (
               with_reducible show wpList _ _ _ (⟨_, .store 30 (.tmp 13) _, _, _, _, _⟩ :: _) _ _
               refine wpList_store_at rfl 30 (.tmp 13) (.tmp 99) rfl w11.heap.size 0 X.cells ZT _ rfl rfl (Row.new w11 30 ZT) (by have := HZ68.out; have := HX68.out; omega) (by rw [rp_info, HX68.out]) HX1.out ?_
               intro w12 hr hg
               rw [splice_all (HX68.out.trans HZ68.out.symm)] at hr
               have hbx := below_own ((Below.refl w11.heap.size w11).alloc (Nat.le_refl _) (.cells ZT.toArray 30)) hg (fun k hk => by cases hk; exact Nat.le_refl _)
               have HTb := Lib.hid (HTa.out.below19 hbx)
               have HRb := Lib.hid (HRa.out.below hbx)
               have HXb := Lib.hid hr
               clear hbx
               clear hr hg)
            | ((with_reducible show wpList _ _ _ (⟨_, .load 30 (.tmp 12), _, _, _, _⟩ :: _) _ _); refine wpList_load_tx rfl 30 (.tmp 12) rfl g12 0 (rfl) rr.cells _ (row_range HRb.out) Tryd.underlying30 rfl (by rw [rp_info, HCR68.out]) ?_))
          refine (HLdN.out HNo.out _ HTb.out).mono ?_
          rintro _ w14 ⟨rfl, ht14⟩
          have HTc := Lib.hid ht14
          clear ht14
          go_wp2_with fail
          refine (HLen.out _ HTc.out).mono ?_
          rintro _ _ ⟨rfl, rfl⟩
          go_wp2_with (first
            | ((with_reducible show wpList _ _ _ (⟨_, .load 30 (.tmp 134), _, _, _, _⟩ :: _) _ _); refine wpList_load_tx rfl 30 (.tmp 134) rfl gA (oA + k * 68) (rfl) CK _ (HRk.out _ _ HTc.out) Tryd.underlying30 rfl (by rw [rp_info, HK68.out]) ?_))
          refine (HLdY.out _ HTc.out).mono ?_
          rintro _ w15 ⟨rfl, ht15⟩
          have HLz := Lib.hid (HLow5.out _ _ ht15)
          clear ht15
          go_wp2_with fail
          go_ret
          exact ⟨by first | rfl | simp, HLz.out⟩
      · skip
        have hs : wh % 5 = 3 := hs
        have hrem : Int.tmod wh 5 = 3 := by rw [Int.tmod_eq_emod_of_nonneg hwh.1]; exact hs
        have ewr : IntKind.u8.wrap 3 = 3 := by decide
        have HKc : Hid (∀ {g : Nat} (W : World), Row W g 30 CK → W.rangeAt g 0 rk.cells) := Lib.hid (fun W h => by rw [HCK.out]; exact row_range h)
        clear hs hwh
        obtain ⟨yy, hy1, hy2⟩ := flip128 (rk.prev[31]'(by rw [HKf.out.prev]; decide))
        have HY := Lib.hid hy2
        clear hy2
        obtain ⟨rr, hrr⟩ : ∃ rr : Rp, ({ rk with prev := rk.prev.set 31 yy } : Rp) = rr := ⟨_, rfl⟩
        have HRR := Lib.hid hrr
        have HRf : Hid rr.Fits := Lib.hid (by rw [← hrr]; exact ⟨by simp only [List.length_set]; exact HKf.out.prev, HKf.out.hash, HKf.out.body, HKf.out.index, HKf.out.kind, HKf.out.time⟩)
        have HNo : Hid (¬ Od.fitsIn (rs.take k) rr) := Lib.hid (by rw [← hrr]; obtain ⟨hk, e⟩ := HKe.out; subst e; exact Od.Good.noprev hk HGd.out (set_ne _ HY.out))
        have HLE := Lib.hid (fun h => @Od.fitsIn_link (rs.take k) rr h)
        obtain ⟨X, ee, hXe⟩ : ∃ X ee, Rp.linkE ⟨rr.index, rr.kind, rr.time, rr.body, rr.prev, Tx.zero⟩ = (X, ee) := ⟨_, _, rfl⟩
        have HXf : Hid X.Fits := Lib.hid (by have := linkE_fits (r := ⟨rr.index, rr.kind, rr.time, rr.body, rr.prev, Tx.zero⟩) ⟨HRf.out.prev, rfl, HRf.out.body, HRf.out.index, HRf.out.kind, HRf.out.time⟩; rw [hXe] at this; exact this)
        have HLk : Hid (∀ W, Calls Tryd.prog 23 #[.agg (bRow rr.prev).toList.toArray, .int .i64 rr.index, .int .i64 rr.kind, .int .i64 rr.time, .string rr.body] W fun e w' => e = .returned (.tuple #[.agg X.cells.toArray, .int .i64 ee]) ∧ Below W.heap.size W w') := Lib.hid (fun W => by
          have := rlink5_any hRS rr.index rr.kind rr.time rr.body rr.prev HRf.out.prev W
          rw [hXe] at this
          rw [Array.toArray_toList]
          exact this)
        rw [hXe] at HLE
        have HLdN : Hid (¬ Od.fitsIn (rs.take k) rr → ∀ W, LTo w5 W Bm Bm (.slice none 0 0) (.slice none 0 0) (rs.take k) → Calls Tryd.prog 11 #[.pointer (some ⟨Bm, 0, none⟩), .agg rr.cells.toArray] W fun e w' => e = .returned (.int .i64 7) ∧ LTo w5 w' Bm Bm (.slice none 0 0) (.slice none 0 0) (rs.take k)) := Lib.hid (fun hnf W h => h.loadN rr HRf.out (HT.out _ (HLow5.out _ _ h)) (by rw [List.length_take]; have := hlen.out; omega) hnf)
        have HPc : Hid (∀ {g : Nat} (W : World), Row W g 30 rr.cells → W.rangeAt g 4 (bRow rr.prev).toList) := Lib.hid (fun W h => rp_prev HRf.out.prev h)
        have HPh : Hid (∀ {g : Nat} (W : World), Row W g 30 rr.cells → W.rangeAt g 36 (bRow rr.hash).toList) := Lib.hid (fun W h => by have := (Rp.at HRf.out.prev (row_range h)).2.2.2.2; rwa [Nat.zero_add] at this)
        have HXh : Hid (∀ {g : Nat} (W : World), Row W g 30 X.cells → W.rangeAt g 36 (bRow X.hash).toList) := Lib.hid (fun W h => by have := (Rp.at HXf.out.prev (row_range h)).2.2.2.2; rwa [Nat.zero_add] at this)
        have HP32 := Lib.hid (Tx.bRow_len rr.prev HRf.out.prev)
        have HR32 := Lib.hid (Tx.bRow_len rr.hash HRf.out.hash)
        have HX32 := Lib.hid (Tx.bRow_len X.hash HXf.out.hash)
        have HX68 := Lib.hid (Rp.cells_len HXf.out.prev HXf.out.hash)
        have HX1 := Lib.hid (Rp.cells_one HXf.out.prev HXf.out.hash)
        have HCR68 := Lib.hid (Rp.cells_len HRf.out.prev HRf.out.hash)
        clear hrr hXe
        go_wp2_with (first
          | ((with_reducible show wpList _ _ _ (⟨_, .load 30 (.tmp 51), _, _, _, _⟩ :: _) _ _); refine wpList_load_tx rfl 30 (.tmp 51) rfl gA (oA + k * 68) (rfl) CK _ (HRk0.out) Tryd.underlying30 rfl (by rw [rp_info, HK68.out]) ?_)
          | (
             with_reducible show wpList _ _ _ (⟨_, .store 30 (.tmp 12) _, _, _, _, _⟩ :: _) _ _
             refine wpList_store_at rfl 30 (.tmp 12) (.tmp 52) rfl wr.heap.size 0 CK ZT _ rfl rfl (Row.new wr 30 ZT) (by have := HZ68.out; have := HK68.out; omega) (by rw [rp_info, HK68.out]) HK1.out ?_
             intro w9 hr hg
             rw [splice_all (HK68.out.trans HZ68.out.symm)] at hr
             have hbx := below_own ((Below.refl wr.heap.size wr).alloc (Nat.le_refl _) (.cells ZT.toArray 30)) hg (fun k hk => by cases hk; exact Nat.le_refl _)
             have HTw : Hid (∀ W, w9.grownBy W (some wr.heap.size) → LTo w5 W Bm Bm (.slice none 0 0) (.slice none 0 0) (rs.take k)) := Lib.hid (fun W h => HTo.out.box_write hbx h)
             have HR9 := Lib.hid hr
             clear hbx
             generalize wr.heap.size = g12 at *
             obtain ⟨cx0, cx1, cx2, _, _⟩ := Rp.at HKf.out.prev (HKc.out _ HR9.out)
             rw [Nat.zero_add] at cx1 cx2
             have cu := Rp.at_prev31 HKf.out (HKc.out _ HR9.out)
             rw [Nat.zero_add] at cu
             clear hr hg)
          | ((with_reducible show wpList _ _ _ (⟨_, .store 5 (.tmp 86) _, _, _, _, _⟩ :: _) _ _)
             refine wpList_store_u8 rfl 5 (.tmp 86) (.tmp 84) rfl g12 35 30 CK (yy.toNat : Int) rfl rfl HR9.out (by rw [HK68.out]; decide) (by kernel_rfl) ?_
             intro w10 hr hg
             have HTt := Lib.hid (HTw.out w10 hg)
             have hrw := hr
             rw [← HCK.out, Rp.set_prev HKf.out, HRR.out] at hrw
             have HRw := Lib.hid hrw
             clear hr hg hrw
             obtain ⟨x0, x1, x2, x3, _⟩ := Rp.at HRf.out.prev (row_range HRw.out)
             rw [Nat.zero_add] at x1 x2 x3
             have HPr := Lib.hid (HPc.out _ HRw.out))
          | ((with_reducible show wpList _ _ _ (⟨_, .load 28 (.tmp 88), _, _, _, _⟩ :: _) _ _); refine wpList_load_tx rfl 28 (.tmp 88) rfl g12 4 (rfl) (bRow rr.prev).toList _ (HPr.out) Tryd.underlying28 rfl (by rw [hash_info, HP32.out]) ?_))
        refine (HLk.out _).mono ?_
        rintro _ w11 ⟨rfl, hb11⟩
        have HTa := Lib.hid (HTt.out.below19 hb11)
        have HRa := Lib.hid (HRw.out.below hb11)
        clear hb11 HTt HRw x0 x1 x2 x3 HLk HTw HTo
        by_cases he : ee = 0
        · subst he
          go_wp2_with (first
            | (
               with_reducible show wpList _ _ _ (⟨_, .store 30 (.tmp 13) _, _, _, _, _⟩ :: _) _ _
               refine wpList_store_at rfl 30 (.tmp 13) (.tmp 99) rfl w11.heap.size 0 X.cells ZT _ rfl rfl (Row.new w11 30 ZT) (by have := HZ68.out; have := HX68.out; omega) (by rw [rp_info, HX68.out]) HX1.out ?_
               intro w12 hr hg
               rw [splice_all (HX68.out.trans HZ68.out.symm)] at hr
               have hbx := below_own ((Below.refl w11.heap.size w11).alloc (Nat.le_refl _) (.cells ZT.toArray 30)) hg (fun k hk => by cases hk; exact Nat.le_refl _)
               have HTb := Lib.hid (HTa.out.below19 hbx)
               have HRb := Lib.hid (HRa.out.below hbx)
               have HXb := Lib.hid hr
               clear hbx
               clear hr hg)
            | ((with_reducible show wpList _ _ _ (⟨_, .load 30 (.tmp 12), _, _, _, _⟩ :: _) _ _); refine wpList_load_tx rfl 30 (.tmp 12) rfl g12 0 (rfl) rr.cells _ (row_range HRb.out) Tryd.underlying30 rfl (by rw [rp_info, HCR68.out]) ?_))
          refine (HLdN.out HNo.out _ HTb.out).mono ?_
          rintro _ w14 ⟨rfl, ht14⟩
          have HTc := Lib.hid ht14
          clear ht14
          go_wp2_with fail
          refine (HLen.out _ HTc.out).mono ?_
          rintro _ _ ⟨rfl, rfl⟩
          go_wp2_with (first
            | ((with_reducible show wpList _ _ _ (⟨_, .load 30 (.tmp 134), _, _, _, _⟩ :: _) _ _); refine wpList_load_tx rfl 30 (.tmp 134) rfl gA (oA + k * 68) (rfl) CK _ (HRk.out _ _ HTc.out) Tryd.underlying30 rfl (by rw [rp_info, HK68.out]) ?_))
          refine (HLdY.out _ HTc.out).mono ?_
          rintro _ w15 ⟨rfl, ht15⟩
          have HLz := Lib.hid (HLow5.out _ _ ht15)
          clear ht15
          go_wp2_with fail
          go_ret
          exact ⟨by first | rfl | simp, HLz.out⟩
        · have de : decide (ee = 0) = false := decide_eq_false he
          have deb : (ee == 0) = false := by simpa using he
          have dep : (ee = 0) = False := by simpa using he
          have HNo : Hid (¬ Od.fitsIn (rs.take k) rr) := Lib.hid (fun h => he (by have := HLE.out h; injection this))
          clear he
          go_wp2_with (first
            | (
               with_reducible show wpList _ _ _ (⟨_, .store 30 (.tmp 13) _, _, _, _, _⟩ :: _) _ _
               refine wpList_store_at rfl 30 (.tmp 13) (.tmp 99) rfl w11.heap.size 0 X.cells ZT _ rfl rfl (Row.new w11 30 ZT) (by have := HZ68.out; have := HX68.out; omega) (by rw [rp_info, HX68.out]) HX1.out ?_
               intro w12 hr hg
               rw [splice_all (HX68.out.trans HZ68.out.symm)] at hr
               have hbx := below_own ((Below.refl w11.heap.size w11).alloc (Nat.le_refl _) (.cells ZT.toArray 30)) hg (fun k hk => by cases hk; exact Nat.le_refl _)
               have HTb := Lib.hid (HTa.out.below19 hbx)
               have HRb := Lib.hid (HRa.out.below hbx)
               have HXb := Lib.hid hr
               clear hbx
               clear hr hg)
            | ((with_reducible show wpList _ _ _ (⟨_, .load 30 (.tmp 12), _, _, _, _⟩ :: _) _ _); refine wpList_load_tx rfl 30 (.tmp 12) rfl g12 0 (rfl) rr.cells _ (row_range HRb.out) Tryd.underlying30 rfl (by rw [rp_info, HCR68.out]) ?_))
          refine (HLdN.out HNo.out _ HTb.out).mono ?_
          rintro _ w14 ⟨rfl, ht14⟩
          have HTc := Lib.hid ht14
          clear ht14
          go_wp2_with fail
          refine (HLen.out _ HTc.out).mono ?_
          rintro _ _ ⟨rfl, rfl⟩
          go_wp2_with (first
            | ((with_reducible show wpList _ _ _ (⟨_, .load 30 (.tmp 134), _, _, _, _⟩ :: _) _ _); refine wpList_load_tx rfl 30 (.tmp 134) rfl gA (oA + k * 68) (rfl) CK _ (HRk.out _ _ HTc.out) Tryd.underlying30 rfl (by rw [rp_info, HK68.out]) ?_))
          refine (HLdY.out _ HTc.out).mono ?_
          rintro _ w15 ⟨rfl, ht15⟩
          have HLz := Lib.hid (HLow5.out _ _ ht15)
          clear ht15
          go_wp2_with fail
          go_ret
          exact ⟨by first | rfl | simp, HLz.out⟩
      · skip
        have hs : wh % 5 = 4 := hs
        have hrem : Int.tmod wh 5 = 4 := by rw [Int.tmod_eq_emod_of_nonneg hwh.1]; exact hs
        have ewr : IntKind.u8.wrap 4 = 4 := by decide
        have HKc : Hid (∀ {g : Nat} (W : World), Row W g 30 CK → W.rangeAt g 0 rk.cells) := Lib.hid (fun W h => by rw [HCK.out]; exact row_range h)
        clear hs hwh
        have hov : IntKind.i64.wrap (3 - rk.kind) = 3 - rk.kind := IntWalk.i64_in _ (by have := HKr.out; omega)
        obtain ⟨rr, hrr⟩ : ∃ rr : Rp, ({ rk with kind := 3 - rk.kind } : Rp) = rr := ⟨_, rfl⟩
        have HRR := Lib.hid hrr
        have HRf : Hid rr.Fits := Lib.hid (by rw [← hrr]; exact ⟨HKf.out.prev, HKf.out.hash, HKf.out.body, HKf.out.index, ⟨by have := HKr.out; simp only; omega, by have := HKr.out; simp only; omega⟩, HKf.out.time⟩)
        have HLE := Lib.hid (fun h => @Od.fitsIn_link (rs.take k) rr h)
        obtain ⟨X, ee, hXe⟩ : ∃ X ee, Rp.linkE ⟨rr.index, rr.kind, rr.time, rr.body, rr.prev, Tx.zero⟩ = (X, ee) := ⟨_, _, rfl⟩
        have HXf : Hid X.Fits := Lib.hid (by have := linkE_fits (r := ⟨rr.index, rr.kind, rr.time, rr.body, rr.prev, Tx.zero⟩) ⟨HRf.out.prev, rfl, HRf.out.body, HRf.out.index, HRf.out.kind, HRf.out.time⟩; rw [hXe] at this; exact this)
        have HLk : Hid (∀ W, Calls Tryd.prog 23 #[.agg (bRow rr.prev).toList.toArray, .int .i64 rr.index, .int .i64 rr.kind, .int .i64 rr.time, .string rr.body] W fun e w' => e = .returned (.tuple #[.agg X.cells.toArray, .int .i64 ee]) ∧ Below W.heap.size W w') := Lib.hid (fun W => by
          have := rlink5_any hRS rr.index rr.kind rr.time rr.body rr.prev HRf.out.prev W
          rw [hXe] at this
          rw [Array.toArray_toList]
          exact this)
        rw [hXe] at HLE
        have HLdN : Hid (¬ Od.fitsIn (rs.take k) rr → ∀ W, LTo w5 W Bm Bm (.slice none 0 0) (.slice none 0 0) (rs.take k) → Calls Tryd.prog 11 #[.pointer (some ⟨Bm, 0, none⟩), .agg rr.cells.toArray] W fun e w' => e = .returned (.int .i64 7) ∧ LTo w5 w' Bm Bm (.slice none 0 0) (.slice none 0 0) (rs.take k)) := Lib.hid (fun hnf W h => h.loadN rr HRf.out (HT.out _ (HLow5.out _ _ h)) (by rw [List.length_take]; have := hlen.out; omega) hnf)
        have HPc : Hid (∀ {g : Nat} (W : World), Row W g 30 rr.cells → W.rangeAt g 4 (bRow rr.prev).toList) := Lib.hid (fun W h => rp_prev HRf.out.prev h)
        have HPh : Hid (∀ {g : Nat} (W : World), Row W g 30 rr.cells → W.rangeAt g 36 (bRow rr.hash).toList) := Lib.hid (fun W h => by have := (Rp.at HRf.out.prev (row_range h)).2.2.2.2; rwa [Nat.zero_add] at this)
        have HXh : Hid (∀ {g : Nat} (W : World), Row W g 30 X.cells → W.rangeAt g 36 (bRow X.hash).toList) := Lib.hid (fun W h => by have := (Rp.at HXf.out.prev (row_range h)).2.2.2.2; rwa [Nat.zero_add] at this)
        have HP32 := Lib.hid (Tx.bRow_len rr.prev HRf.out.prev)
        have HR32 := Lib.hid (Tx.bRow_len rr.hash HRf.out.hash)
        have HX32 := Lib.hid (Tx.bRow_len X.hash HXf.out.hash)
        have HX68 := Lib.hid (Rp.cells_len HXf.out.prev HXf.out.hash)
        have HX1 := Lib.hid (Rp.cells_one HXf.out.prev HXf.out.hash)
        have HCR68 := Lib.hid (Rp.cells_len HRf.out.prev HRf.out.hash)
        clear hrr hXe
        go_wp2_with (first
          | ((with_reducible show wpList _ _ _ (⟨_, .load 30 (.tmp 51), _, _, _, _⟩ :: _) _ _); refine wpList_load_tx rfl 30 (.tmp 51) rfl gA (oA + k * 68) (rfl) CK _ (HRk0.out) Tryd.underlying30 rfl (by rw [rp_info, HK68.out]) ?_)
          | (
             with_reducible show wpList _ _ _ (⟨_, .store 30 (.tmp 12) _, _, _, _, _⟩ :: _) _ _
             refine wpList_store_at rfl 30 (.tmp 12) (.tmp 52) rfl wr.heap.size 0 CK ZT _ rfl rfl (Row.new wr 30 ZT) (by have := HZ68.out; have := HK68.out; omega) (by rw [rp_info, HK68.out]) HK1.out ?_
             intro w9 hr hg
             rw [splice_all (HK68.out.trans HZ68.out.symm)] at hr
             have hbx := below_own ((Below.refl wr.heap.size wr).alloc (Nat.le_refl _) (.cells ZT.toArray 30)) hg (fun k hk => by cases hk; exact Nat.le_refl _)
             have HTw : Hid (∀ W, w9.grownBy W (some wr.heap.size) → LTo w5 W Bm Bm (.slice none 0 0) (.slice none 0 0) (rs.take k)) := Lib.hid (fun W h => HTo.out.box_write hbx h)
             have HR9 := Lib.hid hr
             clear hbx
             generalize wr.heap.size = g12 at *
             obtain ⟨cx0, cx1, cx2, _, _⟩ := Rp.at HKf.out.prev (HKc.out _ HR9.out)
             rw [Nat.zero_add] at cx1 cx2
             clear hr hg)
          | ((with_reducible show wpList _ _ _ (⟨_, .store 3 (.tmp 58) _, _, _, _, _⟩ :: _) _ _)
             refine wpList_store_int rfl 3 (.tmp 58) (.tmp 57) rfl g12 1 30 CK (3 - rk.kind) rfl rfl HR9.out (by rw [HK68.out]; decide) (by kernel_rfl) ?_
             intro w10 hr hg
             have HTt := Lib.hid (HTw.out w10 hg)
             have hrw := hr
             rw [← HCK.out, Rp.set_kind, HRR.out] at hrw
             have HRw := Lib.hid hrw
             clear hr hg hrw
             obtain ⟨x0, x1, x2, x3, _⟩ := Rp.at HRf.out.prev (row_range HRw.out)
             rw [Nat.zero_add] at x1 x2 x3
             have HPr := Lib.hid (HPc.out _ HRw.out))
          | ((with_reducible show wpList _ _ _ (⟨_, .load 28 (.tmp 88), _, _, _, _⟩ :: _) _ _); refine wpList_load_tx rfl 28 (.tmp 88) rfl g12 4 (rfl) (bRow rr.prev).toList _ (HPr.out) Tryd.underlying28 rfl (by rw [hash_info, HP32.out]) ?_))
        refine (HLk.out _).mono ?_
        rintro _ w11 ⟨rfl, hb11⟩
        have HTa := Lib.hid (HTt.out.below19 hb11)
        have HRa := Lib.hid (HRw.out.below hb11)
        clear hb11 HTt HRw x0 x1 x2 x3 HLk HTw HTo
        by_cases he : ee = 0
        · subst he
          by_cases hh : X.hash = rr.hash
          · have heqX : ∀ W : World, (Op.equalIn 10000 28 (.agg (bRow X.hash).toList.toArray) (.agg (bRow rr.hash).toList.toArray)).run Tryd.prog W = .ok true W := fun W => by rw [Array.toArray_toList, Array.toArray_toList, hash_eq W _ _ HXf.out.hash HRf.out.hash, decide_eq_true hh]
            clear hh
            go_wp2_with (first
              | (
                 with_reducible show wpList _ _ _ (⟨_, .store 30 (.tmp 13) _, _, _, _, _⟩ :: _) _ _
                 refine wpList_store_at rfl 30 (.tmp 13) (.tmp 99) rfl w11.heap.size 0 X.cells ZT _ rfl rfl (Row.new w11 30 ZT) (by have := HZ68.out; have := HX68.out; omega) (by rw [rp_info, HX68.out]) HX1.out ?_
                 intro w12 hr hg
                 rw [splice_all (HX68.out.trans HZ68.out.symm)] at hr
                 have hbx := below_own ((Below.refl w11.heap.size w11).alloc (Nat.le_refl _) (.cells ZT.toArray 30)) hg (fun k hk => by cases hk; exact Nat.le_refl _)
                 have HTb := Lib.hid (HTa.out.below19 hbx)
                 have HRb := Lib.hid (HRa.out.below hbx)
                 have HXb := Lib.hid hr
                 clear hbx
                 clear hr hg)
              | ((with_reducible show wpList _ _ _ (⟨_, .load 28 (.tmp 114), _, _, _, _⟩ :: _) _ _); refine wpList_load_tx rfl 28 (.tmp 114) rfl w11.heap.size 36 (rfl) (bRow X.hash).toList _ (HXh.out _ HXb.out) Tryd.underlying28 rfl (by rw [hash_info, HX32.out]) ?_)
              | ((with_reducible show wpList _ _ _ (⟨_, .load 28 (.tmp 116), _, _, _, _⟩ :: _) _ _); refine wpList_load_tx rfl 28 (.tmp 116) rfl g12 36 (rfl) (bRow rr.hash).toList _ (HPh.out _ HRb.out) Tryd.underlying28 rfl (by rw [hash_info, HR32.out]) ?_))
            have HLz := Lib.hid (HLow5.out _ _ HTb.out)
            go_ret
            exact ⟨by first | rfl | simp, HLz.out⟩
          · have heqX : ∀ W : World, (Op.equalIn 10000 28 (.agg (bRow X.hash).toList.toArray) (.agg (bRow rr.hash).toList.toArray)).run Tryd.prog W = .ok false W := fun W => by rw [Array.toArray_toList, Array.toArray_toList, hash_eq W _ _ HXf.out.hash HRf.out.hash, decide_eq_false hh]
            have HNo : Hid (¬ Od.fitsIn (rs.take k) rr) := Lib.hid (fun h => hh (by have := HLE.out h; injection this with q1 q2; rw [q1]))
            clear hh
            go_wp2_with (first
              | (
                 with_reducible show wpList _ _ _ (⟨_, .store 30 (.tmp 13) _, _, _, _, _⟩ :: _) _ _
                 refine wpList_store_at rfl 30 (.tmp 13) (.tmp 99) rfl w11.heap.size 0 X.cells ZT _ rfl rfl (Row.new w11 30 ZT) (by have := HZ68.out; have := HX68.out; omega) (by rw [rp_info, HX68.out]) HX1.out ?_
                 intro w12 hr hg
                 rw [splice_all (HX68.out.trans HZ68.out.symm)] at hr
                 have hbx := below_own ((Below.refl w11.heap.size w11).alloc (Nat.le_refl _) (.cells ZT.toArray 30)) hg (fun k hk => by cases hk; exact Nat.le_refl _)
                 have HTb := Lib.hid (HTa.out.below19 hbx)
                 have HRb := Lib.hid (HRa.out.below hbx)
                 have HXb := Lib.hid hr
                 clear hbx
                 clear hr hg)
              | ((with_reducible show wpList _ _ _ (⟨_, .load 28 (.tmp 114), _, _, _, _⟩ :: _) _ _); refine wpList_load_tx rfl 28 (.tmp 114) rfl w11.heap.size 36 (rfl) (bRow X.hash).toList _ (HXh.out _ HXb.out) Tryd.underlying28 rfl (by rw [hash_info, HX32.out]) ?_)
              | ((with_reducible show wpList _ _ _ (⟨_, .load 28 (.tmp 116), _, _, _, _⟩ :: _) _ _); refine wpList_load_tx rfl 28 (.tmp 116) rfl g12 36 (rfl) (bRow rr.hash).toList _ (HPh.out _ HRb.out) Tryd.underlying28 rfl (by rw [hash_info, HR32.out]) ?_)
              | ((with_reducible show wpList _ _ _ (⟨_, .load 30 (.tmp 12), _, _, _, _⟩ :: _) _ _); refine wpList_load_tx rfl 30 (.tmp 12) rfl g12 0 (rfl) rr.cells _ (row_range HRb.out) Tryd.underlying30 rfl (by rw [rp_info, HCR68.out]) ?_))
            refine (HLdN.out HNo.out _ HTb.out).mono ?_
            rintro _ w14 ⟨rfl, ht14⟩
            have HTc := Lib.hid ht14
            clear ht14
            go_wp2_with fail
            refine (HLen.out _ HTc.out).mono ?_
            rintro _ _ ⟨rfl, rfl⟩
            go_wp2_with (first
              | ((with_reducible show wpList _ _ _ (⟨_, .load 30 (.tmp 134), _, _, _, _⟩ :: _) _ _); refine wpList_load_tx rfl 30 (.tmp 134) rfl gA (oA + k * 68) (rfl) CK _ (HRk.out _ _ HTc.out) Tryd.underlying30 rfl (by rw [rp_info, HK68.out]) ?_))
            refine (HLdY.out _ HTc.out).mono ?_
            rintro _ w15 ⟨rfl, ht15⟩
            have HLz := Lib.hid (HLow5.out _ _ ht15)
            clear ht15
            go_wp2_with fail
            go_ret
            exact ⟨by first | rfl | simp, HLz.out⟩
        · have de : decide (ee = 0) = false := decide_eq_false he
          have deb : (ee == 0) = false := by simpa using he
          have dep : (ee = 0) = False := by simpa using he
          have HNo : Hid (¬ Od.fitsIn (rs.take k) rr) := Lib.hid (fun h => he (by have := HLE.out h; injection this))
          clear he
          go_wp2_with (first
            | (
               with_reducible show wpList _ _ _ (⟨_, .store 30 (.tmp 13) _, _, _, _, _⟩ :: _) _ _
               refine wpList_store_at rfl 30 (.tmp 13) (.tmp 99) rfl w11.heap.size 0 X.cells ZT _ rfl rfl (Row.new w11 30 ZT) (by have := HZ68.out; have := HX68.out; omega) (by rw [rp_info, HX68.out]) HX1.out ?_
               intro w12 hr hg
               rw [splice_all (HX68.out.trans HZ68.out.symm)] at hr
               have hbx := below_own ((Below.refl w11.heap.size w11).alloc (Nat.le_refl _) (.cells ZT.toArray 30)) hg (fun k hk => by cases hk; exact Nat.le_refl _)
               have HTb := Lib.hid (HTa.out.below19 hbx)
               have HRb := Lib.hid (HRa.out.below hbx)
               have HXb := Lib.hid hr
               clear hbx
               clear hr hg)
            | ((with_reducible show wpList _ _ _ (⟨_, .load 30 (.tmp 12), _, _, _, _⟩ :: _) _ _); refine wpList_load_tx rfl 30 (.tmp 12) rfl g12 0 (rfl) rr.cells _ (row_range HRb.out) Tryd.underlying30 rfl (by rw [rp_info, HCR68.out]) ?_))
          refine (HLdN.out HNo.out _ HTb.out).mono ?_
          rintro _ w14 ⟨rfl, ht14⟩
          have HTc := Lib.hid ht14
          clear ht14
          go_wp2_with fail
          refine (HLen.out _ HTc.out).mono ?_
          rintro _ _ ⟨rfl, rfl⟩
          go_wp2_with (first
            | ((with_reducible show wpList _ _ _ (⟨_, .load 30 (.tmp 134), _, _, _, _⟩ :: _) _ _); refine wpList_load_tx rfl 30 (.tmp 134) rfl gA (oA + k * 68) (rfl) CK _ (HRk.out _ _ HTc.out) Tryd.underlying30 rfl (by rw [rp_info, HK68.out]) ?_))
          refine (HLdY.out _ HTc.out).mono ?_
          rintro _ w15 ⟨rfl, ht15⟩
          have HLz := Lib.hid (HLow5.out _ _ ht15)
          clear ht15
          go_wp2_with fail
          go_ret
          exact ⟨by first | rfl | simp, HLz.out⟩
end Go.Proofs.YtgdijbcoacgadaaDoor
