/- awake of layer 16; the laws LaneRounds and LaneNone. -/
import Derived.Test.YtlapmdgkcidhnaaDoorLnDo
namespace Go.Proofs.YtlapmdgkcidhnaaDoor
open Go.RowKit Go.Maps
set_option linter.unusedVariables false
set_option linter.unusedSimpArgs false
set_option maxRecDepth 100000

theorem Tx.hand_body16 {t : Tx} (who : Int) (hl : t.lane = true) : (t.hand who).bodyE = t.bodyE := by
  have he : (t.hand who).err = t.err := by
    unfold Tx.err
    show (if Tx.acct t.frm = false ∨ Tx.acct t.to = false then 20 else if Tx.num t.nonce = false ∨ Tx.num t.fee = false then 2 else if (t.lane = true ∧ (Tx.num t.round = false ∨ Tx.num t.turn = false)) ∨ (t.lane = false ∧ (t.hand who).plain = false) then 2 else if 256 < t.data.size then 3 else (0 : Int)) = _
    rw [hl]
    simp
  unfold Tx.bodyE
  rw [he]
  rfl
theorem awake_facts16 : ∃ o t : Tx, o.Ok ∧ t.Ok ∧ o.handE 5 = (t, 0) ∧ (Tx.none.arr.setIfInBounds 5 (.bool true)).setIfInBounds 6 (.int .i64 2) = o.arr ∧ Ln.checkE 10 [⟨2, 5, 0⟩] t 25 = 0 ∧ Ln.checkE 10 [⟨2, 5, 1⟩] t 25 = 30 ∧ Ln.checkE 10 [⟨2, 5, 1⟩] t 30 = 29 ∧ Ln.take 10 [⟨2, 5, 0⟩] t 25 = [⟨2, 5, 1⟩] ∧ Ln.take 10 [⟨2, 5, 1⟩] t 25 = [⟨2, 5, 1⟩] := by
  have ho : Tx.Ok ⟨0, 0, 0, 0, ByteArray.empty, true, 2, 0, Tx.zero, Tx.zero⟩ := ⟨rfl, rfl, by decide, ⟨by decide, by decide⟩, ⟨by decide, by decide⟩, ⟨by decide, by decide⟩, ⟨by decide, by decide⟩, ⟨by decide, by decide⟩, ⟨by decide, by decide⟩⟩
  have he : Tx.err ⟨0, 0, 0, 0, ByteArray.empty, true, 2, 0, Tx.zero, Tx.zero⟩ = 0 := by decide
  have hb := Tx.body_zero he ho
  have harr : (Tx.none.arr.setIfInBounds 5 (.bool true)).setIfInBounds 6 (.int .i64 2) = Tx.arr ⟨0, 0, 0, 0, ByteArray.empty, true, 2, 0, Tx.zero, Tx.zero⟩ := by kernel_rfl
  obtain ⟨o, hoe⟩ : ∃ o : Tx, o = ⟨0, 0, 0, 0, ByteArray.empty, true, 2, 0, Tx.zero, Tx.zero⟩ := ⟨_, rfl⟩
  have hl : o.lane = true := by rw [hoe]
  have hr : o.round = 2 := by rw [hoe]
  have ht : o.turn = 0 := by rw [hoe]
  rw [← hoe] at ho he hb harr
  clear hoe
  have hhb := Tx.hand_body16 (t := o) 5 hl
  have hz : (Seal.tag 5 2 o.bodyE.1).2 = 0 := hand_err0 (t := o) (who := 5) (by decide)
  have hE : o.handE 5 = (o.hand 5, 0) := by
    unfold Tx.handE
    rw [if_neg (by simpa using hb), if_neg (by decide), if_neg (by rw [hl]; decide), hz]
  have hok := Tx.hand_ok ho 5
  have he2 : (o.hand 5).err = 0 := by rw [← Tx.body_two hok, hhb, hb]
  have hby : (o.hand 5).bY = (Seal.tag 5 2 (o.hand 5).bodyE.1).1 := by rw [hhb]; rfl
  have hl2 : (o.hand 5).lane = true := hl
  have hr2 : (o.hand 5).round = 2 := hr
  have ht2 : (o.hand 5).turn = 0 := ht
  refine ⟨o, o.hand 5, ho, hok, hE, harr, ?_⟩
  generalize o.hand 5 = t at *
  have r1 : Ln.rnd 10 25 = 2 := by decide
  have r2 : Ln.rnd 10 30 = 3 := by decide
  have k0 : Ln.look [⟨2, 5, 0⟩] 2 = some ⟨2, 5, 0⟩ := rfl
  have k1 : Ln.look [⟨2, 5, 1⟩] 2 = some ⟨2, 5, 1⟩ := rfl
  have c1 : Ln.checkE 10 [⟨2, 5, 0⟩] t 25 = 0 := by
    unfold Ln.checkE
    rw [if_neg (by simpa using he2), if_neg (by rw [hl2]; decide), if_neg (by rw [hr2, r1]; simp), hr2, k0]
    show (if (Seal.tag 5 2 t.bodyE.1).1 ≠ t.bY then 21 else if t.turn ≠ 0 then 30 else (0 : Int)) = 0
    rw [if_neg (by rw [hby]; simp), if_neg (by rw [ht2]; simp)]
  have c2 : Ln.checkE 10 [⟨2, 5, 1⟩] t 25 = 30 := by
    unfold Ln.checkE
    rw [if_neg (by simpa using he2), if_neg (by rw [hl2]; decide), if_neg (by rw [hr2, r1]; simp), hr2, k1]
    show (if (Seal.tag 5 2 t.bodyE.1).1 ≠ t.bY then 21 else if t.turn ≠ 1 then 30 else (0 : Int)) = 30
    rw [if_neg (by rw [hby]; simp), if_pos (by rw [ht2]; decide)]
  have c3 : Ln.checkE 10 [⟨2, 5, 1⟩] t 30 = 29 := by
    unfold Ln.checkE
    rw [if_neg (by simpa using he2), if_neg (by rw [hl2]; decide), if_pos (by rw [hr2, r2]; decide)]
  refine ⟨c1, c2, c3, ?_, ?_⟩
  · unfold Ln.take
    rw [if_pos c1, hr2]
    rfl
  · unfold Ln.take
    rw [if_neg (by rw [c2]; decide)]
set_option maxHeartbeats 1600000 in
theorem awake16_any (hRS : RefSum) (w : World) (hT : Tab w) :
    Calls Tryd.prog 34 #[] w fun e w' => e = .returned (.bool true) ∧ Below w.heap.size w w' := by
  obtain ⟨o, t, ho, ht, hhd, harr, k1, k2, k3, t1, t2⟩ := awake_facts16
  have s1 : Ln.setE [] 2 5 = 0 := by decide
  have s2 : Ln.set [] 2 5 = [⟨2, 5, 0⟩] := rfl
  have r1 : Ln.rnd 10 25 = 2 := by decide
  have HHd : Hid (∀ W, Calls Tryd.prog 62 #[.agg o.arr, .int .i64 5] W fun e w' => e = .returned (.tuple #[.agg t.cells.toArray, .int .i64 0]) ∧ Below W.heap.size W w') := Lib.hid (fun W => by have := rhand4_any hRS o ho 5 W; rw [hhd] at this; exact this)
  have HSet : Hid (∀ W B M, LaneAt W B M 10 [] 0 → Calls Tryd.prog 44 #[.pointer (some ⟨B, 0, none⟩), .int .i64 2, .int .i64 5] W fun e w' => e = .returned (.int .i64 0) ∧ LnTo W w' B M 10 [⟨2, 5, 0⟩] 1) := Lib.hid (fun W B M h => by have := set16_any 2 5 h ⟨by decide, by decide⟩ (by decide); rw [s1, s2] at this; exact this)
  have HRd : Hid (∀ W B M, LaneAt W B M 10 [⟨2, 5, 0⟩] 1 → Calls Tryd.prog 36 #[.pointer (some ⟨B, 0, none⟩), .int .i64 25] W fun e w' => e = .returned (.int .i64 2) ∧ W = w') := Lib.hid (fun W B M h => by have := round_any 25 h (by decide); rw [r1] at this; exact this)
  have HT1 : Hid (∀ W B M, Tab W → LaneAt W B M 10 [⟨2, 5, 0⟩] 1 → Calls Tryd.prog 43 #[.pointer (some ⟨B, 0, none⟩), .agg t.cells.toArray, .int .i64 25] W fun e w' => e = .returned (.int .i64 0) ∧ LnTo W w' B M 10 [⟨2, 5, 1⟩] 2) := Lib.hid (fun W B M hW h => by have := take16_any t ht 25 (by decide) h (by decide) hW; rw [k1, t1] at this; exact this)
  have HT2 : Hid (∀ W B M, Tab W → LaneAt W B M 10 [⟨2, 5, 1⟩] 2 → Calls Tryd.prog 43 #[.pointer (some ⟨B, 0, none⟩), .agg t.cells.toArray, .int .i64 25] W fun e w' => e = .returned (.int .i64 30) ∧ LnTo W w' B M 10 [⟨2, 5, 1⟩] 3) := Lib.hid (fun W B M hW h => by have := take16_any t ht 25 (by decide) h (by decide) hW; rw [k2, t2] at this; exact this)
  have HCk : Hid (∀ W B M, Tab W → LaneAt W B M 10 [⟨2, 5, 1⟩] 3 → Calls Tryd.prog 42 #[.pointer (some ⟨B, 0, none⟩), .agg t.cells.toArray, .int .i64 30] W fun e w' => e = .returned (.int .i64 29) ∧ Below W.heap.size W w') := Lib.hid (fun W B M hW h => by have := chk16_any t ht 30 (by decide) h hW; rw [k3] at this; exact this)
  have HC72 := Lib.hid (Tx.cells_length ht)
  have HC1 := Lib.hid (Tx.cells_one ht)
  have HZ72 := Lib.hid (Tx.cells_length Tx.none_ok)
  have hzv := tx_zv
  have HTb : Hid (∀ W, Below w.heap.size w W → Tab W) := Lib.hid (fun W hW => hT.below hW hT.pos)
  have HArr := Lib.hid harr
  generalize t.cells = C at *
  generalize o.arr = ov at *
  clear k1 k2 k3 t1 t2 s1 s2 r1 ho ht hhd hT harr
  go_enter Tryd.func34, Tryd.ntmps34
  go_wp2_with fail
  refine (laneNew_ok 10 w (by decide) (by decide)).mono ?_
  rintro _ w1 ⟨rfl, hl1, hb1⟩
  have HL1 := Lib.hid hl1
  have HB1 := Lib.hid hb1
  clear hl1 hb1
  go_wp2_with fail
  refine (HSet.out _ _ _ HL1.out).mono ?_
  rintro _ w2 ⟨rfl, hl2, hg2⟩
  have HL2 := Lib.hid hl2
  have HB2 := Lib.hid (below_own HB1.out hg2 (fun k hk => by cases hk; exact Nat.le_refl _))
  clear hl2 hg2
  go_wp2_with fail
  rw [HArr.out]
  refine (HHd.out _).mono ?_
  rintro _ w3 ⟨rfl, hb3⟩
  have HL3 := Lib.hid (HL2.out.below hb3)
  have HB3 := Lib.hid (two_below' HB2.out hb3)
  clear hb3
  go_wp2_with (with_reducible show wpList _ _ _ (⟨_, .store 74 _ _, _, _, _, _⟩ :: _) _ _
               refine wpList_store_at rfl 74 (.tmp 3) (.tmp 23) rfl w3.heap.size 0 C _ _ rfl rfl (Row.new w3 74 Tx.none.cells) (by have := HZ72.out; have := HC72.out; omega) (by rw [tx_info, HC72.out]) HC1.out ?_
               intro w4 hr hg
               rw [splice_all (HC72.out.trans HZ72.out.symm)] at hr
               have hb4 := below_own ((Below.refl w3.heap.size w3).alloc (Nat.le_refl _) _) hg (fun k hk => by cases hk; exact Nat.le_refl _)
               have HR4 := Lib.hid hr
               have HL4 := Lib.hid (HL3.out.below hb4)
               have HB4 := Lib.hid (two_below' HB3.out hb4)
               clear hr hg hb4)
  refine (HRd.out _ _ _ HL4.out).mono ?_
  rintro _ w5 ⟨rfl, rfl⟩
  generalize w3.heap.size = g3 at *
  go_wp2_with ((with_reducible show wpList _ _ _ (⟨_, .load 74 _, _, _, _, _⟩ :: _) _ _); refine wpList_load_tx rfl 74 (.tmp 3) rfl g3 0 rfl C _ (row_range HR4.out) Tryd.underlying74 rfl (by rw [tx_info, HC72.out]) ?_)
  refine (HT1.out _ _ _ (HTb.out _ HB4.out) HL4.out).mono ?_
  rintro _ w6 ⟨rfl, hl6, hg6⟩
  have hne : g3 ≠ w.heap.size := by
    obtain ⟨D, N, _, hD, _⟩ := HL4.out.map
    exact row_ne_map hD HR4.out
  have HR6 := Lib.hid (HR4.out.kept hg6 (by simpa using hne))
  have HL6 := Lib.hid hl6
  have HB6 := Lib.hid (below_own HB4.out hg6 (fun k hk => by cases hk; exact Nat.le_refl _))
  have HNe := Lib.hid hne
  clear hl6 hg6 hne
  go_wp2_with ((with_reducible show wpList _ _ _ (⟨_, .load 74 _, _, _, _, _⟩ :: _) _ _); refine wpList_load_tx rfl 74 (.tmp 3) rfl g3 0 rfl C _ (row_range HR6.out) Tryd.underlying74 rfl (by rw [tx_info, HC72.out]) ?_)
  refine (HT2.out _ _ _ (HTb.out _ HB6.out) HL6.out).mono ?_
  rintro _ w7 ⟨rfl, hl7, hg7⟩
  have HR7 := Lib.hid (HR6.out.kept hg7 (by simpa using HNe.out))
  have HL7 := Lib.hid hl7
  have HB7 := Lib.hid (below_own HB6.out hg7 (fun k hk => by cases hk; exact Nat.le_refl _))
  clear hl7 hg7
  go_wp2_with ((with_reducible show wpList _ _ _ (⟨_, .load 74 _, _, _, _, _⟩ :: _) _ _); refine wpList_load_tx rfl 74 (.tmp 3) rfl g3 0 rfl C _ (row_range HR7.out) Tryd.underlying74 rfl (by rw [tx_info, HC72.out]) ?_)
  refine (HCk.out _ _ _ (HTb.out _ HB7.out) HL7.out).mono ?_
  rintro _ w8 ⟨rfl, hb8⟩
  have HB8 := Lib.hid (two_below' HB7.out hb8)
  clear hb8
  go_wp2_with fail
  go_ret
  exact ⟨rfl, HB8.out⟩
theorem set16_nil (r a : Int) (w : World) : Calls Tryd.prog 44 #[.pointer none, .int .i64 r, .int .i64 a] w fun e w' => e = .returned (.int .i64 1) ∧ w = w' := by
  go_enter Tryd.func44, Tryd.ntmps44
  go_wp2_with fail
  go_ret
  exact ⟨rfl, rfl⟩
theorem give16_nil (r a b n : Int) (w : World) : Calls Tryd.prog 45 #[.pointer none, .int .i64 r, .int .i64 a, .int .i64 b, .int .i64 n] w fun e w' => e = .returned (.int .i64 1) ∧ w = w' := by
  go_enter Tryd.func45, Tryd.ntmps45
  go_wp2_with fail
  go_ret
  exact ⟨rfl, rfl⟩
theorem take16_nil (t : Tx) (ht : t.Ok) (now : Int) (w : World) :
    Calls Tryd.prog 43 #[.pointer none, .agg t.cells.toArray, .int .i64 now] w fun e w' => e = .returned (.int .i64 1) ∧ Below w.heap.size w w' := by
  have hb : Below w.heap.size w (w.alloc (.cells t.cells.toArray 74)) := (Below.refl _ _).alloc (Nat.le_refl _) _
  have HCk : Hid (∀ W, Calls Tryd.prog 42 #[.pointer none, .agg t.cells.toArray, .int .i64 now] W fun e w' => e = .returned (.int .i64 1) ∧ Below W.heap.size W w') := Lib.hid (fun W => chk16_nil t ht now W)
  have HR0 := Lib.hid (Row.new w 74 t.cells)
  have HLn := Lib.hid (Tx.cells_length ht)
  have HB := Lib.hid hb
  generalize t.cells = C at *
  clear hb ht
  go_enter Tryd.func43, Tryd.ntmps43
  go_wp2_with ((with_reducible show wpList _ _ _ (⟨_, .load 74 _, _, _, _, _⟩ :: _) _ _); refine wpList_load_tx rfl 74 (.tmp 4) rfl w.heap.size 0 rfl C _ (row_range HR0.out) Tryd.underlying74 rfl (by rw [tx_info, HLn.out]) ?_)
  refine (HCk.out _).mono ?_
  rintro _ w1 ⟨rfl, hb1⟩
  have HB1 := Lib.hid (two_below' HB.out hb1)
  clear hb1
  go_wp2_with fail
  go_ret
  exact ⟨rfl, HB1.out⟩
set_option maxHeartbeats 800000 in
theorem laneRounds_any (hRS : RefSum) (len now : Int) (hl0 : -9223372036854775808 ≤ len) (hl1 : len ≤ 9223372036854775807) (hn0 : -9223372036854775808 ≤ now) (hn1 : now ≤ 9223372036854775807) (w : World) (hT : Tab w) :
    Calls Tryd.prog 10 #[.int .i64 len, .int .i64 now] w fun e w' => e = .returned (.bool true) ∧ Below w.heap.size w w' := by
  have HAw : Hid (∀ W, Below w.heap.size w W → Calls Tryd.prog 34 #[] W fun e w' => e = .returned (.bool true) ∧ Below W.heap.size W w') := Lib.hid (fun W hW => awake16_any hRS W (hT.below hW hT.pos))
  clear hT
  by_cases hgood : 1 ≤ len ∧ len ≤ 1099511627776
  · by_cases h0 : now < 0
    · have d1 : decide (now < 0) = true := by simpa using h0
      have hr : Ln.rnd len now = 0 := by unfold Ln.rnd; rw [if_pos h0]
      have HR := Lib.hid hr
      clear hr
      go_enter Tryd.func10, Tryd.ntmps10
      go_wp2_with fail
      refine (laneNew_ok len w hgood.1 hgood.2).mono ?_
      rintro _ w1 ⟨rfl, hl1, hb1⟩
      have HL1 := Lib.hid hl1
      have HB1 := Lib.hid hb1
      clear hl1 hb1
      go_wp2_with fail
      refine (HAw.out _ HB1.out).mono ?_
      rintro _ w2 ⟨rfl, hb2⟩
      have HL2 := Lib.hid (HL1.out.below hb2)
      have HB2 := Lib.hid (two_below' HB1.out hb2)
      clear hb2
      go_wp2_with fail
      refine (round_any now HL2.out hn1).mono ?_
      rintro _ w3 ⟨rfl, rfl⟩
      rw [HR.out]
      go_wp2_with fail
      go_ret
      exact ⟨rfl, HB2.out⟩
    · have d1 : decide (now < 0) = false := by simpa using h0
      have hlen : 0 < len := by omega
      have hr : Ln.rnd len now = now / len := by unfold Ln.rnd; rw [if_neg h0]
      have hq0 : 0 ≤ now / len := Int.ediv_nonneg (by omega) (by omega)
      have hq1 : now / len ≤ now := Int.ediv_le_self _ (by omega)
      have hm0 : 0 ≤ now % len := Int.emod_nonneg _ (by omega)
      have hm1 : now % len < len := Int.emod_lt_of_pos _ hlen
      have hdm : now / len * len + now % len = now := Int.ediv_mul_add_emod now len
      have hp0 : 0 ≤ now / len * len := Int.mul_nonneg hq0 (by omega)
      have et : now.tdiv len = now / len := Int.tdiv_eq_ediv_of_nonneg (by omega)
      have HR := Lib.hid hr
      generalize now % len = m at *
      generalize hq : now / len = q at *
      have ewq : IntKind.i64.wrap q = q := IntWalk.i64_in _ (by omega)
      obtain ⟨p, hp⟩ : ∃ p, q * len = p := ⟨_, rfl⟩
      rw [hp] at hdm hp0
      have ewp : IntKind.i64.wrap p = p := IntWalk.i64_in _ (by omega)
      have ews : IntKind.i64.wrap (now - p) = now - p := IntWalk.i64_in _ (by omega)
      have d2 : decide (0 ≤ q) = true := by simpa using hq0
      have d3 : decide (0 ≤ now - p) = true := by simp; omega
      have d4 : decide (now - p < len) = true := by simp; omega
      have hz : ¬ len = 0 := by omega
      have hzb : (len == 0) = false := by simpa using hz
      have hpn : ¬ now < p := by omega
      have dpn : decide (now < p) = false := by simpa using hpn
      have dpp : decide (p ≤ now) = true := by simp; omega
      have hpp : p ≤ now := by omega
      clear hr hq1 hm0 hm1 hq
      go_enter Tryd.func10, Tryd.ntmps10
      go_wp2_with fail
      refine (laneNew_ok len w hgood.1 hgood.2).mono ?_
      rintro _ w1 ⟨rfl, hl1, hb1⟩
      have HL1 := Lib.hid hl1
      have HB1 := Lib.hid hb1
      clear hl1 hb1
      go_wp2_with fail
      refine (HAw.out _ HB1.out).mono ?_
      rintro _ w2 ⟨rfl, hb2⟩
      have HL2 := Lib.hid (HL1.out.below hb2)
      have HB2 := Lib.hid (two_below' HB1.out hb2)
      clear hb2
      go_wp2_with fail
      refine (round_any now HL2.out hn1).mono ?_
      rintro _ w3 ⟨rfl, rfl⟩
      rw [HR.out]
      go_wp2_with fail
      go_ret
      exact ⟨rfl, HB2.out⟩
  · go_enter Tryd.func10, Tryd.ntmps10
    go_wp2_with fail
    refine (laneNew_no len w (by omega)).mono ?_
    rintro _ w1 ⟨rfl, rfl⟩
    go_wp2_with fail
    refine (HAw.out _ (Below.refl _ _)).mono ?_
    rintro _ w2 ⟨rfl, hb2⟩
    have HB2 := Lib.hid hb2
    clear hb2
    go_wp2_with fail
    refine (HAw.out _ HB2.out).mono ?_
    rintro _ w3 ⟨rfl, hb3⟩
    have HB3 := Lib.hid (two_below' HB2.out hb3)
    clear hb3
    go_wp2_with fail
    go_ret
    exact ⟨rfl, HB3.out⟩
end Go.Proofs.YtlapmdgkcidhnaaDoor
