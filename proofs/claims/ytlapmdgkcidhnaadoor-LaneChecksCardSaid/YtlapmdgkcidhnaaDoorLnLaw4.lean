/- the law LaneChecks. -/
import Derived.Test.YtlapmdgkcidhnaaDoorLnDoes
namespace Go.Proofs.YtlapmdgkcidhnaaDoor
open Go.RowKit Go.Maps
set_option linter.unusedVariables false
set_option linter.unusedSimpArgs false
set_option maxRecDepth 100000

theorem Ln.take_same {len : Int} {L : List Ln.H} {t : Tx} {now : Int} (h : Ln.checkE len L t now ≠ 0) : Ln.take len L t now = L := by unfold Ln.take; rw [if_neg h]
theorem Ln.Ok.turnOf {n : Nat} {L : List Ln.H} (h : Ln.Ok n L) (r : Int) : 0 ≤ Ln.turnOf L r ∧ Ln.turnOf L r ≤ n := by
  unfold Ln.turnOf
  cases hk : Ln.look L r with
  | none => exact ⟨by decide, by simp⟩
  | some x => exact (h.2 x (Ln.look_mem hk)).2.2.2.2
theorem Ln.take_next {len : Int} {L : List Ln.H} {t : Tx} {now : Int} (h : Ln.checkE len L t now = 0) :
    Ln.turnOf (Ln.take len L t now) t.round = Ln.turnOf L t.round + 1 ∧ Ln.checkE len (Ln.take len L t now) t now = 30 := by
  have hz := h
  unfold Ln.checkE at h
  by_cases h1 : t.err ≠ 0
  · rw [if_pos h1] at h; exact absurd h h1
  rw [if_neg h1] at h
  by_cases h2 : t.lane = false
  · rw [if_pos h2] at h; cases h
  rw [if_neg h2] at h
  by_cases h3 : t.round ≠ Ln.rnd len now
  · rw [if_pos h3] at h; cases h
  rw [if_neg h3] at h
  cases hk : Ln.look L t.round with
  | none => rw [hk] at h; cases h
  | some x =>
    rw [hk] at h
    simp only at h
    by_cases h4 : (Seal.tag x.who 2 t.bodyE.1).1 ≠ t.bY
    · rw [if_pos h4] at h; cases h
    rw [if_neg h4] at h
    by_cases h5 : t.turn ≠ x.turn
    · rw [if_pos h5] at h; cases h
    have hw : Ln.whoOf L t.round = x.who := by unfold Ln.whoOf; rw [hk]
    have ht : Ln.turnOf L t.round = x.turn := by unfold Ln.turnOf; rw [hk]
    have hk2 : Ln.look (Ln.take len L t now) t.round = some ⟨t.round, x.who, x.turn + 1⟩ := by
      unfold Ln.take
      rw [if_pos hz, Ln.look_upd, if_pos rfl, hw, ht]
    refine ⟨?_, ?_⟩
    · rw [ht]; unfold Ln.turnOf; rw [hk2]
    · unfold Ln.checkE
      rw [if_neg h1, if_neg h2, if_neg h3, hk2]
      simp only
      rw [if_neg h4, if_pos (by omega)]
theorem laneChecks_no (hRS : RefSum) (len : Int) (l : List Act16) (A : Option Addr) (c : Nat) (a : Act16) (w : World) (hT : Tab w) (hd : len < 1 ∨ 1099511627776 < len) :
    Calls Tryd.prog 11 #[.int .i64 len, .slice A l.length c, .agg a.cells.toArray] w fun e w' => e = .returned (.bool true) ∧ Below w.heap.size w w' := by
  have AW := Lib.hid (fun W (hW : Below w.heap.size w W) => awake16_any hRS W (hT.below hW hT.pos))
  have N1 := Lib.hid (fun W => laneNew_no len W hd)
  have N2 := Lib.hid (fun W => rlaneNew_no len W hd)
  generalize l.length = n
  generalize a.cells = CA
  have hb0 : Below w.heap.size w (w.alloc (.cells CA.toArray 76)) := (Below.refl _ _).alloc (Nat.le_refl _) _
  have HB0 := Lib.hid hb0
  clear hT hd hb0
  go_enter Tryd.func11, Tryd.ntmps11
  go_wp2_with fail
  refine (N1.out _).mono ?_
  rintro _ w1 ⟨rfl, rfl⟩
  go_wp2_with fail
  refine (N2.out _).mono ?_
  rintro _ w2 ⟨rfl, rfl⟩
  go_wp2_with fail
  refine (AW.out _ HB0.out).mono ?_
  rintro _ w3 ⟨rfl, hb3⟩
  have HB3 := Lib.hid (two_below' HB0.out hb3)
  clear hb3
  go_wp2_with fail
  refine (AW.out _ HB3.out).mono ?_
  rintro _ w4 ⟨rfl, hb4⟩
  have HB4 := Lib.hid (two_below' HB3.out hb4)
  clear hb4
  go_wp2_with fail
  go_ret
  exact ⟨rfl, HB4.out⟩
set_option maxHeartbeats 8000000 in
theorem laneChecks_any (hRS : RefSum) (len : Int) (l : List Act16) (A : Option Addr) (c : Nat) (a : Act16) (ha : a.Fits) (w : World) (hin : Act16sAt w w.heap.size A l) (hT : Tab w) :
    Calls Tryd.prog 11 #[.int .i64 len, .slice A l.length c, .agg a.cells.toArray] w fun e w' => e = .returned (.bool true) ∧ Below w.heap.size w w' := by
  by_cases hd : len < 1 ∨ 1099511627776 < len
  · exact laneChecks_no hRS len l A c a w hT hd
  have hlen : 1 ≤ len ∧ len ≤ 1099511627776 := by omega
  have hb0 : Below w.heap.size w (w.alloc (.cells a.cells.toArray 76)) := (Below.refl _ _).alloc (Nat.le_refl _) _
  have hr0 := Row.new w 76 a.cells
  have hin0 := hin.below hb0
  have hT0 := hT.below hb0 hT.pos
  obtain ⟨wb, hwb⟩ : ∃ wb, wb = w.alloc (.cells a.cells.toArray 76) := ⟨_, rfl⟩
  rw [← hwb] at hb0 hr0 hin0 hT0
  have hsz : w.heap.size < wb.heap.size := hr0.lt
  have AW := Lib.hid (fun W (hW : Below wb.heap.size wb W) => awake16_any hRS W (hT0.below hW hT0.pos))
  have N1 := Lib.hid (laneNew_ok len wb hlen.1 hlen.2)
  have N2 := Lib.hid (fun W => rlaneNew_ok len W hlen.1 hlen.2)
  have HIn := Lib.hid hin0
  have HT := Lib.hid hT0
  have HB0 := Lib.hid hb0
  have HR0 := Lib.hid hr0
  have Hsz := Lib.hid hsz
  have HWb := Lib.hid hwb
  have HA := Lib.hid ha
  have HCA79 := Lib.hid (Act16.cells_len ha)
  have hzv : ∀ W : World, (zeroValue 74).run Tryd.prog W = .ok (.agg Tx.none.cells.toArray) W := tx_zv
  have HZ72 := Lib.hid (Tx.cells_length Tx.none_ok)
  have HCa : Hid (∀ (W : World) (g : Nat), Row W g 76 a.cells → W.cell? ⟨g, 4, none⟩ = some (.int .i64 a.now)) := Lib.hid (fun W g h => by have := row_range h 4 (.int .i64 a.now) rfl; simpa using this)
  obtain ⟨n, hn⟩ : ∃ n, n = l.length := ⟨_, rfl⟩
  rw [← hn]
  have HN := Lib.hid hn
  have hn1 : n ≤ 9223372036854775807 := by rw [hn]; exact hin.2.2.2
  have HTxE : Hid (∀ (W : World) (B M RB : Nat) (L : List Ln.H) (k : Nat), k ≤ 40 → TwoL wb W B M RB len L k L k → Calls Tryd.prog 41 #[.pointer (some ⟨RB, 0, none⟩), .agg a.cells.toArray] W fun e w' => e = .returned (.agg (Ln.txE len L a).cells.toArray) ∧ Below W.heap.size W w') := Lib.hid (fun W B M RB L k hk h => by
    obtain ⟨v, hv⟩ := h.ref
    exact tx16_any hRS a ha hv (by omega))
  clear hin hT hn hd hlen hb0 hr0 hin0 hT0 hsz
  generalize Tx.none.cells = ZT at *
  obtain ⟨CA, hCA⟩ : ∃ CA, a.cells = CA := ⟨_, rfl⟩
  rw [hCA] at HR0 HCA79 HCa HTxE hwb ⊢
  have HNow := Lib.hid ha.now.2
  clear ha HWb
  go_enter Tryd.func11, Tryd.ntmps11
  go_wp2_with fail
  rw [← hwb]
  clear hwb
  refine N1.out.mono ?_
  rintro _ w1 ⟨rfl, hl1, hb1⟩
  have HL1 := Lib.hid hl1
  have HB1 := Lib.hid hb1
  clear hl1 hb1 N1
  go_wp2_with fail
  refine (N2.out _).mono ?_
  rintro _ w2 ⟨rfl, hl2, hb2⟩
  have h2 := lane16_start HL1.out HB1.out hl2 hb2
  have HT2 := Lib.hid h2
  clear hl2 hb2 h2 N2
  generalize w1.heap.size = RB at *
  clear HL1 HB1
  obtain ⟨B, hB⟩ : ∃ B, wb.heap.size + 1 = B := ⟨_, rfl⟩
  obtain ⟨M, hM⟩ : ∃ M, M = wb.heap.size := ⟨_, rfl⟩
  rw [hB] at HT2 ⊢
  have HT2' : Hid (TwoL wb w2 B M RB len [] 0 [] 0) := by rw [hM]; exact HT2
  clear HT2 hM hB
  go_wp2_with fail
  refine (AW.out _ HT2'.out.low).mono ?_
  rintro _ w3 ⟨rfl, hb3⟩
  have HT3 := Lib.hid (HT2'.out.below hb3)
  clear hb3 HT2' AW
  generalize hg5 : w.heap.size = g5 at *
  have HG5 := Lib.hid hg5
  clear hg5
  go_wp2_with fail
  go_loopw [11] (fun i wr => ∃ (k : Nat) (L : List Ln.H), k ≤ n ∧ k ≤ 40 ∧ i = .int .i64 k ∧ TwoL wb wr B M RB len L k L k) (fun i _ => n - (intOf i).toNat)
  case atStart => exact ⟨0, _, Nat.zero_le _, by decide, rfl, HT3.out⟩
  case round =>
    obtain ⟨k, L, hk, hk40, rfl, ht⟩ := hrel
    have HK2 := Lib.hid ht
    clear ht HT3
    by_cases hkn : k < n ∧ k < 40
    · have hki : (k : Int) < (n : Int) := by omega
      have hk5 : (k : Int) < 40 := by omega
      have hka : k < l.length := by rw [← HN.out]; exact hkn.1
      obtain ⟨ga, off, rfl, hga, hcl⟩ := HIn.out.1 (by intro e; rw [e] at hka; simp at hka)
      have hxr := hcl k hka
      have hxi := HIn.out.2.2.1 _ (List.getElem_mem hka)
      generalize l[k] = x at hxr hxi
      have HXr : Hid (∀ W, Below wb.heap.size wb W → W.rangeAt ga (off + k * 79) x.cells) := Lib.hid (fun W hW j v hv => (hW.cell (p := ⟨ga, off + k * 79 + j, none⟩) (Nat.lt_trans hga Hsz.out)).trans (hxr j v hv))
      have hk890 : k ≤ 890 := by omega
      have HDo : Hid (∀ W, TwoL wb W B M RB len L k L k → Calls Tryd.prog 35 #[.pointer (some ⟨B, 0, none⟩), .pointer (some ⟨RB, 0, none⟩), .agg x.cells.toArray] W fun e w' => e = .returned (.bool true) ∧ TwoL wb w' B M RB len (Ln.stepE len L x) (k + 1) (Ln.stepE len L x) (k + 1) ∧ KeepsR W w') := Lib.hid (fun W h => do16_any hRS x hxi h hk890 HT.out)
      have HA79 := Lib.hid (Act16.cells_len hxi)
      generalize Ln.stepE len L x = E at *
      generalize x.cells = C at *
      clear hcl hga hxr hxi hka hk890 hzv
      go_wp2_with ((with_reducible show wpList _ _ _ (⟨_, .load 76 (.tmp 54), _, _, _, _⟩ :: _) _ _); refine wpList_load_tx rfl 76 (.tmp 54) rfl ga (off + k * 79) rfl C _ (HXr.out _ HK2.out.low) Tryd.underlying76 rfl (by rw [act_info, HA79.out]) ?_)
      clear hk5
      refine (HDo.out _ HK2.out).mono ?_
      rintro _ w3 ⟨rfl, ht3, hk3⟩
      have HT3 := Lib.hid ht3
      clear ht3 hk3
      go_wp2_with fail
      exact ⟨⟨k + 1, E, by omega, by omega, by go_num, HT3.out⟩, by simp [intOf]; omega⟩
    · have htok : (Ln.txE len L a).Ok := Ln.txE_ok HK2.out.own.ok (by omega) HK2.out.own.len HA.out
      have HR2 := Lib.hid (HR0.out.below HK2.out.low)
      have HTx : Hid (∀ W, TwoL wb W B M RB len L k L k → Calls Tryd.prog 41 #[.pointer (some ⟨RB, 0, none⟩), .agg CA.toArray] W fun e w' => e = .returned (.agg (Ln.txE len L a).cells.toArray) ∧ Below W.heap.size W w') := Lib.hid (fun W h => HTxE.out W B M RB L k hk40 h)
      clear HTxE
      generalize Ln.txE len L a = T at *
      have hfr : Ln.fits T.round := htok.round
      have hnow := HNow.out
      have HTu : Hid (∀ W, TwoL wb W B M RB len L k L k → Calls Tryd.prog 40 #[.pointer (some ⟨B, 0, none⟩), .int .i64 T.round] W fun e w' => e = .returned (.int .i64 (Ln.turnOf L T.round)) ∧ Below W.heap.size W w') := Lib.hid (fun W h => turn_any T.round h.own hfr)
      have HCk : Hid (∀ W, TwoL wb W B M RB len L k L k → Calls Tryd.prog 42 #[.pointer (some ⟨B, 0, none⟩), .agg T.cells.toArray, .int .i64 a.now] W fun e w' => e = .returned (.int .i64 (Ln.checkE len L T a.now)) ∧ Below W.heap.size W w') := Lib.hid (fun W h => chk16_any T htok a.now hnow h.own (HT.out.below h.low HT.out.pos))
      have HTk : Hid (∀ W, TwoL wb W B M RB len L k L k → Calls Tryd.prog 43 #[.pointer (some ⟨B, 0, none⟩), .agg T.cells.toArray, .int .i64 a.now] W fun e w' => e = .returned (.int .i64 (Ln.checkE len L T a.now)) ∧ TwoL wb w' B M RB len (Ln.take len L T a.now) (k + 1) L k ∧ KeepsR W w') := Lib.hid (fun W h => own_take16 T htok a.now hnow (by omega) HT.out h)
      have HTu2 : Hid (∀ W, TwoL wb W B M RB len (Ln.take len L T a.now) (k + 1) L k → Calls Tryd.prog 40 #[.pointer (some ⟨B, 0, none⟩), .int .i64 T.round] W fun e w' => e = .returned (.int .i64 (Ln.turnOf (Ln.take len L T a.now) T.round)) ∧ Below W.heap.size W w') := Lib.hid (fun W h => turn_any T.round h.own hfr)
      have HCk2 : Hid (∀ W, TwoL wb W B M RB len (Ln.take len L T a.now) (k + 1) L k → Calls Tryd.prog 42 #[.pointer (some ⟨B, 0, none⟩), .agg T.cells.toArray, .int .i64 a.now] W fun e w' => e = .returned (.int .i64 (Ln.checkE len (Ln.take len L T a.now) T a.now)) ∧ Below W.heap.size W w') := Lib.hid (fun W h => chk16_any T htok a.now hnow h.own (HT.out.below h.low HT.out.pos))
      have HCx : Hid (∀ (W : World) (g : Nat), Row W g 74 T.cells → W.cell? ⟨g, 6, none⟩ = some (.int .i64 T.round)) := Lib.hid (fun W g h => (tx_box htok h).2.2.2.2.2.2.1)
      have HT72 := Lib.hid (Tx.cells_length htok)
      have HT1 := Lib.hid (Tx.cells_one htok)
      have hu := HK2.out.own.ok.turnOf T.round
      have hnx := @Ln.take_next len L T a.now
      have hsm := @Ln.take_same len L T a.now
      obtain ⟨u, hue⟩ : ∃ u, Ln.turnOf L T.round = u := ⟨_, rfl⟩
      rw [hue] at HTu hu hnx
      generalize Ln.checkE len L T a.now = f at *
      have ewu : IntKind.i64.wrap (u + 1) = u + 1 := IntWalk.i64_in _ (by omega)
      have key : ∀ (Q : Prop), ((¬ k < n → Q) ∧ (k < n → ¬ k < 40 → Q)) → Q := fun Q h => by
        by_cases q : k < n
        · exact h.2 q (fun q2 => hkn ⟨q, q2⟩)
        · exact h.1 q
      clear hkn hfr htok HNow hnow
      by_cases hf : f = 0
      · obtain ⟨hn1', hn2'⟩ := hnx hf
        rw [hn1'] at HTu2
        rw [hn2'] at HCk2
        subst hf
        clear hnx hsm hn1' hn2' hue
        generalize Ln.take len L T a.now = L2 at *
        generalize T.cells = CT at *
        generalize T.round = ro at *
        generalize a.now = now at *
        refine key _ ⟨fun q => ?_, fun q q2 => ?_⟩
        · have hki : (n : Int) ≤ (k : Int) := by omega
          clear q key
          have hcx := HCa.out _ _ HR2.out
          go_wp2_with ((with_reducible show wpList _ _ _ (⟨_, .load 76 (.tmp 5), _, _, _, _⟩ :: _) _ _); refine wpList_load_tx rfl 76 (.tmp 5) rfl g5 0 rfl CA _ (row_range HR2.out) Tryd.underlying76 rfl (by rw [act_info, HCA79.out]) ?_)
          refine (HTx.out _ HK2.out).mono ?_
          rintro _ w3 ⟨rfl, hb3⟩
          have HK3 := Lib.hid (HK2.out.below hb3)
          have HR3 := Lib.hid (HR2.out.below hb3)
          clear hb3 hcx
          go_wp2_with (
             with_reducible show wpList _ _ _ (⟨_, .store 74 _ _, _, _, _, _⟩ :: _) _ _
             refine wpList_store_at rfl 74 (.tmp 12) (.tmp 59) rfl w3.heap.size 0 CT ZT _ rfl rfl (Row.new w3 74 ZT) (by have := HZ72.out; have := HT72.out; omega) (by rw [tx_info, HT72.out]) HT1.out ?_
             intro w4 hr hg
             rw [splice_all (HT72.out.trans HZ72.out.symm)] at hr
             have hb4 := below_own ((Below.refl w3.heap.size w3).alloc (Nat.le_refl _) (.cells ZT.toArray 74)) hg (fun k hk => by cases hk; exact Nat.le_refl _)
             have HK4 := Lib.hid (HK3.out.below hb4)
             have HR4 := Lib.hid (show Row w4 g5 76 CA from HR3.out.below hb4)
             have HX4 := Lib.hid hr
             have c4 := HCx.out _ _ hr
             clear hr hg hb4)
          generalize w3.heap.size = g12 at *
          refine (HTu.out _ HK4.out).mono ?_
          rintro _ w5 ⟨rfl, hb5⟩
          have HK5 := Lib.hid (HK4.out.below hb5)
          have HX5 := Lib.hid (HX4.out.below hb5)
          have HR5 := Lib.hid (HR4.out.below hb5)
          clear hb5 c4
          have c5 := HCx.out _ _ HX5.out
          have d5 := HCa.out _ _ HR5.out
          go_wp2_with ((with_reducible show wpList _ _ _ (⟨_, .load 74 (.tmp 12), _, _, _, _⟩ :: _) _ _); refine wpList_load_tx rfl 74 (.tmp 12) rfl g12 0 rfl CT _ (row_range HX5.out) Tryd.underlying74 rfl (by rw [tx_info, HT72.out]) ?_)
          refine (HCk.out _ HK5.out).mono ?_
          rintro _ w6 ⟨rfl, hb6⟩
          have HK6 := Lib.hid (HK5.out.below hb6)
          have HX6 := Lib.hid (HX5.out.below hb6)
          have HR6 := Lib.hid (HR5.out.below hb6)
          clear hb6 c5 d5
          have c6 := HCx.out _ _ HX6.out
          have d6 := HCa.out _ _ HR6.out
          go_wp2_with fail
          refine (HTu.out _ HK6.out).mono ?_
          rintro _ w7 ⟨rfl, hb7⟩
          have HK7 := Lib.hid (HK6.out.below hb7)
          have HX7 := Lib.hid (HX6.out.below hb7)
          have HR7 := Lib.hid (HR6.out.below hb7)
          clear hb7 c6 d6
          have c7 := HCx.out _ _ HX7.out
          have d7 := HCa.out _ _ HR7.out
          go_wp2_with ((with_reducible show wpList _ _ _ (⟨_, .load 74 (.tmp 12), _, _, _, _⟩ :: _) _ _); refine wpList_load_tx rfl 74 (.tmp 12) rfl g12 0 rfl CT _ (row_range HX7.out) Tryd.underlying74 rfl (by rw [tx_info, HT72.out]) ?_)
          refine (HCk.out _ HK7.out).mono ?_
          rintro _ w8 ⟨rfl, hb8⟩
          have HK8 := Lib.hid (HK7.out.below hb8)
          have HX8 := Lib.hid (HX7.out.below hb8)
          have HR8 := Lib.hid (HR7.out.below hb8)
          clear hb8 c7 d7
          have c8 := HCx.out _ _ HX8.out
          have d8 := HCa.out _ _ HR8.out
          go_wp2_with ((with_reducible show wpList _ _ _ (⟨_, .load 74 (.tmp 12), _, _, _, _⟩ :: _) _ _); refine wpList_load_tx rfl 74 (.tmp 12) rfl g12 0 rfl CT _ (row_range HX8.out) Tryd.underlying74 rfl (by rw [tx_info, HT72.out]) ?_)
          refine (HTk.out _ HK8.out).mono ?_
          rintro _ w9 ⟨rfl, ht9, hk9⟩
          have HK9 := Lib.hid ht9
          have HX9 := Lib.hid (hk9 _ _ _ (by decide) (by decide) HX8.out)
          have HR9 := Lib.hid (hk9 _ _ _ (by decide) (by decide) HR8.out)
          clear ht9 hk9 c8 d8
          have c9 := HCx.out _ _ HX9.out
          have d9 := HCa.out _ _ HR9.out
          go_wp2_with fail
          refine (HTu2.out _ HK9.out).mono ?_
          rintro _ w10 ⟨rfl, hb10⟩
          have HK10 := Lib.hid (HK9.out.below hb10)
          have HX10 := Lib.hid (HX9.out.below hb10)
          have HR10 := Lib.hid (HR9.out.below hb10)
          clear hb10 c9 d9
          have c10 := HCx.out _ _ HX10.out
          have d10 := HCa.out _ _ HR10.out
          go_wp2_with ((with_reducible show wpList _ _ _ (⟨_, .load 74 (.tmp 12), _, _, _, _⟩ :: _) _ _); refine wpList_load_tx rfl 74 (.tmp 12) rfl g12 0 rfl CT _ (row_range HX10.out) Tryd.underlying74 rfl (by rw [tx_info, HT72.out]) ?_)
          refine (HCk2.out _ HK10.out).mono ?_
          rintro _ w11 ⟨rfl, hb11⟩
          have HK11 := Lib.hid (HK10.out.below hb11)
          clear hb11 c10 d10
          go_wp2_with fail
          go_ret
          exact ⟨rfl, by rw [HG5.out]; exact HB0.out.trans (HK11.out.low.mono (Nat.le_of_lt Hsz.out))⟩
        · have hki : (k : Int) < (n : Int) := by omega
          have hk5 : (40 : Int) ≤ (k : Int) := by omega
          clear q q2 key
          have hcx := HCa.out _ _ HR2.out
          go_wp2_with ((with_reducible show wpList _ _ _ (⟨_, .load 76 (.tmp 5), _, _, _, _⟩ :: _) _ _); refine wpList_load_tx rfl 76 (.tmp 5) rfl g5 0 rfl CA _ (row_range HR2.out) Tryd.underlying76 rfl (by rw [act_info, HCA79.out]) ?_)
          refine (HTx.out _ HK2.out).mono ?_
          rintro _ w3 ⟨rfl, hb3⟩
          have HK3 := Lib.hid (HK2.out.below hb3)
          have HR3 := Lib.hid (HR2.out.below hb3)
          clear hb3 hcx
          go_wp2_with (
             with_reducible show wpList _ _ _ (⟨_, .store 74 _ _, _, _, _, _⟩ :: _) _ _
             refine wpList_store_at rfl 74 (.tmp 12) (.tmp 59) rfl w3.heap.size 0 CT ZT _ rfl rfl (Row.new w3 74 ZT) (by have := HZ72.out; have := HT72.out; omega) (by rw [tx_info, HT72.out]) HT1.out ?_
             intro w4 hr hg
             rw [splice_all (HT72.out.trans HZ72.out.symm)] at hr
             have hb4 := below_own ((Below.refl w3.heap.size w3).alloc (Nat.le_refl _) (.cells ZT.toArray 74)) hg (fun k hk => by cases hk; exact Nat.le_refl _)
             have HK4 := Lib.hid (HK3.out.below hb4)
             have HR4 := Lib.hid (show Row w4 g5 76 CA from HR3.out.below hb4)
             have HX4 := Lib.hid hr
             have c4 := HCx.out _ _ hr
             clear hr hg hb4)
          generalize w3.heap.size = g12 at *
          refine (HTu.out _ HK4.out).mono ?_
          rintro _ w5 ⟨rfl, hb5⟩
          have HK5 := Lib.hid (HK4.out.below hb5)
          have HX5 := Lib.hid (HX4.out.below hb5)
          have HR5 := Lib.hid (HR4.out.below hb5)
          clear hb5 c4
          have c5 := HCx.out _ _ HX5.out
          have d5 := HCa.out _ _ HR5.out
          go_wp2_with ((with_reducible show wpList _ _ _ (⟨_, .load 74 (.tmp 12), _, _, _, _⟩ :: _) _ _); refine wpList_load_tx rfl 74 (.tmp 12) rfl g12 0 rfl CT _ (row_range HX5.out) Tryd.underlying74 rfl (by rw [tx_info, HT72.out]) ?_)
          refine (HCk.out _ HK5.out).mono ?_
          rintro _ w6 ⟨rfl, hb6⟩
          have HK6 := Lib.hid (HK5.out.below hb6)
          have HX6 := Lib.hid (HX5.out.below hb6)
          have HR6 := Lib.hid (HR5.out.below hb6)
          clear hb6 c5 d5
          have c6 := HCx.out _ _ HX6.out
          have d6 := HCa.out _ _ HR6.out
          go_wp2_with fail
          refine (HTu.out _ HK6.out).mono ?_
          rintro _ w7 ⟨rfl, hb7⟩
          have HK7 := Lib.hid (HK6.out.below hb7)
          have HX7 := Lib.hid (HX6.out.below hb7)
          have HR7 := Lib.hid (HR6.out.below hb7)
          clear hb7 c6 d6
          have c7 := HCx.out _ _ HX7.out
          have d7 := HCa.out _ _ HR7.out
          go_wp2_with ((with_reducible show wpList _ _ _ (⟨_, .load 74 (.tmp 12), _, _, _, _⟩ :: _) _ _); refine wpList_load_tx rfl 74 (.tmp 12) rfl g12 0 rfl CT _ (row_range HX7.out) Tryd.underlying74 rfl (by rw [tx_info, HT72.out]) ?_)
          refine (HCk.out _ HK7.out).mono ?_
          rintro _ w8 ⟨rfl, hb8⟩
          have HK8 := Lib.hid (HK7.out.below hb8)
          have HX8 := Lib.hid (HX7.out.below hb8)
          have HR8 := Lib.hid (HR7.out.below hb8)
          clear hb8 c7 d7
          have c8 := HCx.out _ _ HX8.out
          have d8 := HCa.out _ _ HR8.out
          go_wp2_with ((with_reducible show wpList _ _ _ (⟨_, .load 74 (.tmp 12), _, _, _, _⟩ :: _) _ _); refine wpList_load_tx rfl 74 (.tmp 12) rfl g12 0 rfl CT _ (row_range HX8.out) Tryd.underlying74 rfl (by rw [tx_info, HT72.out]) ?_)
          refine (HTk.out _ HK8.out).mono ?_
          rintro _ w9 ⟨rfl, ht9, hk9⟩
          have HK9 := Lib.hid ht9
          have HX9 := Lib.hid (hk9 _ _ _ (by decide) (by decide) HX8.out)
          have HR9 := Lib.hid (hk9 _ _ _ (by decide) (by decide) HR8.out)
          clear ht9 hk9 c8 d8
          have c9 := HCx.out _ _ HX9.out
          have d9 := HCa.out _ _ HR9.out
          go_wp2_with fail
          refine (HTu2.out _ HK9.out).mono ?_
          rintro _ w10 ⟨rfl, hb10⟩
          have HK10 := Lib.hid (HK9.out.below hb10)
          have HX10 := Lib.hid (HX9.out.below hb10)
          have HR10 := Lib.hid (HR9.out.below hb10)
          clear hb10 c9 d9
          have c10 := HCx.out _ _ HX10.out
          have d10 := HCa.out _ _ HR10.out
          go_wp2_with ((with_reducible show wpList _ _ _ (⟨_, .load 74 (.tmp 12), _, _, _, _⟩ :: _) _ _); refine wpList_load_tx rfl 74 (.tmp 12) rfl g12 0 rfl CT _ (row_range HX10.out) Tryd.underlying74 rfl (by rw [tx_info, HT72.out]) ?_)
          refine (HCk2.out _ HK10.out).mono ?_
          rintro _ w11 ⟨rfl, hb11⟩
          have HK11 := Lib.hid (HK10.out.below hb11)
          clear hb11 c10 d10
          go_wp2_with fail
          go_ret
          exact ⟨rfl, by rw [HG5.out]; exact HB0.out.trans (HK11.out.low.mono (Nat.le_of_lt Hsz.out))⟩
      · have hL2 := hsm hf
        rw [hL2] at HTk HTu2
        rw [hue] at HTu2
        clear hue
        have hff : (f != 0) = true := by simpa using hf
        clear hnx hsm HCk2 hL2
        generalize T.cells = CT at *
        generalize T.round = ro at *
        generalize a.now = now at *
        refine key _ ⟨fun q => ?_, fun q q2 => ?_⟩
        · have hki : (n : Int) ≤ (k : Int) := by omega
          clear q key
          have hcx := HCa.out _ _ HR2.out
          go_wp2_with ((with_reducible show wpList _ _ _ (⟨_, .load 76 (.tmp 5), _, _, _, _⟩ :: _) _ _); refine wpList_load_tx rfl 76 (.tmp 5) rfl g5 0 rfl CA _ (row_range HR2.out) Tryd.underlying76 rfl (by rw [act_info, HCA79.out]) ?_)
          refine (HTx.out _ HK2.out).mono ?_
          rintro _ w3 ⟨rfl, hb3⟩
          have HK3 := Lib.hid (HK2.out.below hb3)
          have HR3 := Lib.hid (HR2.out.below hb3)
          clear hb3 hcx
          go_wp2_with (
             with_reducible show wpList _ _ _ (⟨_, .store 74 _ _, _, _, _, _⟩ :: _) _ _
             refine wpList_store_at rfl 74 (.tmp 12) (.tmp 59) rfl w3.heap.size 0 CT ZT _ rfl rfl (Row.new w3 74 ZT) (by have := HZ72.out; have := HT72.out; omega) (by rw [tx_info, HT72.out]) HT1.out ?_
             intro w4 hr hg
             rw [splice_all (HT72.out.trans HZ72.out.symm)] at hr
             have hb4 := below_own ((Below.refl w3.heap.size w3).alloc (Nat.le_refl _) (.cells ZT.toArray 74)) hg (fun k hk => by cases hk; exact Nat.le_refl _)
             have HK4 := Lib.hid (HK3.out.below hb4)
             have HR4 := Lib.hid (show Row w4 g5 76 CA from HR3.out.below hb4)
             have HX4 := Lib.hid hr
             have c4 := HCx.out _ _ hr
             clear hr hg hb4)
          generalize w3.heap.size = g12 at *
          refine (HTu.out _ HK4.out).mono ?_
          rintro _ w5 ⟨rfl, hb5⟩
          have HK5 := Lib.hid (HK4.out.below hb5)
          have HX5 := Lib.hid (HX4.out.below hb5)
          have HR5 := Lib.hid (HR4.out.below hb5)
          clear hb5 c4
          have c5 := HCx.out _ _ HX5.out
          have d5 := HCa.out _ _ HR5.out
          go_wp2_with ((with_reducible show wpList _ _ _ (⟨_, .load 74 (.tmp 12), _, _, _, _⟩ :: _) _ _); refine wpList_load_tx rfl 74 (.tmp 12) rfl g12 0 rfl CT _ (row_range HX5.out) Tryd.underlying74 rfl (by rw [tx_info, HT72.out]) ?_)
          refine (HCk.out _ HK5.out).mono ?_
          rintro _ w6 ⟨rfl, hb6⟩
          have HK6 := Lib.hid (HK5.out.below hb6)
          have HX6 := Lib.hid (HX5.out.below hb6)
          have HR6 := Lib.hid (HR5.out.below hb6)
          clear hb6 c5 d5
          have c6 := HCx.out _ _ HX6.out
          have d6 := HCa.out _ _ HR6.out
          go_wp2_with fail
          refine (HTu.out _ HK6.out).mono ?_
          rintro _ w7 ⟨rfl, hb7⟩
          have HK7 := Lib.hid (HK6.out.below hb7)
          have HX7 := Lib.hid (HX6.out.below hb7)
          have HR7 := Lib.hid (HR6.out.below hb7)
          clear hb7 c6 d6
          have c7 := HCx.out _ _ HX7.out
          have d7 := HCa.out _ _ HR7.out
          go_wp2_with ((with_reducible show wpList _ _ _ (⟨_, .load 74 (.tmp 12), _, _, _, _⟩ :: _) _ _); refine wpList_load_tx rfl 74 (.tmp 12) rfl g12 0 rfl CT _ (row_range HX7.out) Tryd.underlying74 rfl (by rw [tx_info, HT72.out]) ?_)
          refine (HCk.out _ HK7.out).mono ?_
          rintro _ w8 ⟨rfl, hb8⟩
          have HK8 := Lib.hid (HK7.out.below hb8)
          have HX8 := Lib.hid (HX7.out.below hb8)
          have HR8 := Lib.hid (HR7.out.below hb8)
          clear hb8 c7 d7
          have c8 := HCx.out _ _ HX8.out
          have d8 := HCa.out _ _ HR8.out
          go_wp2_with ((with_reducible show wpList _ _ _ (⟨_, .load 74 (.tmp 12), _, _, _, _⟩ :: _) _ _); refine wpList_load_tx rfl 74 (.tmp 12) rfl g12 0 rfl CT _ (row_range HX8.out) Tryd.underlying74 rfl (by rw [tx_info, HT72.out]) ?_)
          refine (HTk.out _ HK8.out).mono ?_
          rintro _ w9 ⟨rfl, ht9, hk9⟩
          have HK9 := Lib.hid ht9
          have HX9 := Lib.hid (hk9 _ _ _ (by decide) (by decide) HX8.out)
          have HR9 := Lib.hid (hk9 _ _ _ (by decide) (by decide) HR8.out)
          clear ht9 hk9 c8 d8
          have c9 := HCx.out _ _ HX9.out
          have d9 := HCa.out _ _ HR9.out
          go_wp2_with fail
          refine (HTu2.out _ HK9.out).mono ?_
          rintro _ w10 ⟨rfl, hb10⟩
          have HK10 := Lib.hid (HK9.out.below hb10)
          have HX10 := Lib.hid (HX9.out.below hb10)
          have HR10 := Lib.hid (HR9.out.below hb10)
          clear hb10 c9 d9
          have c10 := HCx.out _ _ HX10.out
          have d10 := HCa.out _ _ HR10.out
          go_wp2_with fail
          go_ret
          exact ⟨rfl, by rw [HG5.out]; exact HB0.out.trans (HK10.out.low.mono (Nat.le_of_lt Hsz.out))⟩
        · have hki : (k : Int) < (n : Int) := by omega
          have hk5 : (40 : Int) ≤ (k : Int) := by omega
          clear q q2 key
          have hcx := HCa.out _ _ HR2.out
          go_wp2_with ((with_reducible show wpList _ _ _ (⟨_, .load 76 (.tmp 5), _, _, _, _⟩ :: _) _ _); refine wpList_load_tx rfl 76 (.tmp 5) rfl g5 0 rfl CA _ (row_range HR2.out) Tryd.underlying76 rfl (by rw [act_info, HCA79.out]) ?_)
          refine (HTx.out _ HK2.out).mono ?_
          rintro _ w3 ⟨rfl, hb3⟩
          have HK3 := Lib.hid (HK2.out.below hb3)
          have HR3 := Lib.hid (HR2.out.below hb3)
          clear hb3 hcx
          go_wp2_with (
             with_reducible show wpList _ _ _ (⟨_, .store 74 _ _, _, _, _, _⟩ :: _) _ _
             refine wpList_store_at rfl 74 (.tmp 12) (.tmp 59) rfl w3.heap.size 0 CT ZT _ rfl rfl (Row.new w3 74 ZT) (by have := HZ72.out; have := HT72.out; omega) (by rw [tx_info, HT72.out]) HT1.out ?_
             intro w4 hr hg
             rw [splice_all (HT72.out.trans HZ72.out.symm)] at hr
             have hb4 := below_own ((Below.refl w3.heap.size w3).alloc (Nat.le_refl _) (.cells ZT.toArray 74)) hg (fun k hk => by cases hk; exact Nat.le_refl _)
             have HK4 := Lib.hid (HK3.out.below hb4)
             have HR4 := Lib.hid (show Row w4 g5 76 CA from HR3.out.below hb4)
             have HX4 := Lib.hid hr
             have c4 := HCx.out _ _ hr
             clear hr hg hb4)
          generalize w3.heap.size = g12 at *
          refine (HTu.out _ HK4.out).mono ?_
          rintro _ w5 ⟨rfl, hb5⟩
          have HK5 := Lib.hid (HK4.out.below hb5)
          have HX5 := Lib.hid (HX4.out.below hb5)
          have HR5 := Lib.hid (HR4.out.below hb5)
          clear hb5 c4
          have c5 := HCx.out _ _ HX5.out
          have d5 := HCa.out _ _ HR5.out
          go_wp2_with ((with_reducible show wpList _ _ _ (⟨_, .load 74 (.tmp 12), _, _, _, _⟩ :: _) _ _); refine wpList_load_tx rfl 74 (.tmp 12) rfl g12 0 rfl CT _ (row_range HX5.out) Tryd.underlying74 rfl (by rw [tx_info, HT72.out]) ?_)
          refine (HCk.out _ HK5.out).mono ?_
          rintro _ w6 ⟨rfl, hb6⟩
          have HK6 := Lib.hid (HK5.out.below hb6)
          have HX6 := Lib.hid (HX5.out.below hb6)
          have HR6 := Lib.hid (HR5.out.below hb6)
          clear hb6 c5 d5
          have c6 := HCx.out _ _ HX6.out
          have d6 := HCa.out _ _ HR6.out
          go_wp2_with fail
          refine (HTu.out _ HK6.out).mono ?_
          rintro _ w7 ⟨rfl, hb7⟩
          have HK7 := Lib.hid (HK6.out.below hb7)
          have HX7 := Lib.hid (HX6.out.below hb7)
          have HR7 := Lib.hid (HR6.out.below hb7)
          clear hb7 c6 d6
          have c7 := HCx.out _ _ HX7.out
          have d7 := HCa.out _ _ HR7.out
          go_wp2_with ((with_reducible show wpList _ _ _ (⟨_, .load 74 (.tmp 12), _, _, _, _⟩ :: _) _ _); refine wpList_load_tx rfl 74 (.tmp 12) rfl g12 0 rfl CT _ (row_range HX7.out) Tryd.underlying74 rfl (by rw [tx_info, HT72.out]) ?_)
          refine (HCk.out _ HK7.out).mono ?_
          rintro _ w8 ⟨rfl, hb8⟩
          have HK8 := Lib.hid (HK7.out.below hb8)
          have HX8 := Lib.hid (HX7.out.below hb8)
          have HR8 := Lib.hid (HR7.out.below hb8)
          clear hb8 c7 d7
          have c8 := HCx.out _ _ HX8.out
          have d8 := HCa.out _ _ HR8.out
          go_wp2_with ((with_reducible show wpList _ _ _ (⟨_, .load 74 (.tmp 12), _, _, _, _⟩ :: _) _ _); refine wpList_load_tx rfl 74 (.tmp 12) rfl g12 0 rfl CT _ (row_range HX8.out) Tryd.underlying74 rfl (by rw [tx_info, HT72.out]) ?_)
          refine (HTk.out _ HK8.out).mono ?_
          rintro _ w9 ⟨rfl, ht9, hk9⟩
          have HK9 := Lib.hid ht9
          have HX9 := Lib.hid (hk9 _ _ _ (by decide) (by decide) HX8.out)
          have HR9 := Lib.hid (hk9 _ _ _ (by decide) (by decide) HR8.out)
          clear ht9 hk9 c8 d8
          have c9 := HCx.out _ _ HX9.out
          have d9 := HCa.out _ _ HR9.out
          go_wp2_with fail
          refine (HTu2.out _ HK9.out).mono ?_
          rintro _ w10 ⟨rfl, hb10⟩
          have HK10 := Lib.hid (HK9.out.below hb10)
          have HX10 := Lib.hid (HX9.out.below hb10)
          have HR10 := Lib.hid (HR9.out.below hb10)
          clear hb10 c9 d9
          have c10 := HCx.out _ _ HX10.out
          have d10 := HCa.out _ _ HR10.out
          go_wp2_with fail
          go_ret
          exact ⟨rfl, by rw [HG5.out]; exact HB0.out.trans (HK10.out.low.mono (Nat.le_of_lt Hsz.out))⟩
end Go.Proofs.YtlapmdgkcidhnaaDoor
