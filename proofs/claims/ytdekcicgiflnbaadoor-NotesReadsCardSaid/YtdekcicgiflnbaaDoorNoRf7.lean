/- The reference of layer 5: ReadBatch. -/
import Derived.Test.YtdekcicgiflnbaaDoorNoRf4
import Derived.Test.YtdekcicgiflnbaaDoorNoBt4
namespace Go.Proofs.YtdekcicgiflnbaaDoor
open Go.RowKit
set_option linter.unusedVariables false
set_option linter.unusedSimpArgs false

theorem Bt.of_bad {ns : List Int} {rest : List No.T8} {k : Nat} (hk : k < rest.length) (h : ∀ p, Pt.of rest[k] = some p → Pt.ok p = false) : Bt.of ns rest = none := by
  cases ho : Bt.of ns rest with
  | none => rfl
  | some b =>
    obtain ⟨h1, h2, h3⟩ := Bt.of_ok ho
    have hl := Pt.lay_all h3
    have ha := ((Bt.ok_iff b).1 h1).2.2
    have hkb : k < b.parts.length := by rw [← hl] at hk; simpa using hk
    have hok := List.all_eq_true.1 ha _ (List.getElem_mem hkb)
    have e : rest[k] = Pt.lay b.parts[k] := by
      simp only [← hl, List.getElem_map]
    have := h b.parts[k] (by rw [e]; exact Pt.of_lay hok)
    rw [this] at hok
    cases hok
theorem Bt.of_long {ns : List Int} {rest : List No.T8} (h : 512 < rest.length) : Bt.of ns rest = none := by
  cases ho : Bt.of ns rest with
  | none => rfl
  | some b =>
    obtain ⟨h1, h2, h3⟩ := Bt.of_ok ho
    have hl := Pt.lay_all h3
    have ha := ((Bt.ok_iff b).1 h1).2.1
    rw [← hl, List.length_map] at h
    omega
theorem part5_of (d : Bool) (t : List UInt8) (ht : t.length ≤ 65536) (ly : List UInt8) (b : Bool) (h1 : Pt.lay (d, t) = ly) (h2 : Pt.ok (d, t) = b) (w : World) :
    Calls Tryd.prog 84 #[.agg #[.bool d, S t]] w fun e w' => e = .returned (.tuple #[S ly, .bool b]) ∧ Below w.heap.size w w' := by
  have := part5_any d t (by omega) w
  rw [h1, h2] at this
  exact this
set_option maxRecDepth 20000 in
/-- what the last checks of ReadBatch read -/
theorem bt_ok_of {a b d : Int} {ps : List Pt} (hl : ps.length ≤ 512) (hp : ps.all Pt.ok = true) : (Bt.mk a b d ps).ok = (Tx.num a && (Tx.num b && Tx.num d)) := by
  unfold Bt.ok
  rw [hp, decide_eq_true hl]
  simp
set_option maxRecDepth 20000 in
set_option maxHeartbeats 12800000 in
theorem rreadBatch_any (s : ByteArray) (w : World) (hs : s.size ≤ 140737488351232) :
    Calls Tryd.prog 50 #[.string s] w fun e w' => BtEnds (Bt.read s.data.toList) w.heap.size e w' ∧ Below w.heap.size w w' := by
  have HZL : Hid (Bt.zeroC.length = 4) := (rfl : Bt.zeroC.length = 4)
  have HZ1 := Lib.hid (Bt.cells_one Bt.zero none 0)
  have hzv : ∀ W : World, (zeroValue 55).run Tryd.prog W = .ok (.agg Bt.zeroC.toArray) W := fun W => by kernel_rfl
  have LS := Lib.hid (fun W => rlist4_any s W hs)
  obtain ⟨R, hR⟩ : ∃ R, R = Bt.read s.data.toList := ⟨_, rfl⟩
  rw [← hR]
  have Hr0 := Lib.hid (Row.new w 55 Bt.zeroC)
  have Hb0 := Lib.hid ((Below.refl w.heap.size w).alloc (Nat.le_refl _) (.cells Bt.zeroC.toArray 55))
  have HRr := Lib.hid hR
  clear hR
  go_enter Tryd.func50, Tryd.ntmps50
  go_wp2_with fail
  refine calls_named ?_
  intro w1 hw1
  have hB1 : Blocks w w1 [(w.heap.size, 55, Bt.zeroC)] := by rw [hw1]; exact (Blocks.nil Hb0.out).cons Hr0.out
  have HB1 := Lib.hid hB1
  clear hw1 hB1 Hr0 Hb0
  refine (LS.out w1).mono ?_
  rintro _ w2 ⟨L, v, n, rfl, hT, hL, hb2⟩
  obtain ⟨A, c, rfl, hTx⟩ := hT
  have HB2 := Lib.hid (HB1.out.step hb2)
  have HTx := Lib.hid hTx
  have HL := Lib.hid hL
  clear hb2 hTx hL HB1
  have htl : (∀ x ∈ L, x.length ≤ 65536) ∧ L.length ≤ 1024 := by
    rcases HL.out with ⟨_, h⟩ | ⟨_, _, h⟩
    · exact ⟨Tx.listAll_text h, listAll_few h⟩
    · rw [h]; simp
  have NB := Lib.hid (fun W hW => numbers5_any L A c 3 W (by decide) htl.1 hW)
  have hlf := htl.2
  have HTl := Lib.hid htl.1
  obtain ⟨m, hm⟩ : ∃ m, m = L.length := ⟨_, rfl⟩
  rw [← hm] at NB hlf ⊢
  have HM := Lib.hid hm
  clear hm htl
  go_wp2_with fail
  refine (NB.out _ HTx.out).mono ?_
  rintro _ w3 ⟨hN, hb3⟩
  have HB3 := Lib.hid (HB2.out.step hb3)
  have HTx3 : Hid (Texts w3 w3.heap.size A L) := fun hne => by
    obtain ⟨b, off, h1, h2, h3⟩ := HTx.out hne
    exact ⟨b, off, h1, Nat.lt_of_lt_of_le h2 hb3.size, fun i hi => (grownBy_of_below hb3 none).cell (h3 i hi) (by simp)⟩
  clear hb3 HB2 HTx NB
  rcases HL.out with ⟨rfl, hL⟩ | ⟨hne, hL, hLn⟩
  rotate_left
  · have HRn := Lib.hid (HRr.out.trans (Bt.read_none hL))
    rw [hLn] at hN
    obtain ⟨v, rfl⟩ : ∃ v, _ = _ := hN
    have Hrz := Lib.hid HB3.out.hd
    have Hbz := Lib.hid HB3.out.1
    clear hL hLn
    go_wp2_with (first
      | (with_reducible show wpList _ _ _ (⟨_, .build 55 _, _, _, _, _⟩ :: _) _ _; refine wpList_buildL rfl 55 [] rfl (some 34) rfl _ rfl _ Bt.zeroC_built0 ?_)
      | (with_reducible show wpList _ _ _ (⟨_, .store 55 _ _, _, _, _, _⟩ :: _) _ _
         refine wpList_store_at rfl 55 (.tmp 2) (.tmp 34) rfl (w.heap.size) 0 Bt.zeroC _ _ rfl rfl Hrz.out (by have := HZL.out; omega) (by rw [batch_info, HZL.out]) HZ1.out ?_
         intro wZ hrZ hgZ
         rw [splice_all rfl] at hrZ
         have HrZ := Lib.hid hrZ
         have HbZ := Lib.hid (below_own Hbz.out hgZ (fun k hk => by cases hk; exact Nat.le_refl _))
         clear hrZ hgZ))
    refine bodyPost_ret (results_rowL rfl _ _ (w.heap.size) 55 _ _ rfl HrZ.out Tryd.underlying55 rfl (by rw [batch_info, List.size_toArray, HZL.out]) _ rfl) rfl ⟨?_, HbZ.out⟩
    rw [HRn.out]
    exact rfl
  have HRe := Lib.hid (HRr.out.trans (by unfold Bt.read; rw [hL, Option.bind_some] : _ = (No.raw 3 L).bind fun ns => Bt.of ns (L.drop 3)))
  clear hL
  cases hF : No.raw 3 L with
  | none =>
    rw [hF] at hN
    obtain ⟨v, rfl⟩ := hN
    have HRn := Lib.hid (HRe.out.trans (by rw [hF, Option.bind_none]))
    have Hrz := Lib.hid HB3.out.hd
    have Hbz := Lib.hid HB3.out.1
    clear hF
    go_wp2_with (first
      | (with_reducible show wpList _ _ _ (⟨_, .build 55 _, _, _, _, _⟩ :: _) _ _; refine wpList_buildL rfl 55 [] rfl (some 34) rfl _ rfl _ Bt.zeroC_built0 ?_)
      | (with_reducible show wpList _ _ _ (⟨_, .store 55 _ _, _, _, _, _⟩ :: _) _ _
         refine wpList_store_at rfl 55 (.tmp 2) (.tmp 34) rfl (w.heap.size) 0 Bt.zeroC _ _ rfl rfl Hrz.out (by have := HZL.out; omega) (by rw [batch_info, HZL.out]) HZ1.out ?_
         intro wZ hrZ hgZ
         rw [splice_all rfl] at hrZ
         have HrZ := Lib.hid hrZ
         have HbZ := Lib.hid (below_own Hbz.out hgZ (fun k hk => by cases hk; exact Nat.le_refl _))
         clear hrZ hgZ))
    refine bodyPost_ret (results_rowL rfl _ _ (w.heap.size) 55 _ _ rfl HrZ.out Tryd.underlying55 rfl (by rw [batch_info, List.size_toArray, HZL.out]) _ rfl) rfl ⟨?_, HbZ.out⟩
    rw [HRn.out]
    exact rfl
  | some ns =>
    rw [hF] at hN
    obtain ⟨v, rfl, hown⟩ := hN
    obtain ⟨hn3, hml, hfit⟩ := No.raw_len _ _ _ hF
    obtain ⟨g, cp, rfl⟩ := ownsRow_succ hown
    have hcell := fun j v (h : (Is ns)[j]? = some v) => hown.cells rfl j v h
    have hglt := (hown.lt g rfl).2
    have HRs := Lib.hid (HRe.out.trans (by rw [hF]; rfl : _ = Bt.of ns (L.drop 3)))
    clear hF hown HRe
    obtain ⟨a, b, d, rfl⟩ := three_of hn3
    have hm3 : 3 ≤ m := by rw [HM.out]; exact hml
    clear hn3 hml
    by_cases h515 : m ≤ 515
    · have hmi : (m : Int) ≤ 515 := by omega
      have hi0 := hcell 0 _ rfl
      have hi1 := hcell 1 _ rfl
      have hi2 := hcell 2 _ rfl
      have hadd : ∀ j, (⟨g, 0, none⟩ : Addr).add j = ⟨g, 0 + j, none⟩ := fun j => by unfold Addr.add; split <;> simp_all
      rw [hadd, Nat.zero_add] at hi0 hi1 hi2
      have IB : Hid (∀ W, Below w3.heap.size w3 W → W.cell? ⟨g, 0, none⟩ = some (.int .i64 a) ∧ W.cell? ⟨g, 1, none⟩ = some (.int .i64 b) ∧ W.cell? ⟨g, 2, none⟩ = some (.int .i64 d)) := fun W hW =>
        ⟨(hW.cell (p := ⟨g, 0, none⟩) hglt).trans hi0, (hW.cell (p := ⟨g, 1, none⟩) hglt).trans hi1, (hW.cell (p := ⟨g, 2, none⟩) hglt).trans hi2⟩
      have hbu : Tryd.prog.built 55 [(0, .int .i64 a), (1, .int .i64 b), (2, .int .i64 d)] = some ([.int .i64 a, .int .i64 b, .int .i64 d, .slice none 0 0] : List Value).toArray := by kernel_rfl
      have Hbu := Lib.hid hbu
      have HUL : Hid (([.int .i64 a, .int .i64 b, .int .i64 d, .slice none 0 0] : List Value).length = 4) := (rfl : ([.int .i64 a, .int .i64 b, .int .i64 d, .slice none 0 0] : List Value).length = 4)
      have hu1 : ∀ v ∈ ([.int .i64 a, .int .i64 b, .int .i64 d, .slice none 0 0] : List Value), v.oneCell' = true := by
        intro v hv
        simp at hv
        rcases hv with rfl | rfl | rfl | rfl <;> rfl
      have HU1 := Lib.hid hu1
      have HS0 : Hid (BlocksS w w3 w3.drew [(w.heap.size, 55, Bt.zeroC)]) := Lib.hid ⟨HB3.out.drew, (Below.refl _ _).drew⟩
      have HG := Lib.hid (fun (x y z : List No.T8 → Prop) => trivial)
      have N0 := Lib.hid (fun b1 h W => within5_b a 1099511627776 b1 h W)
      have N1 := Lib.hid (fun b1 h W => within5_b b 1099511627776 b1 h W)
      have N2 := Lib.hid (fun b1 h W => within5_b d 1099511627776 b1 h W)
      clear hi0 hi1 hi2 hadd hcell hbu hu1 hfit HG
      go_wp2_with fail
      refine wp_region_noPanic ?_
      refine wp_region_held_drew (S := fun w' => BlocksS w w3 w' [(w.heap.size, 55, Bt.zeroC)]) (by kernel_rfl) (HS0.out) (fun hHeld => ?_)
      generalize w3.drew = wq at *
      refine wpAnyH_take (i := 0) (v := .slice (some ⟨g, 0, none⟩) 3 cp) rfl (by kernel_rfl) (by kernel_rfl) (by kernel_rfl) (fun _ _ _ h => h) (Or.inl ⟨by rfl, fun w' hSw => by go_simp⟩) hHeld ?_
      try simp only [Act.put, List.getElem_toArray, List.getElem_cons_succ, List.getElem_cons_zero, List.setIfInBounds_toArray, List.set_cons_zero, List.set_cons_succ]
      refine wpAnyH_take (i := 1) (v := .pointer (some ⟨g, 0, none⟩)) rfl (by kernel_rfl) (by kernel_rfl) (by kernel_rfl) (fun _ _ _ h => h) (Or.inl ⟨by rfl, fun w' hSw => by go_simp⟩) hHeld ?_
      try simp only [Act.put, List.getElem_toArray, List.getElem_cons_succ, List.getElem_cons_zero, List.setIfInBounds_toArray, List.set_cons_zero, List.set_cons_succ]
      refine wpAnyH_take (i := 2) (v := .int .i64 a) rfl (by kernel_rfl) (by kernel_rfl) (by kernel_rfl) (fun _ _ _ h => h) (Or.inl ⟨by rfl, fun w' hSw => by have hq := hSw; have hc := (IB.out _ hq.2).1; go_simp⟩) hHeld ?_
      try simp only [Act.put, List.getElem_toArray, List.getElem_cons_succ, List.getElem_cons_zero, List.setIfInBounds_toArray, List.set_cons_zero, List.set_cons_succ]
      refine wpAnyH_take (i := 3) (v := .slice (some ⟨g, 0, none⟩) 3 cp) rfl (by kernel_rfl) (by kernel_rfl) (by kernel_rfl) (fun _ _ _ h => h) (Or.inl ⟨by rfl, fun w' hSw => by go_simp⟩) hHeld ?_
      try simp only [Act.put, List.getElem_toArray, List.getElem_cons_succ, List.getElem_cons_zero, List.setIfInBounds_toArray, List.set_cons_zero, List.set_cons_succ]
      refine wpAnyH_take (i := 4) (v := .pointer (some ⟨g, 1, none⟩)) rfl (by kernel_rfl) (by kernel_rfl) (by kernel_rfl) (fun _ _ _ h => h) (Or.inl ⟨by rfl, fun w' hSw => by go_simp⟩) hHeld ?_
      try simp only [Act.put, List.getElem_toArray, List.getElem_cons_succ, List.getElem_cons_zero, List.setIfInBounds_toArray, List.set_cons_zero, List.set_cons_succ]
      refine wpAnyH_take (i := 5) (v := .int .i64 b) rfl (by kernel_rfl) (by kernel_rfl) (by kernel_rfl) (fun _ _ _ h => h) (Or.inl ⟨by rfl, fun w' hSw => by have hq := hSw; have hc := (IB.out _ hq.2).2.1; go_simp⟩) hHeld ?_
      try simp only [Act.put, List.getElem_toArray, List.getElem_cons_succ, List.getElem_cons_zero, List.setIfInBounds_toArray, List.set_cons_zero, List.set_cons_succ]
      refine wpAnyH_take (i := 6) (v := .slice (some ⟨g, 0, none⟩) 3 cp) rfl (by kernel_rfl) (by kernel_rfl) (by kernel_rfl) (fun _ _ _ h => h) (Or.inl ⟨by rfl, fun w' hSw => by go_simp⟩) hHeld ?_
      try simp only [Act.put, List.getElem_toArray, List.getElem_cons_succ, List.getElem_cons_zero, List.setIfInBounds_toArray, List.set_cons_zero, List.set_cons_succ]
      refine wpAnyH_take (i := 7) (v := .pointer (some ⟨g, 2, none⟩)) rfl (by kernel_rfl) (by kernel_rfl) (by kernel_rfl) (fun _ _ _ h => h) (Or.inl ⟨by rfl, fun w' hSw => by go_simp⟩) hHeld ?_
      try simp only [Act.put, List.getElem_toArray, List.getElem_cons_succ, List.getElem_cons_zero, List.setIfInBounds_toArray, List.set_cons_zero, List.set_cons_succ]
      refine wpAnyH_take (i := 8) (v := .int .i64 d) rfl (by kernel_rfl) (by kernel_rfl) (by kernel_rfl) (fun _ _ _ h => h) (Or.inl ⟨by rfl, fun w' hSw => by have hq := hSw; have hc := (IB.out _ hq.2).2.2; go_simp⟩) hHeld ?_
      try simp only [Act.put, List.getElem_toArray, List.getElem_cons_succ, List.getElem_cons_zero, List.setIfInBounds_toArray, List.set_cons_zero, List.set_cons_succ]
      refine' wpAnyH_take (i := 9) (v := .agg [.int .i64 a, .int .i64 b, .int .i64 d, .slice none 0 0].toArray) rfl (by kernel_rfl) (by kernel_rfl) (by kernel_rfl) (fun _ _ _ h => h) (yieldsIf_buildL (by rfl) 55 [(0, .tmp 37), (1, .tmp 40), (2, .tmp 43)] rfl [(0, .int .i64 a), (1, .int .i64 b), (2, .int .i64 d)] rfl [.int .i64 a, .int .i64 b, .int .i64 d, .slice none 0 0].toArray Hbu.out) hHeld ?_
      try simp only [Act.put, List.getElem_toArray, List.getElem_cons_succ, List.getElem_cons_zero, List.setIfInBounds_toArray, List.set_cons_zero, List.set_cons_succ]
      refine wpAnyH_ready (rs := [10]) (by kernel_rfl) (by simp) (AllReadyH.cons rfl (fun K1 hK1 => ?_) AllReadyH.nil)
      try simp only [Act.put, List.getElem_toArray, List.getElem_cons_succ, List.getElem_cons_zero, List.setIfInBounds_toArray, List.set_cons_zero, List.set_cons_succ]
      go_simp
      have hd2 := (Below.refl wq.heap.size wq).alloc (Nat.le_refl _) (.cells Bt.zeroC.toArray 55)
      have r8 : Row (wq.alloc (.cells Bt.zeroC.toArray 55)) wq.heap.size 55 Bt.zeroC := Row.new wq 55 Bt.zeroC
      have r8n := hHeld.fresh
      have r8s := hHeld.size
      have hHeld2 := hHeld.step hd2
      generalize wq.alloc (.cells Bt.zeroC.toArray 55) = wa1 at *
      obtain ⟨ga3, ga3e⟩ : ∃ ga3, ga3 = wq.heap.size := ⟨_, rfl⟩
      rw [← ga3e] at r8 r8n r8s ⊢
      refine hK1.out _ _ (hHeld2) (fun hHeld => ?_)
      clear hK1 K1
      try simp only [Act.put, List.getElem_toArray, List.getElem_cons_succ, List.getElem_cons_zero, List.setIfInBounds_toArray, List.set_cons_zero, List.set_cons_succ]
      clear hHeld2 ga3e
      refine wpAnyH_ready (rs := [11]) (by kernel_rfl) (by simp) (AllReadyH.cons rfl (fun K1 hK1 => ?_) AllReadyH.nil)
      try simp only [Act.put, List.getElem_toArray, List.getElem_cons_succ, List.getElem_cons_zero, List.setIfInBounds_toArray, List.set_cons_zero, List.set_cons_succ]
      rw [if_pos (by rfl)]
      refine wp_store_at 55 (.tmp 8) (.tmp 44) rfl ga3 0 [.int .i64 a, .int .i64 b, .int .i64 d, .slice none 0 0] _ _ rfl rfl r8 (by have := HZL.out; have := HUL.out; omega) (by rw [batch_info, HUL.out]) HU1.out ?_
      intro ws4 hrS hgS
      rw [splice_all (HUL.out.trans HZL.out.symm)] at hrS
      have HrU := Lib.hid hrS
      have hHeld2 := hHeld.put hgS r8s r8n
      clear hrS hgS
      refine hK1.out _ _ (hHeld2) (fun hHeld => ?_)
      clear hK1 K1
      try simp only [Act.put, List.getElem_toArray, List.getElem_cons_succ, List.getElem_cons_zero, List.setIfInBounds_toArray, List.set_cons_zero, List.set_cons_succ]
      clear hHeld2
      refine wpAnyH_done (by kernel_rfl) ?_ _
      refine NoPanic.normal ?_
      have HS5 := hHeld
      have Hr8 := Lib.hid HrU.out
      obtain ⟨lo, hlo⟩ : ∃ lo, lo = ws4.heap.size := ⟨_, rfl⟩
      have Hg8 : Hid (ga3 < lo) := Lib.hid (by rw [hlo]; exact HrU.out.lt)
      have Hsz1 : Hid (w.heap.size < ga3) := Lib.hid (by have h1 := HB3.out.hd.lt; have h2 := r8s.2; omega)
      have Hsz0 : Hid (w.heap.size ≤ lo) := Lib.hid (by have := Hsz1.out; have := Hg8.out; omega)
      have Hg3 : Hid (w3.heap.size ≤ ga3) := Lib.hid r8s.2
      have HS5h := Lib.hid HS5
      have Hlo0 : Hid (lo ≤ ws4.heap.size) := Lib.hid (Nat.le_of_eq hlo)
      obtain ⟨g8, hg8⟩ : ∃ g8, g8 = ga3 := ⟨_, rfl⟩
      rw [← hg8] at Hr8 Hg8 Hsz1 Hg3
      simp only [← hg8]
      clear hHeld HrU hzv HS5 hlo r8s r8n hg8
      obtain ⟨i0, hi, hz, hsi, hby⟩ := part_info5
      have Hi := Lib.hid hi
      have Hz := Lib.hid hz
      have Hsz := Lib.hid hsi
      have Hby := Lib.hid hby
      clear hi hz hsi hby
      go_wp2_with fail
      go_loopw [9] (fun i wr => ∃ (j k : Nat) (ps : List Pt) (v : Value), j ≤ m ∧ i = .int .i64 j ∧ j = 3 + k ∧ ps.length = k ∧ Pt.all (L.drop 3) = (Pt.all (L.drop j)).map (ps ++ ·) ∧ ps.all Pt.ok = true ∧ Row wr g8 55 [.int .i64 a, .int .i64 b, .int .i64 d, v] ∧ BlocksS w w3 wr [(w.heap.size, 55, Bt.zeroC)] ∧ wr.ownsRow lo 98 2 v k (Pt.flat ps) ∧ lo ≤ wr.heap.size) (fun i _ => m - (intOf i).toNat)
      case atStart => exact ⟨3, 0, [], _, by omega, rfl, rfl, rfl, by simp, rfl, Hr8.out, HS5h.out, World.ownsRow_nil _ _ _ _, Hlo0.out⟩
      case round =>
        obtain ⟨j, k, ps, v, hk, rfl, hj, hps, hFk, hall, hr8, hS, hown, hlo⟩ := hrel
        clear Hr8 HS5h Hlo0
        have HJ := Lib.hid hj
        have HR8 := Lib.hid hr8
        have HS := Lib.hid hS
        have Hown := Lib.hid hown
        have Hlo := Lib.hid hlo
        have Hall := Lib.hid hall
        have Hps := Lib.hid hps
        have HFk := Lib.hid hFk
        clear hr8 hS hown hlo hall hps hFk hj
        obtain ⟨Av, cv, rfl⟩ := own_form Hown.out
        by_cases hkm : j < m
        · have hki : (j : Int) < (m : Int) := by omega
          have hkl : j < L.length := by rw [← HM.out]; exact hkm
          obtain ⟨tb, toff, rfl, htb, htc0⟩ := HTx3.out (by intro e; rw [e] at hkl; simp at hkl)
          have htc := htc0 j hkl
          have c0 := (HS.out.2.cell (p := ⟨tb, toff + j, none⟩) htb).trans htc
          have hxl := HTl.out _ (List.getElem_mem hkl)
          obtain ⟨x, hx⟩ : ∃ x, x = L[j] := ⟨_, rfl⟩
          have hxk : (L.drop 3)[k]'(by rw [List.length_drop, ← HM.out]; have := HJ.out; omega) = x := by
            rw [hx, List.getElem_drop]
            congr 1
            exact HJ.out.symm
          rw [← hx] at c0 hxl htc
          have HX := Lib.hid hx
          have HXk := Lib.hid hxk
          have htbw : tb < wr.heap.size := Nat.lt_of_lt_of_le htb HS.out.2.size
          have htne : ¬ tb = wr.heap.size := by omega
          have htne2 : ¬ wr.heap.size = tb := by omega
          clear htc0 hx hxk
          by_cases h2 : x = [2]
          · have ho : Pt.of x = some (true, []) := by rw [h2]; rfl
            subst h2
            go_wp2_with fail
            refine (part5_of true [] (by first | exact hrl | simp) [2] true rfl rfl _).mono ?_
            rintro _ w6 ⟨rfl, hb6⟩
            have hF2 : Pt.all (L.drop 3) = (Pt.all (L.drop (j + 1))).map ((ps ++ [(true, [])]) ++ ·) := by
              rw [HFk.out, ← Pt.map_app, ← Pt.all_go hkl (by rw [← HX.out]; exact ho)]
            have HF2 := Lib.hid hF2
            have hr8a := HR8.out.kept (grownBy_alloc wr (.cells #[.bool true, S []] 98) none) (by simp)
            have hr8b := hr8a.kept (grownBy_of_below hb6 none) (by simp)
            have hown6 := (Hown.out.alloc (.cells #[.bool true, S []] 98)).kept (grownBy_of_below hb6 none) (by cases (Value.slice Av k cv).ownBlock <;> simp)
            have hrp := (Row.new wr 98 [.bool true, S []]).kept (grownBy_of_below hb6 none) (by simp)
            have HS6 := (HS.out.step ((Below.refl _ _).alloc (Nat.le_refl _) (.cells #[.bool true, S []] 98))).step hb6
            have c6 := (HS6.2.cell (p := ⟨tb, toff + j, none⟩) htb).trans htc
            have e3 := hr8b.cell 3 (by simp)
            have q0 := hrp.cell 0 (by simp)
            have q1 := hrp.cell 1 (by simp)
            simp only [List.getElem_cons_zero, List.getElem_cons_succ] at e3 q0 q1
            have hlo6 : lo ≤ w6.heap.size := Nat.le_trans Hlo.out (Nat.le_trans (by simp) hb6.size)
            have hown7 := hown6.alloc (.cells #[.bool true, S []] 98)
            have hr8c := hr8b.kept (grownBy_alloc w6 (.cells #[.bool true, S []] 98) none) (by simp)
            have HS7 := Lib.hid (HS6.step ((Below.refl _ _).alloc (Nat.le_refl _) (.cells #[.bool true, S []] 98)))
            have hsz7 : lo ≤ (w6.alloc (.cells #[.bool true, S []] 98)).heap.size := by simp; omega
            have hk63 : k + 1 ≤ maxLen := by have := HJ.out; unfold maxLen; omega
            have hk48 : ((k + 1) + (k + 1) / 4 + 192) * 24 ≤ 281474976710656 := by have := HJ.out; omega
            have Hnew := Lib.hid (row_news (Row.new w6 98 [.bool true, S []]))
            have Hown7 := Lib.hid hown7
            have Hr8c := Lib.hid hr8c
            clear hF2 hr8a hr8b hown6 hrp HS6 hown7 hr8c hb6 c0
            go_wp2_with (at_builtin; refine wpList_append_own_wide _ rfl (.tmp 90) (.tmp 92) 53 rfl lo 98 i0 (.agg #[.bool false, .string ByteArray.empty]) 2 24 Tryd.underlying53 Hi.out Hz.out Hsz.out Hby.out rfl (by decide) _ _ _ rfl Hown7.out ⟨w6.heap.size, 0, none⟩ 1 1 [.bool true, S []] rfl rfl Hnew.out (by intro u hu; simp at hu; rcases hu with rfl | rfl <;> rfl) hk63 hk48 hsz7 ?_
                         intro v' w8 hown8 hgrow8 _
                         obtain ⟨gq, cq, rfl⟩ := ownsRow_succ hown8
                         have hr8 := row_apart Hr8c.out Hg8.out Hown7.out hgrow8
                         have hS8 : BlocksS w w3 w8 [(w.heap.size, 55, Bt.zeroC)] := ⟨⟨HS7.out.1.1.grown hgrow8 HS7.out.1.1.size (fun k hk => by have := (Hown7.out.lt k hk).1; have := Hsz0.out; omega), fun x hx => by
                           simp at hx
                           subst hx
                           exact row_apart HS7.out.1.hd (by have := Hg8.out; have := Hsz1.out; omega) Hown7.out hgrow8⟩, HS7.out.2.grown hgrow8 HS7.out.2.size (fun k hk => by have := (Hown7.out.lt k hk).1; have := Hg8.out; have := Hg3.out; omega)⟩
                         have e8 := hr8.cell 3 (by simp)
                         have f8 := hr8.free 3
                         simp only [List.getElem_cons_zero, List.getElem_cons_succ] at e8
                         have Hr8 := Lib.hid (hr8.set 3 (.slice (some ⟨gq, 0, none⟩) (k + 1) cq) (by simp))
                         have hgs := grownBy_set w8 g8 3 (.slice (some ⟨gq, 0, none⟩) (k + 1) cq)
                         have HS9 := Lib.hid (hS8.put hgs ⟨by have := Hsz1.out; omega, Hg3.out⟩ (fun x hx => by simp at hx; subst hx; have := Hsz1.out; simp; omega))
                         have Hown9 := Lib.hid (hown8.kept hgs (.inr (fun e => by have := (hown8.lt _ e).1; have := Hg8.out; omega)))
                         have Hlo9 : Hid (lo ≤ (w8.setCell ⟨g8, 3, none⟩ (.slice (some ⟨gq, 0, none⟩) (k + 1) cq)).heap.size) := Lib.hid (Nat.le_trans (Nat.le_trans hsz7 hgrow8.size) hgs.size)
                         clear hr8 hS8 hgs hown8 hgrow8)
            refine ⟨⟨j + 1, k + 1, ps ++ [(true, [])], _, hkm, by go_num, by have := HJ.out; omega, by rw [List.length_append, Hps.out]; rfl, HF2.out, by rw [List.all_append, Hall.out]; rfl, Hr8.out, HS9.out, by rw [Pt.flat_snoc]; exact Hown9.out, Hlo9.out⟩, by simp [intOf]; omega⟩
          · have d2 : (x == [2]) = false := by simpa using h2
            cases x with
            | nil =>
              have HRn := Lib.hid (HRs.out.trans (Bt.of_bad (k := k) (by rw [List.length_drop, ← HM.out]; have := HJ.out; omega) (by rw [HXk.out]; intro p hp; cases hp)))
              go_wp2_with fail
              refine (part5_of false [] (by first | exact hrl | simp) [1] true rfl rfl _).mono ?_
              rintro _ w6 ⟨rfl, hb6⟩
              have HS6 := Lib.hid ((HS.out.step ((Below.refl _ _).alloc (Nat.le_refl _) _)).step hb6)
              have Hrz := Lib.hid HS6.out.1.hd
              have Hbz := Lib.hid HS6.out.1.1
              have c6 := (HS6.out.2.cell (p := ⟨tb, toff + j, none⟩) htb).trans htc
              clear hb6 HS6
              go_wp2_with (first
                | (with_reducible show wpList _ _ _ (⟨_, .build 55 _, _, _, _, _⟩ :: _) _ _; refine wpList_buildL rfl 55 [] rfl (some 88) rfl _ rfl _ Bt.zeroC_built0 ?_)
                | (with_reducible show wpList _ _ _ (⟨_, .store 55 _ _, _, _, _, _⟩ :: _) _ _
                   refine wpList_store_at rfl 55 (.tmp 2) (.tmp 88) rfl (w.heap.size) 0 Bt.zeroC _ _ rfl rfl Hrz.out (by have := HZL.out; omega) (by rw [batch_info, HZL.out]) HZ1.out ?_
                   intro wZ hrZ hgZ
                   rw [splice_all rfl] at hrZ
                   have HrZ := Lib.hid hrZ
                   have HbZ := Lib.hid (below_own Hbz.out hgZ (fun k hk => by cases hk; exact Nat.le_refl _))
                   clear hrZ hgZ))
              (try simp only [Exit.inBlock, Exit.then])
              refine bodyPost_ret (results_rowL rfl _ _ (w.heap.size) 55 _ _ rfl HrZ.out Tryd.underlying55 rfl (by rw [batch_info, List.size_toArray, HZL.out]) _ rfl) rfl ⟨?_, HbZ.out⟩
              rw [HRn.out]
              exact rfl
            | cons c0' r =>
              have he : (⟨(c0' :: r).toArray⟩ : ByteArray).toList.isEmpty = false := by
                rw [Bool.eq_false_iff]
                intro h
                have := (No.empty_iff _).1 h
                simp at this
              have hex := ext_tail c0' r
              have hrl : r.length ≤ 65536 := by simp at hxl; omega
              by_cases hc1 : c0' = 1
              · subst hc1
                have ho : Pt.of (1 :: r) = some (false, r) := by
                  unfold Pt.of
                  rw [if_neg h2]
                  rfl
                by_cases hr : r.length ≤ 656
                · have hpk : Pt.ok (false, r) = true := by unfold Pt.ok; simpa using hr
                  go_wp2_with fail
                  refine (part5_of false r (by first | exact hrl | simp) (1 :: r) true rfl hpk _).mono ?_
                  rintro _ w6 ⟨rfl, hb6⟩
                  have hF2 : Pt.all (L.drop 3) = (Pt.all (L.drop (j + 1))).map ((ps ++ [(false, r)]) ++ ·) := by
                    rw [HFk.out, ← Pt.map_app, ← Pt.all_go hkl (by rw [← HX.out]; exact ho)]
                  have Hpk := Lib.hid hpk
                  have HF2 := Lib.hid hF2
                  have hr8a := HR8.out.kept (grownBy_alloc wr (.cells #[.bool false, S r] 98) none) (by simp)
                  have hr8b := hr8a.kept (grownBy_of_below hb6 none) (by simp)
                  have hown6 := (Hown.out.alloc (.cells #[.bool false, S r] 98)).kept (grownBy_of_below hb6 none) (by cases (Value.slice Av k cv).ownBlock <;> simp)
                  have hrp := (Row.new wr 98 [.bool false, S r]).kept (grownBy_of_below hb6 none) (by simp)
                  have HS6 := (HS.out.step ((Below.refl _ _).alloc (Nat.le_refl _) (.cells #[.bool false, S r] 98))).step hb6
                  have c6 := (HS6.2.cell (p := ⟨tb, toff + j, none⟩) htb).trans htc
                  have e3 := hr8b.cell 3 (by simp)
                  have q0 := hrp.cell 0 (by simp)
                  have q1 := hrp.cell 1 (by simp)
                  simp only [List.getElem_cons_zero, List.getElem_cons_succ] at e3 q0 q1
                  have hlo6 : lo ≤ w6.heap.size := Nat.le_trans Hlo.out (Nat.le_trans (by simp) hb6.size)
                  have hown7 := hown6.alloc (.cells #[.bool false, S r] 98)
                  have hr8c := hr8b.kept (grownBy_alloc w6 (.cells #[.bool false, S r] 98) none) (by simp)
                  have HS7 := Lib.hid (HS6.step ((Below.refl _ _).alloc (Nat.le_refl _) (.cells #[.bool false, S r] 98)))
                  have hsz7 : lo ≤ (w6.alloc (.cells #[.bool false, S r] 98)).heap.size := by simp; omega
                  have hk63 : k + 1 ≤ maxLen := by have := HJ.out; unfold maxLen; omega
                  have hk48 : ((k + 1) + (k + 1) / 4 + 192) * 24 ≤ 281474976710656 := by have := HJ.out; omega
                  have Hnew := Lib.hid (row_news (Row.new w6 98 [.bool false, S r]))
                  have Hown7 := Lib.hid hown7
                  have Hr8c := Lib.hid hr8c
                  clear hF2 hr8a hr8b hown6 hrp HS6 hown7 hr8c hb6 c0
                  go_wp2_with (at_builtin; refine wpList_append_own_wide _ rfl (.tmp 90) (.tmp 92) 53 rfl lo 98 i0 (.agg #[.bool false, .string ByteArray.empty]) 2 24 Tryd.underlying53 Hi.out Hz.out Hsz.out Hby.out rfl (by decide) _ _ _ rfl Hown7.out ⟨w6.heap.size, 0, none⟩ 1 1 [.bool false, S r] rfl rfl Hnew.out (by intro u hu; simp at hu; rcases hu with rfl | rfl <;> rfl) hk63 hk48 hsz7 ?_
                               intro v' w8 hown8 hgrow8 _
                               obtain ⟨gq, cq, rfl⟩ := ownsRow_succ hown8
                               have hr8 := row_apart Hr8c.out Hg8.out Hown7.out hgrow8
                               have hS8 : BlocksS w w3 w8 [(w.heap.size, 55, Bt.zeroC)] := ⟨⟨HS7.out.1.1.grown hgrow8 HS7.out.1.1.size (fun k hk => by have := (Hown7.out.lt k hk).1; have := Hsz0.out; omega), fun x hx => by
                                 simp at hx
                                 subst hx
                                 exact row_apart HS7.out.1.hd (by have := Hg8.out; have := Hsz1.out; omega) Hown7.out hgrow8⟩, HS7.out.2.grown hgrow8 HS7.out.2.size (fun k hk => by have := (Hown7.out.lt k hk).1; have := Hg8.out; have := Hg3.out; omega)⟩
                               have e8 := hr8.cell 3 (by simp)
                               have f8 := hr8.free 3
                               simp only [List.getElem_cons_zero, List.getElem_cons_succ] at e8
                               have Hr8 := Lib.hid (hr8.set 3 (.slice (some ⟨gq, 0, none⟩) (k + 1) cq) (by simp))
                               have hgs := grownBy_set w8 g8 3 (.slice (some ⟨gq, 0, none⟩) (k + 1) cq)
                               have HS9 := Lib.hid (hS8.put hgs ⟨by have := Hsz1.out; omega, Hg3.out⟩ (fun x hx => by simp at hx; subst hx; have := Hsz1.out; simp; omega))
                               have Hown9 := Lib.hid (hown8.kept hgs (.inr (fun e => by have := (hown8.lt _ e).1; have := Hg8.out; omega)))
                               have Hlo9 : Hid (lo ≤ (w8.setCell ⟨g8, 3, none⟩ (.slice (some ⟨gq, 0, none⟩) (k + 1) cq)).heap.size) := Lib.hid (Nat.le_trans (Nat.le_trans hsz7 hgrow8.size) hgs.size)
                               clear hr8 hS8 hgs hown8 hgrow8)
                  refine ⟨⟨j + 1, k + 1, ps ++ [(false, r)], _, hkm, by go_num, by have := HJ.out; omega, by rw [List.length_append, Hps.out]; rfl, HF2.out, by rw [List.all_append, Hall.out, List.all_cons, Hpk.out]; rfl, Hr8.out, HS9.out, by rw [Pt.flat_snoc]; exact Hown9.out, Hlo9.out⟩, by simp [intOf]; omega⟩
                · have hpk : Pt.ok (false, r) = false := by unfold Pt.ok; simpa using hr
                  have HRn := Lib.hid (HRs.out.trans (Bt.of_bad (k := k) (by rw [List.length_drop, ← HM.out]; have := HJ.out; omega) (by rw [HXk.out]; intro p hp; rw [ho] at hp; cases hp; exact hpk)))
                  go_wp2_with fail
                  refine (part5_of false r (by first | exact hrl | simp) (1 :: r) false rfl hpk _).mono ?_
                  rintro _ w6 ⟨rfl, hb6⟩
                  have HS6 := Lib.hid ((HS.out.step ((Below.refl _ _).alloc (Nat.le_refl _) _)).step hb6)
                  have Hrz := Lib.hid HS6.out.1.hd
                  have Hbz := Lib.hid HS6.out.1.1
                  have c6 := (HS6.out.2.cell (p := ⟨tb, toff + j, none⟩) htb).trans htc
                  clear hb6 HS6
                  go_wp2_with (first
                    | (with_reducible show wpList _ _ _ (⟨_, .build 55 _, _, _, _, _⟩ :: _) _ _; refine wpList_buildL rfl 55 [] rfl (some 88) rfl _ rfl _ Bt.zeroC_built0 ?_)
                    | (with_reducible show wpList _ _ _ (⟨_, .store 55 _ _, _, _, _, _⟩ :: _) _ _
                       refine wpList_store_at rfl 55 (.tmp 2) (.tmp 88) rfl (w.heap.size) 0 Bt.zeroC _ _ rfl rfl Hrz.out (by have := HZL.out; omega) (by rw [batch_info, HZL.out]) HZ1.out ?_
                       intro wZ hrZ hgZ
                       rw [splice_all rfl] at hrZ
                       have HrZ := Lib.hid hrZ
                       have HbZ := Lib.hid (below_own Hbz.out hgZ (fun k hk => by cases hk; exact Nat.le_refl _))
                       clear hrZ hgZ))
                  (try simp only [Exit.inBlock, Exit.then])
                  refine bodyPost_ret (results_rowL rfl _ _ (w.heap.size) 55 _ _ rfl HrZ.out Tryd.underlying55 rfl (by rw [batch_info, List.size_toArray, HZL.out]) _ rfl) rfl ⟨?_, HbZ.out⟩
                  rw [HRn.out]
                  exact rfl
              · have ho : Pt.of (c0' :: r) = none := by
                  unfold Pt.of
                  rw [if_neg h2]
                  simp only
                  rw [if_neg hc1]
                have hne1 : ((1 :: r) == (c0' :: r)) = false := by
                  rw [Bool.eq_false_iff]
                  intro h
                  have := eq_of_beq h
                  injection this with h3
                  exact hc1 h3.symm
                rcases Bool.eq_false_or_eq_true (Pt.ok (false, r)) with hpk | hpk
                · have HRn := Lib.hid (HRs.out.trans (Bt.of_bad (k := k) (by rw [List.length_drop, ← HM.out]; have := HJ.out; omega) (by rw [HXk.out]; intro p hp; rw [ho] at hp; cases hp)))
                  go_wp2_with fail
                  refine (part5_of false r (by first | exact hrl | simp) (1 :: r) true rfl hpk _).mono ?_
                  rintro _ w6 ⟨rfl, hb6⟩
                  have HS6 := Lib.hid ((HS.out.step ((Below.refl _ _).alloc (Nat.le_refl _) _)).step hb6)
                  have Hrz := Lib.hid HS6.out.1.hd
                  have Hbz := Lib.hid HS6.out.1.1
                  have c6 := (HS6.out.2.cell (p := ⟨tb, toff + j, none⟩) htb).trans htc
                  clear hb6 HS6
                  go_wp2_with (first
                    | (with_reducible show wpList _ _ _ (⟨_, .build 55 _, _, _, _, _⟩ :: _) _ _; refine wpList_buildL rfl 55 [] rfl (some 88) rfl _ rfl _ Bt.zeroC_built0 ?_)
                    | (with_reducible show wpList _ _ _ (⟨_, .store 55 _ _, _, _, _, _⟩ :: _) _ _
                       refine wpList_store_at rfl 55 (.tmp 2) (.tmp 88) rfl (w.heap.size) 0 Bt.zeroC _ _ rfl rfl Hrz.out (by have := HZL.out; omega) (by rw [batch_info, HZL.out]) HZ1.out ?_
                       intro wZ hrZ hgZ
                       rw [splice_all rfl] at hrZ
                       have HrZ := Lib.hid hrZ
                       have HbZ := Lib.hid (below_own Hbz.out hgZ (fun k hk => by cases hk; exact Nat.le_refl _))
                       clear hrZ hgZ))
                  (try simp only [Exit.inBlock, Exit.then])
                  refine bodyPost_ret (results_rowL rfl _ _ (w.heap.size) 55 _ _ rfl HrZ.out Tryd.underlying55 rfl (by rw [batch_info, List.size_toArray, HZL.out]) _ rfl) rfl ⟨?_, HbZ.out⟩
                  rw [HRn.out]
                  exact rfl
                · have HRn := Lib.hid (HRs.out.trans (Bt.of_bad (k := k) (by rw [List.length_drop, ← HM.out]; have := HJ.out; omega) (by rw [HXk.out]; intro p hp; rw [ho] at hp; cases hp)))
                  go_wp2_with fail
                  refine (part5_of false r (by first | exact hrl | simp) (1 :: r) false rfl hpk _).mono ?_
                  rintro _ w6 ⟨rfl, hb6⟩
                  have HS6 := Lib.hid ((HS.out.step ((Below.refl _ _).alloc (Nat.le_refl _) _)).step hb6)
                  have Hrz := Lib.hid HS6.out.1.hd
                  have Hbz := Lib.hid HS6.out.1.1
                  have c6 := (HS6.out.2.cell (p := ⟨tb, toff + j, none⟩) htb).trans htc
                  clear hb6 HS6
                  go_wp2_with (first
                    | (with_reducible show wpList _ _ _ (⟨_, .build 55 _, _, _, _, _⟩ :: _) _ _; refine wpList_buildL rfl 55 [] rfl (some 88) rfl _ rfl _ Bt.zeroC_built0 ?_)
                    | (with_reducible show wpList _ _ _ (⟨_, .store 55 _ _, _, _, _, _⟩ :: _) _ _
                       refine wpList_store_at rfl 55 (.tmp 2) (.tmp 88) rfl (w.heap.size) 0 Bt.zeroC _ _ rfl rfl Hrz.out (by have := HZL.out; omega) (by rw [batch_info, HZL.out]) HZ1.out ?_
                       intro wZ hrZ hgZ
                       rw [splice_all rfl] at hrZ
                       have HrZ := Lib.hid hrZ
                       have HbZ := Lib.hid (below_own Hbz.out hgZ (fun k hk => by cases hk; exact Nat.le_refl _))
                       clear hrZ hgZ))
                  (try simp only [Exit.inBlock, Exit.then])
                  refine bodyPost_ret (results_rowL rfl _ _ (w.heap.size) 55 _ _ rfl HrZ.out Tryd.underlying55 rfl (by rw [batch_info, List.size_toArray, HZL.out]) _ rfl) rfl ⟨?_, HbZ.out⟩
                  rw [HRn.out]
                  exact rfl
        · have hki : (m : Int) ≤ (j : Int) := by omega
          obtain rfl : m = j := by omega
          have hFe : Pt.all (L.drop 3) = some ps := by
            rw [HFk.out, List.drop_of_length_le (by rw [← HM.out]; exact Nat.le_refl _)]
            simp [Pt.all]
          have hpl : ps.length ≤ 512 := by rw [Hps.out]; have := HJ.out; omega
          have hRo : R = if (Tx.num a && (Tx.num b && Tx.num d)) = true then some ⟨a, b, d, ps⟩ else none := by
            rw [HRs.out, Bt.of_yes hFe, bt_ok_of hpl Hall.out]
          have HRo := Lib.hid hRo
          have r0 := HR8.out.cell 0 (by simp)
          have r1 := HR8.out.cell 1 (by simp)
          have r2 := HR8.out.cell 2 (by simp)
          simp only [List.getElem_cons_zero, List.getElem_cons_succ] at r0 r1 r2
          have Hrz := Lib.hid HS.out.1.hd
          have Hbz := Lib.hid HS.out.1.1
          clear hFe hpl hRo
          rcases Bool.eq_false_or_eq_true (Tx.num a) with h0 | h0
          · rcases Bool.eq_false_or_eq_true (Tx.num b) with h1 | h1
            · rcases Bool.eq_false_or_eq_true (Tx.num d) with h2 | h2
              · have hRs : R = some ⟨a, b, d, ps⟩ := by rw [HRo.out]; simp [h0, h1, h2]
                have hpo := parts_owned (c := cv) (A := Av) (n := k) (P := ps) (by rw [Hps.out]; exact Hown.out)
                have HRs2 := Lib.hid hRs
                have Hpo := Lib.hid hpo
                have HN0 := Lib.hid (N0.out _ h0)
                have HN1 := Lib.hid (N1.out _ h1)
                have HN2 := Lib.hid (N2.out _ h2)
                have HCL : Hid (([.int .i64 a, .int .i64 b, .int .i64 d, .slice Av k cv] : List Value).length = 4) := (rfl : ([.int .i64 a, .int .i64 b, .int .i64 d, .slice Av k cv] : List Value).length = 4)
                have hc1 : ∀ v ∈ ([.int .i64 a, .int .i64 b, .int .i64 d, .slice Av k cv] : List Value), v.oneCell' = true := by
                  intro v hv
                  simp at hv
                  rcases hv with rfl | rfl | rfl | rfl <;> rfl
                have HC1 := Lib.hid hc1
                clear hRs hpo h0 h1 h2 hc1
                go_wp2_with fail
                refine (HN0.out _).mono ?_
                rintro _ w6 ⟨rfl, rfl⟩
                go_wp2_with fail
                refine (HN1.out _).mono ?_
                rintro _ w6 ⟨rfl, rfl⟩
                go_wp2_with fail
                refine (HN2.out _).mono ?_
                rintro _ w6 ⟨rfl, rfl⟩
                go_wp2_with (first
                  | (with_reducible show wpList _ _ _ (⟨_, .load 55 _, _, _, _, _⟩ :: _) _ _; refine wpList_load_tx rfl 55 (.tmp 8) rfl g8 0 rfl [.int .i64 a, .int .i64 b, .int .i64 d, .slice Av k cv] _ (row_range HR8.out) Tryd.underlying55 rfl (by rw [batch_info, HCL.out]) ?_)
                  | (with_reducible show wpList _ _ _ (⟨_, .store 55 _ _, _, _, _, _⟩ :: _) _ _
                     refine wpList_store_at rfl 55 (.tmp 2) (.tmp 112) rfl (w.heap.size) 0 [.int .i64 a, .int .i64 b, .int .i64 d, .slice Av k cv] _ _ rfl rfl Hrz.out (by have := HZL.out; have := HCL.out; omega) (by rw [batch_info, HCL.out]) HC1.out ?_
                     intro wZ hrZ hgZ
                     rw [splice_all (HCL.out.trans HZL.out.symm)] at hrZ
                     have HrZ := Lib.hid hrZ
                     have HbZ := Lib.hid (below_own Hbz.out hgZ (fun k hk => by cases hk; exact Nat.le_refl _))
                     have hgZk := Lib.hid hgZ
                     clear hrZ hgZ))
                (try simp only [Exit.inBlock, Exit.then])
                refine bodyPost_ret (results_rowL rfl _ _ (w.heap.size) 55 _ _ rfl HrZ.out Tryd.underlying55 rfl (by rw [batch_info, List.size_toArray, HCL.out]) _ rfl) rfl ⟨?_, HbZ.out⟩
                rw [HRs2.out]
                exact ⟨Av, cv, by rw [show (Bt.cells ⟨a, b, d, ps⟩ Av cv) = [.int .i64 a, .int .i64 b, .int .i64 d, .slice Av ps.length cv] from rfl, Hps.out]; rfl, (Hpo.out.1.grown hgZk.out (fun k hk => by cases hk; have h1 := Hsz1.out; have h2 := Hg8.out; omega)).mono Hsz0.out, by have := Hpo.out.2.2; exact this⟩
              · have HRn : Hid (R = none) := Lib.hid (by rw [HRo.out]; simp [h0, h1, h2])
                have HN0 := Lib.hid (N0.out _ h0)
                have HN1 := Lib.hid (N1.out _ h1)
                have HN2 := Lib.hid (N2.out _ h2)
                clear h0 h1 h2
                go_wp2_with fail
                refine (HN0.out _).mono ?_
                rintro _ w6 ⟨rfl, rfl⟩
                go_wp2_with fail
                refine (HN1.out _).mono ?_
                rintro _ w6 ⟨rfl, rfl⟩
                go_wp2_with fail
                refine (HN2.out _).mono ?_
                rintro _ w6 ⟨rfl, rfl⟩
                go_wp2_with (first
                  | (with_reducible show wpList _ _ _ (⟨_, .build 55 _, _, _, _, _⟩ :: _) _ _; refine wpList_buildL rfl 55 [] rfl (some 111) rfl _ rfl _ Bt.zeroC_built0 ?_)
                  | (with_reducible show wpList _ _ _ (⟨_, .store 55 _ _, _, _, _, _⟩ :: _) _ _
                     refine wpList_store_at rfl 55 (.tmp 2) (.tmp 111) rfl (w.heap.size) 0 Bt.zeroC _ _ rfl rfl Hrz.out (by have := HZL.out; omega) (by rw [batch_info, HZL.out]) HZ1.out ?_
                     intro wZ hrZ hgZ
                     rw [splice_all rfl] at hrZ
                     have HrZ := Lib.hid hrZ
                     have HbZ := Lib.hid (below_own Hbz.out hgZ (fun k hk => by cases hk; exact Nat.le_refl _))
                     clear hrZ hgZ))
                (try simp only [Exit.inBlock, Exit.then])
                refine bodyPost_ret (results_rowL rfl _ _ (w.heap.size) 55 _ _ rfl HrZ.out Tryd.underlying55 rfl (by rw [batch_info, List.size_toArray, HZL.out]) _ rfl) rfl ⟨?_, HbZ.out⟩
                rw [HRn.out]
                exact rfl
            · have HRn : Hid (R = none) := Lib.hid (by rw [HRo.out]; simp [h0, h1])
              have HN0 := Lib.hid (N0.out _ h0)
              have HN1 := Lib.hid (N1.out _ h1)
              clear h0 h1
              go_wp2_with fail
              refine (HN0.out _).mono ?_
              rintro _ w6 ⟨rfl, rfl⟩
              go_wp2_with fail
              refine (HN1.out _).mono ?_
              rintro _ w6 ⟨rfl, rfl⟩
              go_wp2_with (first
                | (with_reducible show wpList _ _ _ (⟨_, .build 55 _, _, _, _, _⟩ :: _) _ _; refine wpList_buildL rfl 55 [] rfl (some 111) rfl _ rfl _ Bt.zeroC_built0 ?_)
                | (with_reducible show wpList _ _ _ (⟨_, .store 55 _ _, _, _, _, _⟩ :: _) _ _
                   refine wpList_store_at rfl 55 (.tmp 2) (.tmp 111) rfl (w.heap.size) 0 Bt.zeroC _ _ rfl rfl Hrz.out (by have := HZL.out; omega) (by rw [batch_info, HZL.out]) HZ1.out ?_
                   intro wZ hrZ hgZ
                   rw [splice_all rfl] at hrZ
                   have HrZ := Lib.hid hrZ
                   have HbZ := Lib.hid (below_own Hbz.out hgZ (fun k hk => by cases hk; exact Nat.le_refl _))
                   clear hrZ hgZ))
              (try simp only [Exit.inBlock, Exit.then])
              refine bodyPost_ret (results_rowL rfl _ _ (w.heap.size) 55 _ _ rfl HrZ.out Tryd.underlying55 rfl (by rw [batch_info, List.size_toArray, HZL.out]) _ rfl) rfl ⟨?_, HbZ.out⟩
              rw [HRn.out]
              exact rfl
          · have HRn : Hid (R = none) := Lib.hid (by rw [HRo.out]; simp [h0])
            have HN0 := Lib.hid (N0.out _ h0)
            clear h0
            go_wp2_with fail
            refine (HN0.out _).mono ?_
            rintro _ w6 ⟨rfl, rfl⟩
            go_wp2_with (first
              | (with_reducible show wpList _ _ _ (⟨_, .build 55 _, _, _, _, _⟩ :: _) _ _; refine wpList_buildL rfl 55 [] rfl (some 111) rfl _ rfl _ Bt.zeroC_built0 ?_)
              | (with_reducible show wpList _ _ _ (⟨_, .store 55 _ _, _, _, _, _⟩ :: _) _ _
                 refine wpList_store_at rfl 55 (.tmp 2) (.tmp 111) rfl (w.heap.size) 0 Bt.zeroC _ _ rfl rfl Hrz.out (by have := HZL.out; omega) (by rw [batch_info, HZL.out]) HZ1.out ?_
                 intro wZ hrZ hgZ
                 rw [splice_all rfl] at hrZ
                 have HrZ := Lib.hid hrZ
                 have HbZ := Lib.hid (below_own Hbz.out hgZ (fun k hk => by cases hk; exact Nat.le_refl _))
                 clear hrZ hgZ))
            (try simp only [Exit.inBlock, Exit.then])
            refine bodyPost_ret (results_rowL rfl _ _ (w.heap.size) 55 _ _ rfl HrZ.out Tryd.underlying55 rfl (by rw [batch_info, List.size_toArray, HZL.out]) _ rfl) rfl ⟨?_, HbZ.out⟩
            rw [HRn.out]
            exact rfl
    · have hmi : (515 : Int) < (m : Int) := by omega
      have hRn : R = none := by rw [HRs.out]; exact Bt.of_long (by rw [List.length_drop, ← HM.out]; omega)
      have HRn := Lib.hid hRn
      have Hrz := Lib.hid HB3.out.hd
      have Hbz := Lib.hid HB3.out.1
      clear hRn h515 hcell
      go_wp2_with (first
        | (with_reducible show wpList _ _ _ (⟨_, .build 55 _, _, _, _, _⟩ :: _) _ _; refine wpList_buildL rfl 55 [] rfl (some 34) rfl _ rfl _ Bt.zeroC_built0 ?_)
        | (with_reducible show wpList _ _ _ (⟨_, .store 55 _ _, _, _, _, _⟩ :: _) _ _
           refine wpList_store_at rfl 55 (.tmp 2) (.tmp 34) rfl (w.heap.size) 0 Bt.zeroC _ _ rfl rfl Hrz.out (by have := HZL.out; omega) (by rw [batch_info, HZL.out]) HZ1.out ?_
           intro wZ hrZ hgZ
           rw [splice_all rfl] at hrZ
           have HrZ := Lib.hid hrZ
           have HbZ := Lib.hid (below_own Hbz.out hgZ (fun k hk => by cases hk; exact Nat.le_refl _))
           clear hrZ hgZ))
      refine bodyPost_ret (results_rowL rfl _ _ (w.heap.size) 55 _ _ rfl HrZ.out Tryd.underlying55 rfl (by rw [batch_info, List.size_toArray, HZL.out]) _ rfl) rfl ⟨?_, HbZ.out⟩
      rw [HRn.out]
      exact rfl
end Go.Proofs.YtdekcicgiflnbaaDoor
