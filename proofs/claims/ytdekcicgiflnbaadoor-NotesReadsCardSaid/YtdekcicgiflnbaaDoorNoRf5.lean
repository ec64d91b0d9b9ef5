/- The reference of layer 5: ReadBid. -/
import Derived.Test.YtdekcicgiflnbaaDoorNoRf3
import Derived.Test.YtdekcicgiflnbaaDoorNoRf4
import Derived.Test.YtdekcicgiflnbaaDoorNoB
namespace Go.Proofs.YtdekcicgiflnbaaDoor
open Go.RowKit
set_option linter.unusedVariables false
set_option linter.unusedSimpArgs false

theorem bd_places : (Tryd.prog.underlying 41).map (fun d => match d with | .struct fields => fields.toList.mapM (fun f => (Tryd.prog.info? f.type).map fun i => (f.offset, i.size)) | _ => Option.none) = some (some [(0, 1), (1, 1), (2, 1), (3, 1), (4, 32)]) := by kernel_rfl
theorem bd_zero : (Tryd.prog.info? 41).map (·.zero) = some (some (.agg Bd.zero.cells.toArray)) := by kernel_rfl
theorem bd_built (parts : List (Nat × Value)) : Tryd.prog.built 41 parts = Instr.fill (#[(0, 1), (1, 1), (2, 1), (3, 1), (4, 32)][·]?) Bd.zero.cells.toArray parts := by
  obtain ⟨i0, hi, hz⟩ := Option.map_eq_some_iff.1 bd_zero
  have hp := bd_places
  rw [Tryd.underlying41] at hp
  simp only [Option.map_some, Option.some.injEq] at hp
  unfold Program.built
  rw [hi, Tryd.underlying41]
  simp only [hz, hp]
  rfl
theorem bd_five (a b c d : Int) (R : List UInt8) (hR : R.length = 32) :
    Tryd.prog.built 41 [(0, .int .i64 a), (1, .int .i64 b), (2, .int .i64 c), (3, .int .i64 d), (4, .agg (bRow R))] = some (Bd.cells ⟨a, b, c, d, R⟩).toArray := by
  have hz := Tx.bRow_len Tx.zero rfl
  have hr := Tx.bRow_len R hR
  have hL := Bd.cells_len (b := Bd.zero) rfl
  rw [bd_built]
  rw [fill_step _ _ 0 _ [.int .i64 a] _ 0 1 rfl rfl rfl (by rw [hL]; omega)]
  rw [fill_step _ _ 1 _ [.int .i64 b] _ 1 1 rfl rfl rfl (by simp only [List.length_append, List.length_take, List.length_drop, List.length_cons, List.length_nil, hL]; omega)]
  rw [fill_step _ _ 2 _ [.int .i64 c] _ 2 1 rfl rfl rfl (by simp only [List.length_append, List.length_take, List.length_drop, List.length_cons, List.length_nil, hL]; omega)]
  rw [fill_step _ _ 3 _ [.int .i64 d] _ 3 1 rfl rfl rfl (by simp only [List.length_append, List.length_take, List.length_drop, List.length_cons, List.length_nil, hL]; omega)]
  rw [fill_step _ _ 4 _ (bRow R).toList _ 4 32 rfl (by simp [Value.cells]) hr (by simp only [List.length_append, List.length_take, List.length_drop, List.length_cons, List.length_nil, hL]; omega)]
  rw [fill_end]
  unfold Bd.cells Bd.zero
  simp only [List.cons_append, List.nil_append, List.take_succ_cons, List.take_zero, List.drop_succ_cons, List.drop_zero]
  rw [List.drop_of_length_le (by rw [hz]; omega), List.append_nil]
set_option maxRecDepth 20000 in
set_option maxHeartbeats 1600000 in
theorem rreadBid_any (s : ByteArray) (w : World) (hs : s.size ≤ 140737488351232) :
    Calls Tryd.prog 46 #[.string s] w fun e w' => BdEnds (Bd.read s.data.toList) e ∧ Below w.heap.size w w' := by
  have HZL := Lib.hid (Bd.cells_len (b := Bd.zero) rfl)
  have HZ1 := Lib.hid (Bd.cells_one (b := Bd.zero) rfl)
  have hzv : ∀ W : World, (zeroValue 41).run Tryd.prog W = .ok (.agg Bd.zero.cells.toArray) W := fun W => by kernel_rfl
  have LS := Lib.hid (fun W => rlist4_any s W hs)
  obtain ⟨R, hR⟩ : ∃ R, R = Bd.read s.data.toList := ⟨_, rfl⟩
  rw [← hR]
  have Hr0 := Lib.hid (Row.new w 41 Bd.zero.cells)
  have Hb0 := Lib.hid ((Below.refl w.heap.size w).alloc (Nat.le_refl _) (.cells Bd.zero.cells.toArray 41))
  have HRr := Lib.hid hR
  clear hR
  go_enter Tryd.func46, Tryd.ntmps46
  go_wp2_with fail
  refine calls_named ?_
  intro w1 hw1
  have hB1 : Blocks w w1 [(w.heap.size, 41, Bd.zero.cells)] := by rw [hw1]; exact (Blocks.nil Hb0.out).cons Hr0.out
  have HB1 := Lib.hid hB1
  clear hw1 hB1 Hr0 Hb0
  refine (LS.out w1).mono ?_
  rintro _ w2 ⟨L, v, n, rfl, hT, hL, hb2⟩
  obtain ⟨A, c, rfl, hTx⟩ := hT
  have HB2 := Lib.hid (HB1.out.step hb2)
  have HTx := Lib.hid hTx
  have HL := Lib.hid hL
  clear hb2 hTx hL HB1
  have htl : (∀ x ∈ L, x.length ≤ 65536) ∧ L.length ≤ 1024 := by
    rcases HL.out with ⟨_, h⟩ | ⟨_, _, h⟩
    · exact ⟨Tx.listAll_text h, listAll_few h⟩
    · rw [h]; simp
  have NB := Lib.hid (fun W hW => numbers5_any L A c 4 W (by decide) htl.1 hW)
  have hlf := htl.2
  have HTl := Lib.hid htl.1
  obtain ⟨m, hm⟩ : ∃ m, m = L.length := ⟨_, rfl⟩
  rw [← hm] at NB hlf ⊢
  have HM := Lib.hid hm
  clear hm htl
  go_wp2_with fail
  refine (NB.out _ HTx.out).mono ?_
  rintro _ w3 ⟨hN, hb3⟩
  have HB3 := Lib.hid (HB2.out.step hb3)
  have HTx3 : Hid (Texts w3 w3.heap.size A L) := fun hne => by
    obtain ⟨b, off, h1, h2, h3⟩ := HTx.out hne
    exact ⟨b, off, h1, Nat.lt_of_lt_of_le h2 hb3.size, fun i hi => (grownBy_of_below hb3 none).cell (h3 i hi) (by simp)⟩
  clear hb3 HB2 HTx NB
  rcases HL.out with ⟨rfl, hL⟩ | ⟨hne, hL, hLn⟩
  rotate_left
  · have HRn := Lib.hid (HRr.out.trans (Bd.read_none hL))
    rw [hLn] at hN
    obtain ⟨v, rfl⟩ : ∃ v, _ = _ := hN
    have Hrz := Lib.hid HB3.out.hd
    have Hbz := Lib.hid HB3.out.1
    clear hL hLn
    go_wp2_with (first
      | (with_reducible show wpList _ _ _ (⟨_, .build 41 _, _, _, _, _⟩ :: _) _ _; refine wpList_buildL rfl 41 [] rfl (some 37) rfl _ rfl _ Bd.zero_built0 ?_)
      | (with_reducible show wpList _ _ _ (⟨_, .store 41 _ _, _, _, _, _⟩ :: _) _ _
         refine wpList_store_at rfl 41 (.tmp 2) (.tmp 37) rfl (w.heap.size) 0 Bd.zero.cells _ _ rfl rfl Hrz.out (by have := HZL.out; omega) (by rw [bid_info, HZL.out]) HZ1.out ?_
         intro wZ hrZ hgZ
         rw [splice_all rfl] at hrZ
         have HrZ := Lib.hid hrZ
         have HbZ := Lib.hid (below_own Hbz.out hgZ (fun k hk => by cases hk; exact Nat.le_refl _))
         clear hrZ hgZ))
    refine bodyPost_ret (results_rowL rfl _ _ (w.heap.size) 41 _ _ rfl HrZ.out Tryd.underlying41 rfl (by rw [bid_info, List.size_toArray, HZL.out]) _ rfl) rfl ⟨?_, HbZ.out⟩
    rw [HRn.out]
    exact rfl
  have HRe := Lib.hid (HRr.out.trans (by unfold Bd.read; rw [hL, Option.bind_some] : _ = (No.raw 4 L).bind fun ns => Bd.of ns (L.drop 4)))
  clear hL
  cases hF : No.raw 4 L with
  | none =>
    rw [hF] at hN
    obtain ⟨v, rfl⟩ := hN
    have HRn := Lib.hid (HRe.out.trans (by rw [hF, Option.bind_none]))
    have Hrz := Lib.hid HB3.out.hd
    have Hbz := Lib.hid HB3.out.1
    clear hF
    go_wp2_with (first
      | (with_reducible show wpList _ _ _ (⟨_, .build 41 _, _, _, _, _⟩ :: _) _ _; refine wpList_buildL rfl 41 [] rfl (some 37) rfl _ rfl _ Bd.zero_built0 ?_)
      | (with_reducible show wpList _ _ _ (⟨_, .store 41 _ _, _, _, _, _⟩ :: _) _ _
         refine wpList_store_at rfl 41 (.tmp 2) (.tmp 37) rfl (w.heap.size) 0 Bd.zero.cells _ _ rfl rfl Hrz.out (by have := HZL.out; omega) (by rw [bid_info, HZL.out]) HZ1.out ?_
         intro wZ hrZ hgZ
         rw [splice_all rfl] at hrZ
         have HrZ := Lib.hid hrZ
         have HbZ := Lib.hid (below_own Hbz.out hgZ (fun k hk => by cases hk; exact Nat.le_refl _))
         clear hrZ hgZ))
    refine bodyPost_ret (results_rowL rfl _ _ (w.heap.size) 41 _ _ rfl HrZ.out Tryd.underlying41 rfl (by rw [bid_info, List.size_toArray, HZL.out]) _ rfl) rfl ⟨?_, HbZ.out⟩
    rw [HRn.out]
    exact rfl
  | some ns =>
    rw [hF] at hN
    obtain ⟨v, rfl, hown⟩ := hN
    obtain ⟨hn3, hml, hfit⟩ := No.raw_len _ _ _ hF
    obtain ⟨g, cp, rfl⟩ := ownsRow_succ hown
    have hcell := fun j v (h : (Is ns)[j]? = some v) => hown.cells rfl j v h
    have hglt := (hown.lt g rfl).2
    have HRs := Lib.hid (HRe.out.trans (by rw [hF]; rfl : _ = Bd.of ns (L.drop 4)))
    clear hF hown HRe
    obtain ⟨a, b, d, f, rfl⟩ := four_of hn3
    clear hn3 hml hfit
    by_cases h5 : m = 5
    · obtain ⟨t, ht⟩ : ∃ t, L.drop 4 = [t] := List.length_eq_one_iff.1 (by rw [List.length_drop, ← HM.out, h5])
      obtain ⟨tb, toff, rfl, htb, htc⟩ := HTx3.out (by intro e; rw [e] at ht; simp at ht)
      have hl4 : 4 < L.length := by rw [← HM.out, h5]; decide
      have ht4 : L[4]'hl4 = t := by
        have : (L.drop 4)[0]? = some t := by rw [ht]; rfl
        rw [List.getElem?_drop] at this
        obtain ⟨_, h⟩ := List.getElem?_eq_some_iff.1 this
        exact h
      have hc4 := htc 4 hl4
      rw [ht4] at hc4
      have hi0 := hcell 0 _ rfl
      have hi1 := hcell 1 _ rfl
      have hi2 := hcell 2 _ rfl
      have hi3 := hcell 3 _ rfl
      have hadd : ∀ j, (⟨g, 0, none⟩ : Addr).add j = ⟨g, 0 + j, none⟩ := fun j => by unfold Addr.add; split <;> simp_all
      rw [hadd, Nat.zero_add] at hi0 hi1 hi2 hi3
      have IB : Hid (∀ W, Below w3.heap.size w3 W → W.cell? ⟨g, 0, none⟩ = some (.int .i64 a) ∧ W.cell? ⟨g, 1, none⟩ = some (.int .i64 b) ∧ W.cell? ⟨g, 2, none⟩ = some (.int .i64 d) ∧ W.cell? ⟨g, 3, none⟩ = some (.int .i64 f) ∧ W.cell? ⟨tb, toff + 4, none⟩ = some (S t)) := fun W hW =>
        ⟨(hW.cell (p := ⟨g, 0, none⟩) hglt).trans hi0, (hW.cell (p := ⟨g, 1, none⟩) hglt).trans hi1, (hW.cell (p := ⟨g, 2, none⟩) hglt).trans hi2, (hW.cell (p := ⟨g, 3, none⟩) hglt).trans hi3, (hW.cell (p := ⟨tb, toff + 4, none⟩) htb).trans hc4⟩
      subst h5
      clear hl4 ht4 hi0 hi1 hi2 hi3 hadd htc hcell
      by_cases h32 : t.length = 32
      · have HRo : Hid (R = if (Bd.mk a b d f t).ok = true then some ⟨a, b, d, f, t⟩ else none) := Lib.hid (by rw [HRs.out, ht]; exact Bd.of_yes h32)
        obtain ⟨u, hu⟩ : ∃ u : Bd, u = ⟨a, b, d, f, t⟩ := ⟨_, rfl⟩
        have hbu : Tryd.prog.built 41 [(0, .int .i64 a), (1, .int .i64 b), (2, .int .i64 d), (3, .int .i64 f), (4, .agg (bRow t))] = some u.cells.toArray := by rw [hu]; exact bd_five a b d f t h32
        have Hbu := Lib.hid hbu
        have hut : u.tag.length = 32 := by rw [hu]; exact h32
        rw [← hu] at HRo
        have MB := Lib.hid (fun W => bid5_any u W)
        have HUL := Lib.hid (Bd.cells_len hut)
        have HU1 := Lib.hid (Bd.cells_one hut)
        have HH : Hid (∀ W, Calls Tryd.prog 92 #[S t] W fun e w' => e = .returned (.agg (bRow t)) ∧ Below W.heap.size W w') := fun W => hash4_any ⟨t.toArray⟩ W h32
        have HS0 : Hid (BlocksS w w3 w3.drew [(w.heap.size, 41, Bd.zero.cells)]) := Lib.hid ⟨HB3.out.drew, (Below.refl _ _).drew⟩
        have hti : ((t.length : Int) != 32) = false := by simp; omega
        clear hu hbu ht hut
        go_wp2_with fail
        clear hti h32 hc4
        refine wp_region_noPanic ?_
        refine wp_region_held_drew (S := fun w' => BlocksS w w3 w' [(w.heap.size, 41, Bd.zero.cells)]) (by kernel_rfl) (HS0.out) (fun hHeld => ?_)
        generalize w3.drew = wq at *
        refine wpAnyH_take (i := 0) (v := .slice (some ⟨g, 0, none⟩) 4 cp) rfl (by kernel_rfl) (by kernel_rfl) (by kernel_rfl) (fun _ _ _ h => h) (Or.inl ⟨by rfl, fun w' hSw => by go_simp⟩) hHeld ?_
        try simp only [Act.put, List.getElem_toArray, List.getElem_cons_succ, List.getElem_cons_zero, List.setIfInBounds_toArray, List.set_cons_zero, List.set_cons_succ]
        refine wpAnyH_take (i := 1) (v := .pointer (some ⟨g, 0, none⟩)) rfl (by kernel_rfl) (by kernel_rfl) (by kernel_rfl) (fun _ _ _ h => h) (Or.inl ⟨by rfl, fun w' hSw => by go_simp⟩) hHeld ?_
        try simp only [Act.put, List.getElem_toArray, List.getElem_cons_succ, List.getElem_cons_zero, List.setIfInBounds_toArray, List.set_cons_zero, List.set_cons_succ]
        refine wpAnyH_take (i := 2) (v := .int .i64 a) rfl (by kernel_rfl) (by kernel_rfl) (by kernel_rfl) (fun _ _ _ h => h) (Or.inl ⟨by rfl, fun w' hSw => by have hq := hSw; have hc := (IB.out _ hq.2).1; go_simp⟩) hHeld ?_
        try simp only [Act.put, List.getElem_toArray, List.getElem_cons_succ, List.getElem_cons_zero, List.setIfInBounds_toArray, List.set_cons_zero, List.set_cons_succ]
        refine wpAnyH_take (i := 3) (v := .slice (some ⟨g, 0, none⟩) 4 cp) rfl (by kernel_rfl) (by kernel_rfl) (by kernel_rfl) (fun _ _ _ h => h) (Or.inl ⟨by rfl, fun w' hSw => by go_simp⟩) hHeld ?_
        try simp only [Act.put, List.getElem_toArray, List.getElem_cons_succ, List.getElem_cons_zero, List.setIfInBounds_toArray, List.set_cons_zero, List.set_cons_succ]
        refine wpAnyH_take (i := 4) (v := .pointer (some ⟨g, 1, none⟩)) rfl (by kernel_rfl) (by kernel_rfl) (by kernel_rfl) (fun _ _ _ h => h) (Or.inl ⟨by rfl, fun w' hSw => by go_simp⟩) hHeld ?_
        try simp only [Act.put, List.getElem_toArray, List.getElem_cons_succ, List.getElem_cons_zero, List.setIfInBounds_toArray, List.set_cons_zero, List.set_cons_succ]
        refine wpAnyH_take (i := 5) (v := .int .i64 b) rfl (by kernel_rfl) (by kernel_rfl) (by kernel_rfl) (fun _ _ _ h => h) (Or.inl ⟨by rfl, fun w' hSw => by have hq := hSw; have hc := (IB.out _ hq.2).2.1; go_simp⟩) hHeld ?_
        try simp only [Act.put, List.getElem_toArray, List.getElem_cons_succ, List.getElem_cons_zero, List.setIfInBounds_toArray, List.set_cons_zero, List.set_cons_succ]
        refine wpAnyH_take (i := 6) (v := .slice (some ⟨g, 0, none⟩) 4 cp) rfl (by kernel_rfl) (by kernel_rfl) (by kernel_rfl) (fun _ _ _ h => h) (Or.inl ⟨by rfl, fun w' hSw => by go_simp⟩) hHeld ?_
        try simp only [Act.put, List.getElem_toArray, List.getElem_cons_succ, List.getElem_cons_zero, List.setIfInBounds_toArray, List.set_cons_zero, List.set_cons_succ]
        refine wpAnyH_take (i := 7) (v := .pointer (some ⟨g, 2, none⟩)) rfl (by kernel_rfl) (by kernel_rfl) (by kernel_rfl) (fun _ _ _ h => h) (Or.inl ⟨by rfl, fun w' hSw => by go_simp⟩) hHeld ?_
        try simp only [Act.put, List.getElem_toArray, List.getElem_cons_succ, List.getElem_cons_zero, List.setIfInBounds_toArray, List.set_cons_zero, List.set_cons_succ]
        refine wpAnyH_take (i := 8) (v := .int .i64 d) rfl (by kernel_rfl) (by kernel_rfl) (by kernel_rfl) (fun _ _ _ h => h) (Or.inl ⟨by rfl, fun w' hSw => by have hq := hSw; have hc := (IB.out _ hq.2).2.2.1; go_simp⟩) hHeld ?_
        try simp only [Act.put, List.getElem_toArray, List.getElem_cons_succ, List.getElem_cons_zero, List.setIfInBounds_toArray, List.set_cons_zero, List.set_cons_succ]
        refine wpAnyH_take (i := 9) (v := .slice (some ⟨g, 0, none⟩) 4 cp) rfl (by kernel_rfl) (by kernel_rfl) (by kernel_rfl) (fun _ _ _ h => h) (Or.inl ⟨by rfl, fun w' hSw => by go_simp⟩) hHeld ?_
        try simp only [Act.put, List.getElem_toArray, List.getElem_cons_succ, List.getElem_cons_zero, List.setIfInBounds_toArray, List.set_cons_zero, List.set_cons_succ]
        refine wpAnyH_take (i := 10) (v := .pointer (some ⟨g, 3, none⟩)) rfl (by kernel_rfl) (by kernel_rfl) (by kernel_rfl) (fun _ _ _ h => h) (Or.inl ⟨by rfl, fun w' hSw => by go_simp⟩) hHeld ?_
        try simp only [Act.put, List.getElem_toArray, List.getElem_cons_succ, List.getElem_cons_zero, List.setIfInBounds_toArray, List.set_cons_zero, List.set_cons_succ]
        refine wpAnyH_take (i := 11) (v := .int .i64 f) rfl (by kernel_rfl) (by kernel_rfl) (by kernel_rfl) (fun _ _ _ h => h) (Or.inl ⟨by rfl, fun w' hSw => by have hq := hSw; have hc := (IB.out _ hq.2).2.2.2.1; go_simp⟩) hHeld ?_
        try simp only [Act.put, List.getElem_toArray, List.getElem_cons_succ, List.getElem_cons_zero, List.setIfInBounds_toArray, List.set_cons_zero, List.set_cons_succ]
        refine wpAnyH_take (i := 12) (v := .slice (some ⟨tb, toff, none⟩) 5 c) rfl (by kernel_rfl) (by kernel_rfl) (by kernel_rfl) (fun _ _ _ h => h) (Or.inl ⟨by rfl, fun w' hSw => by go_simp⟩) hHeld ?_
        try simp only [Act.put, List.getElem_toArray, List.getElem_cons_succ, List.getElem_cons_zero, List.setIfInBounds_toArray, List.set_cons_zero, List.set_cons_succ]
        refine wpAnyH_take (i := 13) (v := .pointer (some ⟨tb, toff + 4, none⟩)) rfl (by kernel_rfl) (by kernel_rfl) (by kernel_rfl) (fun _ _ _ h => h) (Or.inl ⟨by rfl, fun w' hSw => by go_simp⟩) hHeld ?_
        try simp only [Act.put, List.getElem_toArray, List.getElem_cons_succ, List.getElem_cons_zero, List.setIfInBounds_toArray, List.set_cons_zero, List.set_cons_succ]
        refine wpAnyH_take (i := 14) (v := S t) rfl (by kernel_rfl) (by kernel_rfl) (by kernel_rfl) (fun _ _ _ h => h) (Or.inl ⟨by rfl, fun w' hSw => by have hq := hSw; have hc := (IB.out _ hq.2).2.2.2.2; go_simp⟩) hHeld ?_
        try simp only [Act.put, List.getElem_toArray, List.getElem_cons_succ, List.getElem_cons_zero, List.setIfInBounds_toArray, List.set_cons_zero, List.set_cons_succ]
        refine wpAnyH_ready (rs := [15, 17]) (by kernel_rfl) (by simp) (AllReadyH.cons rfl (fun K1 hK1 => ?_) (AllReadyH.cons rfl (fun K1 hK1 => ?_) AllReadyH.nil))
        · skip
          try simp only [Act.put, List.getElem_toArray, List.getElem_cons_succ, List.getElem_cons_zero, List.setIfInBounds_toArray, List.set_cons_zero, List.set_cons_succ]
          go_simp
          refine Calls.mono (HH.out _) ?_
          rintro e wc1 ⟨rfl, hc2⟩
          refine hK1.out _ _ (hHeld.step hc2) (fun hHeld => ?_)
          clear hK1 K1
          try simp only [Act.put, List.getElem_toArray, List.getElem_cons_succ, List.getElem_cons_zero, List.setIfInBounds_toArray, List.set_cons_zero, List.set_cons_succ]
          refine' wpAnyH_take (i := 16) (v := .agg u.cells.toArray) rfl (by kernel_rfl) (by kernel_rfl) (by kernel_rfl) (fun _ _ _ h => h) (yieldsIf_buildL (by rfl) 41 [(0, .tmp 40), (1, .tmp 43), (2, .tmp 46), (3, .tmp 49), (4, .tmp 53)] rfl [(0, .int .i64 a), (1, .int .i64 b), (2, .int .i64 d), (3, .int .i64 f), (4, .agg (bRow t))] rfl u.cells.toArray Hbu.out) hHeld ?_
          try simp only [Act.put, List.getElem_toArray, List.getElem_cons_succ, List.getElem_cons_zero, List.setIfInBounds_toArray, List.set_cons_zero, List.set_cons_succ]
          refine wpAnyH_ready (rs := [17]) (by kernel_rfl) (by simp) (AllReadyH.cons rfl (fun K1 hK1 => ?_) AllReadyH.nil)
          try simp only [Act.put, List.getElem_toArray, List.getElem_cons_succ, List.getElem_cons_zero, List.setIfInBounds_toArray, List.set_cons_zero, List.set_cons_succ]
          go_simp
          have hd4 := (Below.refl wc1.heap.size wc1).alloc (Nat.le_refl _) (.cells Bd.zero.cells.toArray 41)
          have r8 : Row (wc1.alloc (.cells Bd.zero.cells.toArray 41)) wc1.heap.size 41 Bd.zero.cells := Row.new wc1 41 Bd.zero.cells
          have r8n := hHeld.fresh
          have r8s := hHeld.size
          have hHeld2 := hHeld.step hd4
          generalize wc1.alloc (.cells Bd.zero.cells.toArray 41) = wa3 at *
          obtain ⟨ga5, ga5e⟩ : ∃ ga5, ga5 = wc1.heap.size := ⟨_, rfl⟩
          rw [← ga5e] at r8 r8n r8s ⊢
          refine hK1.out _ _ (hHeld2) (fun hHeld => ?_)
          clear hK1 K1
          try simp only [Act.put, List.getElem_toArray, List.getElem_cons_succ, List.getElem_cons_zero, List.setIfInBounds_toArray, List.set_cons_zero, List.set_cons_succ]
          clear hHeld2 ga5e
          refine wpAnyH_ready (rs := [18]) (by kernel_rfl) (by simp) (AllReadyH.cons rfl (fun K1 hK1 => ?_) AllReadyH.nil)
          try simp only [Act.put, List.getElem_toArray, List.getElem_cons_succ, List.getElem_cons_zero, List.setIfInBounds_toArray, List.set_cons_zero, List.set_cons_succ]
          rw [if_pos (by rfl)]
          refine wp_store_at 41 (.tmp 8) (.tmp 54) rfl ga5 0 u.cells _ _ rfl rfl r8 (by have := HZL.out; have := HUL.out; omega) (by rw [bid_info, HUL.out]) HU1.out ?_
          intro ws6 hrS hgS
          rw [splice_all (HUL.out.trans HZL.out.symm)] at hrS
          have HrU := Lib.hid hrS
          have hHeld2 := hHeld.put hgS r8s r8n
          clear hrS hgS
          refine hK1.out _ _ (hHeld2) (fun hHeld => ?_)
          clear hK1 K1
          try simp only [Act.put, List.getElem_toArray, List.getElem_cons_succ, List.getElem_cons_zero, List.setIfInBounds_toArray, List.set_cons_zero, List.set_cons_succ]
          clear hHeld2
          refine wpAnyH_done (by kernel_rfl) ?_ _
          refine NoPanic.normal ?_
          have HB5 := Lib.hid (hHeld.1.cons HrU.out)
          clear hHeld HrU hzv
          go_wp2_with (first
            | (with_reducible show wpList _ _ _ (⟨_, .load 41 (.tmp 8), _, _, _, _⟩ :: _) _ _; refine wpList_load_tx rfl 41 (.tmp 8) rfl (ga5) 0 rfl u.cells _ (row_range HB5.out.hd) Tryd.underlying41 rfl (by rw [bid_info, HUL.out]) ?_))
          refine (MB.out _).mono ?_
          rintro _ w6 ⟨rfl, hb6⟩
          have HB6 := HB5.out.step hb6
          have Hr6 := Lib.hid HB6.hd
          have Hrz6 := Lib.hid HB6.tl.hd
          have Hb6 := Lib.hid HB6.1
          clear hb6 HB6
          rcases Bool.eq_false_or_eq_true u.ok with hk | hk
          · have hRs : R = some u := by rw [HRo.out, if_pos hk]
            have HRs := Lib.hid hRs
            clear hRs
            go_wp2_with (first
              | (with_reducible show wpList _ _ _ (⟨_, .load 41 _, _, _, _, _⟩ :: _) _ _; refine wpList_load_tx rfl 41 (.tmp 8) rfl ga5 0 rfl u.cells _ (row_range Hr6.out) Tryd.underlying41 rfl (by rw [bid_info, HUL.out]) ?_)
              | (with_reducible show wpList _ _ _ (⟨_, .store 41 _ _, _, _, _, _⟩ :: _) _ _
                 refine wpList_store_at rfl 41 (.tmp 2) (.tmp 59) rfl (w.heap.size) 0 u.cells _ _ rfl rfl Hrz6.out (by have := HZL.out; have := HUL.out; omega) (by rw [bid_info, HUL.out]) HU1.out ?_
                 intro wZ hrZ hgZ
                 rw [splice_all (HUL.out.trans HZL.out.symm)] at hrZ
                 have HrZ := Lib.hid hrZ
                 have HbZ := Lib.hid (below_own Hb6.out hgZ (fun k hk => by cases hk; exact Nat.le_refl _))
                 clear hrZ hgZ))
            refine bodyPost_ret (results_rowL rfl _ _ (w.heap.size) 41 _ _ rfl HrZ.out Tryd.underlying41 rfl (by rw [bid_info, List.size_toArray, HUL.out]) _ rfl) rfl ⟨?_, HbZ.out⟩
            rw [HRs.out]
            exact rfl
          · have hRn : R = none := by rw [HRo.out, if_neg (by rw [hk]; simp)]
            have HRn := Lib.hid hRn
            clear hRn
            go_wp2_with (first
              | (with_reducible show wpList _ _ _ (⟨_, .build 41 _, _, _, _, _⟩ :: _) _ _; refine wpList_buildL rfl 41 [] rfl (some 58) rfl _ rfl _ Bd.zero_built0 ?_)
              | (with_reducible show wpList _ _ _ (⟨_, .store 41 _ _, _, _, _, _⟩ :: _) _ _
                 refine wpList_store_at rfl 41 (.tmp 2) (.tmp 58) rfl (w.heap.size) 0 Bd.zero.cells _ _ rfl rfl Hrz6.out (by have := HZL.out; omega) (by rw [bid_info, HZL.out]) HZ1.out ?_
                 intro wZ hrZ hgZ
                 rw [splice_all rfl] at hrZ
                 have HrZ := Lib.hid hrZ
                 have HbZ := Lib.hid (below_own Hb6.out hgZ (fun k hk => by cases hk; exact Nat.le_refl _))
                 clear hrZ hgZ))
            refine bodyPost_ret (results_rowL rfl _ _ (w.heap.size) 41 _ _ rfl HrZ.out Tryd.underlying41 rfl (by rw [bid_info, List.size_toArray, HZL.out]) _ rfl) rfl ⟨?_, HbZ.out⟩
            rw [HRn.out]
            exact rfl
        · skip
          try simp only [Act.put, List.getElem_toArray, List.getElem_cons_succ, List.getElem_cons_zero, List.setIfInBounds_toArray, List.set_cons_zero, List.set_cons_succ]
          go_simp
          have hd8 := (Below.refl wq.heap.size wq).alloc (Nat.le_refl _) (.cells Bd.zero.cells.toArray 41)
          have r8 : Row (wq.alloc (.cells Bd.zero.cells.toArray 41)) wq.heap.size 41 Bd.zero.cells := Row.new wq 41 Bd.zero.cells
          have r8n := hHeld.fresh
          have r8s := hHeld.size
          have hHeld2 := hHeld.step hd8
          generalize wq.alloc (.cells Bd.zero.cells.toArray 41) = wa7 at *
          obtain ⟨ga9, ga9e⟩ : ∃ ga9, ga9 = wq.heap.size := ⟨_, rfl⟩
          rw [← ga9e] at r8 r8n r8s ⊢
          refine hK1.out _ _ (hHeld2) (fun hHeld => ?_)
          clear hK1 K1
          try simp only [Act.put, List.getElem_toArray, List.getElem_cons_succ, List.getElem_cons_zero, List.setIfInBounds_toArray, List.set_cons_zero, List.set_cons_succ]
          clear hHeld2 ga9e
          refine wpAnyH_ready (rs := [15]) (by kernel_rfl) (by simp) (AllReadyH.cons rfl (fun K1 hK1 => ?_) AllReadyH.nil)
          try simp only [Act.put, List.getElem_toArray, List.getElem_cons_succ, List.getElem_cons_zero, List.setIfInBounds_toArray, List.set_cons_zero, List.set_cons_succ]
          go_simp
          refine Calls.mono (HH.out _) ?_
          rintro e wc10 ⟨rfl, hc11⟩
          have r8 := r8.kept (grownBy_of_below hc11 none) (by simp)
          refine hK1.out _ _ (hHeld.step hc11) (fun hHeld => ?_)
          clear hK1 K1
          try simp only [Act.put, List.getElem_toArray, List.getElem_cons_succ, List.getElem_cons_zero, List.setIfInBounds_toArray, List.set_cons_zero, List.set_cons_succ]
          refine' wpAnyH_take (i := 16) (v := .agg u.cells.toArray) rfl (by kernel_rfl) (by kernel_rfl) (by kernel_rfl) (fun _ _ _ h => h) (yieldsIf_buildL (by rfl) 41 [(0, .tmp 40), (1, .tmp 43), (2, .tmp 46), (3, .tmp 49), (4, .tmp 53)] rfl [(0, .int .i64 a), (1, .int .i64 b), (2, .int .i64 d), (3, .int .i64 f), (4, .agg (bRow t))] rfl u.cells.toArray Hbu.out) hHeld ?_
          try simp only [Act.put, List.getElem_toArray, List.getElem_cons_succ, List.getElem_cons_zero, List.setIfInBounds_toArray, List.set_cons_zero, List.set_cons_succ]
          refine wpAnyH_ready (rs := [18]) (by kernel_rfl) (by simp) (AllReadyH.cons rfl (fun K1 hK1 => ?_) AllReadyH.nil)
          try simp only [Act.put, List.getElem_toArray, List.getElem_cons_succ, List.getElem_cons_zero, List.setIfInBounds_toArray, List.set_cons_zero, List.set_cons_succ]
          rw [if_pos (by rfl)]
          refine wp_store_at 41 (.tmp 8) (.tmp 54) rfl ga9 0 u.cells _ _ rfl rfl r8 (by have := HZL.out; have := HUL.out; omega) (by rw [bid_info, HUL.out]) HU1.out ?_
          intro ws12 hrS hgS
          rw [splice_all (HUL.out.trans HZL.out.symm)] at hrS
          have HrU := Lib.hid hrS
          have hHeld2 := hHeld.put hgS r8s r8n
          clear hrS hgS
          refine hK1.out _ _ (hHeld2) (fun hHeld => ?_)
          clear hK1 K1
          try simp only [Act.put, List.getElem_toArray, List.getElem_cons_succ, List.getElem_cons_zero, List.setIfInBounds_toArray, List.set_cons_zero, List.set_cons_succ]
          clear hHeld2
          refine wpAnyH_done (by kernel_rfl) ?_ _
          refine NoPanic.normal ?_
          have HB5 := Lib.hid (hHeld.1.cons HrU.out)
          clear hHeld HrU hzv
          go_wp2_with (first
            | (with_reducible show wpList _ _ _ (⟨_, .load 41 (.tmp 8), _, _, _, _⟩ :: _) _ _; refine wpList_load_tx rfl 41 (.tmp 8) rfl (ga9) 0 rfl u.cells _ (row_range HB5.out.hd) Tryd.underlying41 rfl (by rw [bid_info, HUL.out]) ?_))
          refine (MB.out _).mono ?_
          rintro _ w6 ⟨rfl, hb6⟩
          have HB6 := HB5.out.step hb6
          have Hr6 := Lib.hid HB6.hd
          have Hrz6 := Lib.hid HB6.tl.hd
          have Hb6 := Lib.hid HB6.1
          clear hb6 HB6
          rcases Bool.eq_false_or_eq_true u.ok with hk | hk
          · have hRs : R = some u := by rw [HRo.out, if_pos hk]
            have HRs := Lib.hid hRs
            clear hRs
            go_wp2_with (first
              | (with_reducible show wpList _ _ _ (⟨_, .load 41 _, _, _, _, _⟩ :: _) _ _; refine wpList_load_tx rfl 41 (.tmp 8) rfl ga9 0 rfl u.cells _ (row_range Hr6.out) Tryd.underlying41 rfl (by rw [bid_info, HUL.out]) ?_)
              | (with_reducible show wpList _ _ _ (⟨_, .store 41 _ _, _, _, _, _⟩ :: _) _ _
                 refine wpList_store_at rfl 41 (.tmp 2) (.tmp 59) rfl (w.heap.size) 0 u.cells _ _ rfl rfl Hrz6.out (by have := HZL.out; have := HUL.out; omega) (by rw [bid_info, HUL.out]) HU1.out ?_
                 intro wZ hrZ hgZ
                 rw [splice_all (HUL.out.trans HZL.out.symm)] at hrZ
                 have HrZ := Lib.hid hrZ
                 have HbZ := Lib.hid (below_own Hb6.out hgZ (fun k hk => by cases hk; exact Nat.le_refl _))
                 clear hrZ hgZ))
            refine bodyPost_ret (results_rowL rfl _ _ (w.heap.size) 41 _ _ rfl HrZ.out Tryd.underlying41 rfl (by rw [bid_info, List.size_toArray, HUL.out]) _ rfl) rfl ⟨?_, HbZ.out⟩
            rw [HRs.out]
            exact rfl
          · have hRn : R = none := by rw [HRo.out, if_neg (by rw [hk]; simp)]
            have HRn := Lib.hid hRn
            clear hRn
            go_wp2_with (first
              | (with_reducible show wpList _ _ _ (⟨_, .build 41 _, _, _, _, _⟩ :: _) _ _; refine wpList_buildL rfl 41 [] rfl (some 58) rfl _ rfl _ Bd.zero_built0 ?_)
              | (with_reducible show wpList _ _ _ (⟨_, .store 41 _ _, _, _, _, _⟩ :: _) _ _
                 refine wpList_store_at rfl 41 (.tmp 2) (.tmp 58) rfl (w.heap.size) 0 Bd.zero.cells _ _ rfl rfl Hrz6.out (by have := HZL.out; omega) (by rw [bid_info, HZL.out]) HZ1.out ?_
                 intro wZ hrZ hgZ
                 rw [splice_all rfl] at hrZ
                 have HrZ := Lib.hid hrZ
                 have HbZ := Lib.hid (below_own Hb6.out hgZ (fun k hk => by cases hk; exact Nat.le_refl _))
                 clear hrZ hgZ))
            refine bodyPost_ret (results_rowL rfl _ _ (w.heap.size) 41 _ _ rfl HrZ.out Tryd.underlying41 rfl (by rw [bid_info, List.size_toArray, HZL.out]) _ rfl) rfl ⟨?_, HbZ.out⟩
            rw [HRn.out]
            exact rfl
      · have hti : ((t.length : Int) != 32) = true := by simp; omega
        have hti2 : ¬ (t.length : Int) = 32 := by omega
        have hRn : R = none := by rw [HRs.out, ht]; exact Bd.of_no (fun h => h32 (h.2 t (by simp)))
        have HRn := Lib.hid hRn
        have Hrz := Lib.hid HB3.out.hd
        have Hbz := Lib.hid HB3.out.1
        clear hRn ht h32
        go_wp2_with (first
          | (with_reducible show wpList _ _ _ (⟨_, .build 41 _, _, _, _, _⟩ :: _) _ _; refine wpList_buildL rfl 41 [] rfl (some 37) rfl _ rfl _ Bd.zero_built0 ?_)
          | (with_reducible show wpList _ _ _ (⟨_, .store 41 _ _, _, _, _, _⟩ :: _) _ _
             refine wpList_store_at rfl 41 (.tmp 2) (.tmp 37) rfl (w.heap.size) 0 Bd.zero.cells _ _ rfl rfl Hrz.out (by have := HZL.out; omega) (by rw [bid_info, HZL.out]) HZ1.out ?_
             intro wZ hrZ hgZ
             rw [splice_all rfl] at hrZ
             have HrZ := Lib.hid hrZ
             have HbZ := Lib.hid (below_own Hbz.out hgZ (fun k hk => by cases hk; exact Nat.le_refl _))
             clear hrZ hgZ))
        refine bodyPost_ret (results_rowL rfl _ _ (w.heap.size) 41 _ _ rfl HrZ.out Tryd.underlying41 rfl (by rw [bid_info, List.size_toArray, HZL.out]) _ rfl) rfl ⟨?_, HbZ.out⟩
        rw [HRn.out]
        exact rfl
    · have hm4 : ((m : Int) != 5) = true := by simp; omega
      have hm4' : ¬ (m : Int) = 5 := by omega
      have hRn : R = none := by rw [HRs.out]; exact Bd.of_no (fun h => by have := h.1; rw [List.length_drop, ← HM.out] at this; omega)
      have HRn := Lib.hid hRn
      have Hrz := Lib.hid HB3.out.hd
      have Hbz := Lib.hid HB3.out.1
      clear hRn h5 hcell
      go_wp2_with (first
        | (with_reducible show wpList _ _ _ (⟨_, .build 41 _, _, _, _, _⟩ :: _) _ _; refine wpList_buildL rfl 41 [] rfl (some 37) rfl _ rfl _ Bd.zero_built0 ?_)
        | (with_reducible show wpList _ _ _ (⟨_, .store 41 _ _, _, _, _, _⟩ :: _) _ _
           refine wpList_store_at rfl 41 (.tmp 2) (.tmp 37) rfl (w.heap.size) 0 Bd.zero.cells _ _ rfl rfl Hrz.out (by have := HZL.out; omega) (by rw [bid_info, HZL.out]) HZ1.out ?_
           intro wZ hrZ hgZ
           rw [splice_all rfl] at hrZ
           have HrZ := Lib.hid hrZ
           have HbZ := Lib.hid (below_own Hbz.out hgZ (fun k hk => by cases hk; exact Nat.le_refl _))
           clear hrZ hgZ))
      refine bodyPost_ret (results_rowL rfl _ _ (w.heap.size) 41 _ _ rfl HrZ.out Tryd.underlying41 rfl (by rw [bid_info, List.size_toArray, HZL.out]) _ rfl) rfl ⟨?_, HbZ.out⟩
      rw [HRn.out]
      exact rfl
end Go.Proofs.YtdekcicgiflnbaaDoor
