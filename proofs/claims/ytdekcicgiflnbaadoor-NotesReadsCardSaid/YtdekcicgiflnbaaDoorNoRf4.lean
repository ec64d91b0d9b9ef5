/- The reference of layer 5: ReadItem. -/
import Derived.Test.YtdekcicgiflnbaaDoorNoRf2
import Derived.Test.YtdekcicgiflnbaaDoorNoItemR
namespace Go.Proofs.YtdekcicgiflnbaaDoor
open Go.RowKit
set_option linter.unusedVariables false
set_option linter.unusedSimpArgs false

/-- blocks, and all that was there at a world -/
def BlocksS (w0 w1 W : World) (l : List (Nat × TypeId × List Value)) : Prop := Blocks w0 W l ∧ Below w1.heap.size w1 W
namespace BlocksS
variable {w0 w1 W W' : World} {l : List (Nat × TypeId × List Value)} {g : Nat}
theorem step (h : BlocksS w0 w1 W l) (hb : Below W.heap.size W W') : BlocksS w0 w1 W' l := ⟨h.1.step hb, two_below' h.2 hb⟩
theorem drew (h : BlocksS w0 w1 W l) : BlocksS w0 w1 W.drew l := h.step (Below.refl _ _).drew
theorem size (h : BlocksS w0 w1 W l) : w0.heap.size ≤ W.heap.size ∧ w1.heap.size ≤ W.heap.size := ⟨h.1.size, h.2.size⟩
theorem fresh (h : BlocksS w0 w1 W l) : ∀ x ∈ l, x.1 ≠ W.heap.size := h.1.fresh
theorem put (h : BlocksS w0 w1 W l) (hg : W.grownBy W' (some g)) (hs : w0.heap.size ≤ g ∧ w1.heap.size ≤ g) (hn : ∀ x ∈ l, x.1 ≠ g) : BlocksS w0 w1 W' l :=
  ⟨h.1.put hg hs.1 hn, h.2.grown hg h.2.size (fun k hk => by cases hk; exact hs.2)⟩
end BlocksS
set_option maxRecDepth 20000 in
set_option maxHeartbeats 1600000 in
theorem rreadItem_any (s : ByteArray) (w : World) (hs : s.size ≤ 140737488351232) :
    Calls Tryd.prog 52 #[.string s] w fun e w' => ItEnds (It.read s.data.toList) e ∧ Below w.heap.size w w' := by
  have HZL := Lib.hid (It.cells_len It.zero)
  have HZ1 := Lib.hid (It.cells_one It.zero)
  have hzv : ∀ W : World, (zeroValue 59).run Tryd.prog W = .ok (.agg It.zero.cells.toArray) W := fun W => by kernel_rfl
  have LS := Lib.hid (fun W => rlist4_any s W hs)
  obtain ⟨R, hR⟩ : ∃ R, R = It.read s.data.toList := ⟨_, rfl⟩
  rw [← hR]
  have Hr0 := Lib.hid (Row.new w 59 It.zero.cells)
  have Hb0 := Lib.hid ((Below.refl w.heap.size w).alloc (Nat.le_refl _) (.cells It.zero.cells.toArray 59))
  have HRr := Lib.hid hR
  clear hR
  go_enter Tryd.func52, Tryd.ntmps52
  go_wp2_with fail
  refine calls_named ?_
  intro w1 hw1
  have hB1 : Blocks w w1 [(w.heap.size, 59, It.zero.cells)] := by rw [hw1]; exact (Blocks.nil Hb0.out).cons Hr0.out
  have HB1 := Lib.hid hB1
  clear hw1 hB1 Hr0 Hb0
  refine (LS.out w1).mono ?_
  rintro _ w2 ⟨L, v, n, rfl, hT, hL, hb2⟩
  obtain ⟨A, c, rfl, hTx⟩ := hT
  have HB2 := Lib.hid (HB1.out.step hb2)
  have HTx := Lib.hid hTx
  have HL := Lib.hid hL
  clear hb2 hTx hL HB1
  have htl : (∀ x ∈ L, x.length ≤ 65536) ∧ L.length ≤ 1024 := by
    rcases HL.out with ⟨_, h⟩ | ⟨_, _, h⟩
    · exact ⟨Tx.listAll_text h, listAll_few h⟩
    · rw [h]; simp
  have NB := Lib.hid (fun W hW => numbers5_any L A c 3 W (by decide) htl.1 hW)
  have hlf := htl.2
  have HTl := Lib.hid htl.1
  obtain ⟨m, hm⟩ : ∃ m, m = L.length := ⟨_, rfl⟩
  rw [← hm] at NB hlf ⊢
  have HM := Lib.hid hm
  clear hm htl
  go_wp2_with fail
  refine (NB.out _ HTx.out).mono ?_
  rintro _ w3 ⟨hN, hb3⟩
  have HB3 := Lib.hid (HB2.out.step hb3)
  have HTx3 : Hid (Texts w3 w3.heap.size A L) := fun hne => by
    obtain ⟨b, off, h1, h2, h3⟩ := HTx.out hne
    exact ⟨b, off, h1, Nat.lt_of_lt_of_le h2 hb3.size, fun i hi => (grownBy_of_below hb3 none).cell (h3 i hi) (by simp)⟩
  clear hb3 HB2 HTx NB
  rcases HL.out with ⟨rfl, hL⟩ | ⟨hne, hL, hLn⟩
  rotate_left
  · have HRn := Lib.hid (HRr.out.trans (It.read_none hL))
    rw [hLn] at hN
    obtain ⟨v, rfl⟩ : ∃ v, _ = _ := hN
    have Hrz := Lib.hid HB3.out.hd
    have Hbz := Lib.hid HB3.out.1
    clear hL hLn
    go_wp2_with (first
      | (with_reducible show wpList _ _ _ (⟨_, .build 59 _, _, _, _, _⟩ :: _) _ _; refine wpList_buildL rfl 59 [] rfl (some 30) rfl _ rfl _ It.zero_built0 ?_)
      | (with_reducible show wpList _ _ _ (⟨_, .store 59 _ _, _, _, _, _⟩ :: _) _ _
         refine wpList_store_at rfl 59 (.tmp 2) (.tmp 30) rfl (w.heap.size) 0 It.zero.cells _ _ rfl rfl Hrz.out (by have := HZL.out; omega) (by rw [item_info, HZL.out]) HZ1.out ?_
         intro wZ hrZ hgZ
         rw [splice_all rfl] at hrZ
         have HrZ := Lib.hid hrZ
         have HbZ := Lib.hid (below_own Hbz.out hgZ (fun k hk => by cases hk; exact Nat.le_refl _))
         clear hrZ hgZ))
    refine bodyPost_ret (results_rowL rfl _ _ (w.heap.size) 59 _ _ rfl HrZ.out Tryd.underlying59 rfl (by rw [item_info, List.size_toArray, HZL.out]) _ rfl) rfl ⟨?_, HbZ.out⟩
    rw [HRn.out]
    exact rfl
  have HRe := Lib.hid (HRr.out.trans (by unfold It.read; rw [hL, Option.bind_some] : _ = (No.raw 3 L).bind fun ns => It.of ns (L.drop 3)))
  clear hL
  cases hF : No.raw 3 L with
  | none =>
    rw [hF] at hN
    obtain ⟨v, rfl⟩ := hN
    have HRn := Lib.hid (HRe.out.trans (by rw [hF, Option.bind_none]))
    have Hrz := Lib.hid HB3.out.hd
    have Hbz := Lib.hid HB3.out.1
    clear hF
    go_wp2_with (first
      | (with_reducible show wpList _ _ _ (⟨_, .build 59 _, _, _, _, _⟩ :: _) _ _; refine wpList_buildL rfl 59 [] rfl (some 30) rfl _ rfl _ It.zero_built0 ?_)
      | (with_reducible show wpList _ _ _ (⟨_, .store 59 _ _, _, _, _, _⟩ :: _) _ _
         refine wpList_store_at rfl 59 (.tmp 2) (.tmp 30) rfl (w.heap.size) 0 It.zero.cells _ _ rfl rfl Hrz.out (by have := HZL.out; omega) (by rw [item_info, HZL.out]) HZ1.out ?_
         intro wZ hrZ hgZ
         rw [splice_all rfl] at hrZ
         have HrZ := Lib.hid hrZ
         have HbZ := Lib.hid (below_own Hbz.out hgZ (fun k hk => by cases hk; exact Nat.le_refl _))
         clear hrZ hgZ))
    refine bodyPost_ret (results_rowL rfl _ _ (w.heap.size) 59 _ _ rfl HrZ.out Tryd.underlying59 rfl (by rw [item_info, List.size_toArray, HZL.out]) _ rfl) rfl ⟨?_, HbZ.out⟩
    rw [HRn.out]
    exact rfl
  | some ns =>
    rw [hF] at hN
    obtain ⟨v, rfl, hown⟩ := hN
    obtain ⟨hn3, hml, hfit⟩ := No.raw_len _ _ _ hF
    obtain ⟨g, cp, rfl⟩ := ownsRow_succ hown
    have hcell := fun j v (h : (Is ns)[j]? = some v) => hown.cells rfl j v h
    have hglt := (hown.lt g rfl).2
    have HRs := Lib.hid (HRe.out.trans (by rw [hF]; rfl : _ = It.of ns (L.drop 3)))
    clear hF hown HRe
    obtain ⟨a, b, d, rfl⟩ := three_of hn3
    clear hn3 hml hfit
    by_cases h4 : m = 4
    · obtain ⟨t, ht⟩ : ∃ t, L.drop 3 = [t] := List.length_eq_one_iff.1 (by rw [List.length_drop, ← HM.out, h4])
      obtain ⟨tb, toff, rfl, htb, htc⟩ := HTx3.out (by intro e; rw [e] at ht; simp at ht)
      have hl3 : 3 < L.length := by rw [← HM.out, h4]; decide
      have ht3 : L[3]'hl3 = t := by
        have : (L.drop 3)[0]? = some t := by rw [ht]; rfl
        rw [List.getElem?_drop] at this
        obtain ⟨_, h⟩ := List.getElem?_eq_some_iff.1 this
        exact h
      have hc3 := htc 3 hl3
      rw [ht3] at hc3
      have hi0 := hcell 0 _ rfl
      have hi1 := hcell 1 _ rfl
      have hi2 := hcell 2 _ rfl
      have hadd : ∀ j, (⟨g, 0, none⟩ : Addr).add j = ⟨g, 0 + j, none⟩ := fun j => by unfold Addr.add; split <;> simp_all
      rw [hadd, Nat.zero_add] at hi0 hi1 hi2
      have IB : Hid (∀ W, Below w3.heap.size w3 W → W.cell? ⟨g, 0, none⟩ = some (.int .i64 a) ∧ W.cell? ⟨g, 1, none⟩ = some (.int .i64 b) ∧ W.cell? ⟨g, 2, none⟩ = some (.int .i64 d) ∧ W.cell? ⟨tb, toff + 3, none⟩ = some (S t)) := fun W hW =>
        ⟨(hW.cell (p := ⟨g, 0, none⟩) hglt).trans hi0, (hW.cell (p := ⟨g, 1, none⟩) hglt).trans hi1, (hW.cell (p := ⟨g, 2, none⟩) hglt).trans hi2, (hW.cell (p := ⟨tb, toff + 3, none⟩) htb).trans hc3⟩
      have HRo : Hid (R = if (It.mk a b d ⟨t.toArray⟩).ok = true then some ⟨a, b, d, ⟨t.toArray⟩⟩ else none) := Lib.hid (by rw [HRs.out, ht]; rfl)
      obtain ⟨u, hu⟩ : ∃ u : It, u = ⟨a, b, d, ⟨t.toArray⟩⟩ := ⟨_, rfl⟩
      have hbu : Tryd.prog.built 59 [(0, .int .i64 a), (1, .int .i64 b), (2, .int .i64 d), (3, S t)] = some u.cells.toArray := by rw [hu]; kernel_rfl
      have Hbu := Lib.hid hbu
      rw [← hu] at HRo
      have MB := Lib.hid (fun W => item5_any u W)
      have HUL := Lib.hid (It.cells_len u)
      have HU1 := Lib.hid (It.cells_one u)
      subst h4
      have HS0 : Hid (BlocksS w w3 w3.drew [(w.heap.size, 59, It.zero.cells)]) := Lib.hid ⟨HB3.out.drew, (Below.refl _ _).drew⟩
      clear hu hbu ht hl3 ht3 hc3 hi0 hi1 hi2 hadd htc hcell
      go_wp2_with fail
      refine wp_region_noPanic ?_
      refine wp_region_held_drew (S := fun w' => BlocksS w w3 w' [(w.heap.size, 59, It.zero.cells)]) (by kernel_rfl) (HS0.out) (fun hHeld => ?_)
      generalize w3.drew = wq at *
      refine wpAnyH_take (i := 0) (v := .slice (some ⟨g, 0, none⟩) 3 cp) rfl (by kernel_rfl) (by kernel_rfl) (by kernel_rfl) (fun _ _ _ h => h) (Or.inl ⟨by rfl, fun w' hSw => by go_simp⟩) hHeld ?_
      try simp only [Act.put, List.getElem_toArray, List.getElem_cons_succ, List.getElem_cons_zero, List.setIfInBounds_toArray, List.set_cons_zero, List.set_cons_succ]
      refine wpAnyH_take (i := 1) (v := .pointer (some ⟨g, 0, none⟩)) rfl (by kernel_rfl) (by kernel_rfl) (by kernel_rfl) (fun _ _ _ h => h) (Or.inl ⟨by rfl, fun w' hSw => by go_simp⟩) hHeld ?_
      try simp only [Act.put, List.getElem_toArray, List.getElem_cons_succ, List.getElem_cons_zero, List.setIfInBounds_toArray, List.set_cons_zero, List.set_cons_succ]
      refine wpAnyH_take (i := 2) (v := .int .i64 a) rfl (by kernel_rfl) (by kernel_rfl) (by kernel_rfl) (fun _ _ _ h => h) (Or.inl ⟨by rfl, fun w' hSw => by have hq := hSw; have hc := (IB.out _ hq.2).1; go_simp⟩) hHeld ?_
      try simp only [Act.put, List.getElem_toArray, List.getElem_cons_succ, List.getElem_cons_zero, List.setIfInBounds_toArray, List.set_cons_zero, List.set_cons_succ]
      refine wpAnyH_take (i := 3) (v := .slice (some ⟨g, 0, none⟩) 3 cp) rfl (by kernel_rfl) (by kernel_rfl) (by kernel_rfl) (fun _ _ _ h => h) (Or.inl ⟨by rfl, fun w' hSw => by go_simp⟩) hHeld ?_
      try simp only [Act.put, List.getElem_toArray, List.getElem_cons_succ, List.getElem_cons_zero, List.setIfInBounds_toArray, List.set_cons_zero, List.set_cons_succ]
      refine wpAnyH_take (i := 4) (v := .pointer (some ⟨g, 1, none⟩)) rfl (by kernel_rfl) (by kernel_rfl) (by kernel_rfl) (fun _ _ _ h => h) (Or.inl ⟨by rfl, fun w' hSw => by go_simp⟩) hHeld ?_
      try simp only [Act.put, List.getElem_toArray, List.getElem_cons_succ, List.getElem_cons_zero, List.setIfInBounds_toArray, List.set_cons_zero, List.set_cons_succ]
      refine wpAnyH_take (i := 5) (v := .int .i64 b) rfl (by kernel_rfl) (by kernel_rfl) (by kernel_rfl) (fun _ _ _ h => h) (Or.inl ⟨by rfl, fun w' hSw => by have hq := hSw; have hc := (IB.out _ hq.2).2.1; go_simp⟩) hHeld ?_
      try simp only [Act.put, List.getElem_toArray, List.getElem_cons_succ, List.getElem_cons_zero, List.setIfInBounds_toArray, List.set_cons_zero, List.set_cons_succ]
      refine wpAnyH_take (i := 6) (v := .slice (some ⟨g, 0, none⟩) 3 cp) rfl (by kernel_rfl) (by kernel_rfl) (by kernel_rfl) (fun _ _ _ h => h) (Or.inl ⟨by rfl, fun w' hSw => by go_simp⟩) hHeld ?_
      try simp only [Act.put, List.getElem_toArray, List.getElem_cons_succ, List.getElem_cons_zero, List.setIfInBounds_toArray, List.set_cons_zero, List.set_cons_succ]
      refine wpAnyH_take (i := 7) (v := .pointer (some ⟨g, 2, none⟩)) rfl (by kernel_rfl) (by kernel_rfl) (by kernel_rfl) (fun _ _ _ h => h) (Or.inl ⟨by rfl, fun w' hSw => by go_simp⟩) hHeld ?_
      try simp only [Act.put, List.getElem_toArray, List.getElem_cons_succ, List.getElem_cons_zero, List.setIfInBounds_toArray, List.set_cons_zero, List.set_cons_succ]
      refine wpAnyH_take (i := 8) (v := .int .i64 d) rfl (by kernel_rfl) (by kernel_rfl) (by kernel_rfl) (fun _ _ _ h => h) (Or.inl ⟨by rfl, fun w' hSw => by have hq := hSw; have hc := (IB.out _ hq.2).2.2.1; go_simp⟩) hHeld ?_
      try simp only [Act.put, List.getElem_toArray, List.getElem_cons_succ, List.getElem_cons_zero, List.setIfInBounds_toArray, List.set_cons_zero, List.set_cons_succ]
      refine wpAnyH_take (i := 9) (v := .slice (some ⟨tb, toff, none⟩) 4 c) rfl (by kernel_rfl) (by kernel_rfl) (by kernel_rfl) (fun _ _ _ h => h) (Or.inl ⟨by rfl, fun w' hSw => by go_simp⟩) hHeld ?_
      try simp only [Act.put, List.getElem_toArray, List.getElem_cons_succ, List.getElem_cons_zero, List.setIfInBounds_toArray, List.set_cons_zero, List.set_cons_succ]
      refine wpAnyH_take (i := 10) (v := .pointer (some ⟨tb, toff + 3, none⟩)) rfl (by kernel_rfl) (by kernel_rfl) (by kernel_rfl) (fun _ _ _ h => h) (Or.inl ⟨by rfl, fun w' hSw => by go_simp⟩) hHeld ?_
      try simp only [Act.put, List.getElem_toArray, List.getElem_cons_succ, List.getElem_cons_zero, List.setIfInBounds_toArray, List.set_cons_zero, List.set_cons_succ]
      refine wpAnyH_take (i := 11) (v := S t) rfl (by kernel_rfl) (by kernel_rfl) (by kernel_rfl) (fun _ _ _ h => h) (Or.inl ⟨by rfl, fun w' hSw => by have hq := hSw; have hc := (IB.out _ hq.2).2.2.2; go_simp⟩) hHeld ?_
      try simp only [Act.put, List.getElem_toArray, List.getElem_cons_succ, List.getElem_cons_zero, List.setIfInBounds_toArray, List.set_cons_zero, List.set_cons_succ]
      refine' wpAnyH_take (i := 12) (v := .agg u.cells.toArray) rfl (by kernel_rfl) (by kernel_rfl) (by kernel_rfl) (fun _ _ _ h => h) (yieldsIf_buildL (by rfl) 59 [(0, .tmp 33), (1, .tmp 36), (2, .tmp 39), (3, .tmp 42)] rfl [(0, .int .i64 a), (1, .int .i64 b), (2, .int .i64 d), (3, S t)] rfl u.cells.toArray Hbu.out) hHeld ?_
      try simp only [Act.put, List.getElem_toArray, List.getElem_cons_succ, List.getElem_cons_zero, List.setIfInBounds_toArray, List.set_cons_zero, List.set_cons_succ]
      refine wpAnyH_ready (rs := [13]) (by kernel_rfl) (by simp) (AllReadyH.cons rfl (fun K1 hK1 => ?_) AllReadyH.nil)
      try simp only [Act.put, List.getElem_toArray, List.getElem_cons_succ, List.getElem_cons_zero, List.setIfInBounds_toArray, List.set_cons_zero, List.set_cons_succ]
      go_simp
      have hd2 := (Below.refl wq.heap.size wq).alloc (Nat.le_refl _) (.cells It.zero.cells.toArray 59)
      have r8 : Row (wq.alloc (.cells It.zero.cells.toArray 59)) wq.heap.size 59 It.zero.cells := Row.new wq 59 It.zero.cells
      have r8n := hHeld.fresh
      have r8s := hHeld.size
      have hHeld2 := hHeld.step hd2
      generalize wq.alloc (.cells It.zero.cells.toArray 59) = wa1 at *
      obtain ⟨ga3, ga3e⟩ : ∃ ga3, ga3 = wq.heap.size := ⟨_, rfl⟩
      rw [← ga3e] at r8 r8n r8s ⊢
      refine hK1.out _ _ (hHeld2) (fun hHeld => ?_)
      clear hK1 K1
      try simp only [Act.put, List.getElem_toArray, List.getElem_cons_succ, List.getElem_cons_zero, List.setIfInBounds_toArray, List.set_cons_zero, List.set_cons_succ]
      clear hHeld2 ga3e
      refine wpAnyH_ready (rs := [14]) (by kernel_rfl) (by simp) (AllReadyH.cons rfl (fun K1 hK1 => ?_) AllReadyH.nil)
      try simp only [Act.put, List.getElem_toArray, List.getElem_cons_succ, List.getElem_cons_zero, List.setIfInBounds_toArray, List.set_cons_zero, List.set_cons_succ]
      rw [if_pos (by rfl)]
      refine wp_store_at 59 (.tmp 8) (.tmp 43) rfl ga3 0 u.cells _ _ rfl rfl r8 (by have := HZL.out; have := HUL.out; omega) (by rw [item_info, HUL.out]) HU1.out ?_
      intro ws4 hrS hgS
      rw [splice_all (HUL.out.trans HZL.out.symm)] at hrS
      have HrU := Lib.hid hrS
      have hHeld2 := hHeld.put hgS r8s r8n
      clear hrS hgS
      refine hK1.out _ _ (hHeld2) (fun hHeld => ?_)
      clear hK1 K1
      try simp only [Act.put, List.getElem_toArray, List.getElem_cons_succ, List.getElem_cons_zero, List.setIfInBounds_toArray, List.set_cons_zero, List.set_cons_succ]
      clear hHeld2
      refine wpAnyH_done (by kernel_rfl) ?_ _
      refine NoPanic.normal ?_
      have HB5 := Lib.hid (hHeld.1.cons HrU.out)
      clear hHeld HrU hzv
      go_wp2_with (first
        | (with_reducible show wpList _ _ _ (⟨_, .load 59 (.tmp 8), _, _, _, _⟩ :: _) _ _; refine wpList_load_tx rfl 59 (.tmp 8) rfl (ga3) 0 rfl u.cells _ (row_range HB5.out.hd) Tryd.underlying59 rfl (by rw [item_info, HUL.out]) ?_))
      refine (MB.out _).mono ?_
      rintro _ w6 ⟨rfl, hb6⟩
      have HB6 := HB5.out.step hb6
      have Hr6 := Lib.hid HB6.hd
      have Hrz6 := Lib.hid HB6.tl.hd
      have Hb6 := Lib.hid HB6.1
      clear hb6 HB6
      rcases Bool.eq_false_or_eq_true u.ok with hk | hk
      · have hRs : R = some u := by rw [HRo.out, if_pos hk]
        have HRs := Lib.hid hRs
        clear hRs
        go_wp2_with (first
          | (with_reducible show wpList _ _ _ (⟨_, .load 59 _, _, _, _, _⟩ :: _) _ _; refine wpList_load_tx rfl 59 (.tmp 8) rfl ga3 0 rfl u.cells _ (row_range Hr6.out) Tryd.underlying59 rfl (by rw [item_info, HUL.out]) ?_)
          | (with_reducible show wpList _ _ _ (⟨_, .store 59 _ _, _, _, _, _⟩ :: _) _ _
             refine wpList_store_at rfl 59 (.tmp 2) (.tmp 48) rfl (w.heap.size) 0 u.cells _ _ rfl rfl Hrz6.out (by have := HZL.out; have := HUL.out; omega) (by rw [item_info, HUL.out]) HU1.out ?_
             intro wZ hrZ hgZ
             rw [splice_all (HUL.out.trans HZL.out.symm)] at hrZ
             have HrZ := Lib.hid hrZ
             have HbZ := Lib.hid (below_own Hb6.out hgZ (fun k hk => by cases hk; exact Nat.le_refl _))
             clear hrZ hgZ))
        refine bodyPost_ret (results_rowL rfl _ _ (w.heap.size) 59 _ _ rfl HrZ.out Tryd.underlying59 rfl (by rw [item_info, List.size_toArray, HUL.out]) _ rfl) rfl ⟨?_, HbZ.out⟩
        rw [HRs.out]
        exact rfl
      · have hRn : R = none := by rw [HRo.out, if_neg (by rw [hk]; simp)]
        have HRn := Lib.hid hRn
        clear hRn
        go_wp2_with (first
          | (with_reducible show wpList _ _ _ (⟨_, .build 59 _, _, _, _, _⟩ :: _) _ _; refine wpList_buildL rfl 59 [] rfl (some 47) rfl _ rfl _ It.zero_built0 ?_)
          | (with_reducible show wpList _ _ _ (⟨_, .store 59 _ _, _, _, _, _⟩ :: _) _ _
             refine wpList_store_at rfl 59 (.tmp 2) (.tmp 47) rfl (w.heap.size) 0 It.zero.cells _ _ rfl rfl Hrz6.out (by have := HZL.out; omega) (by rw [item_info, HZL.out]) HZ1.out ?_
             intro wZ hrZ hgZ
             rw [splice_all rfl] at hrZ
             have HrZ := Lib.hid hrZ
             have HbZ := Lib.hid (below_own Hb6.out hgZ (fun k hk => by cases hk; exact Nat.le_refl _))
             clear hrZ hgZ))
        refine bodyPost_ret (results_rowL rfl _ _ (w.heap.size) 59 _ _ rfl HrZ.out Tryd.underlying59 rfl (by rw [item_info, List.size_toArray, HZL.out]) _ rfl) rfl ⟨?_, HbZ.out⟩
        rw [HRn.out]
        exact rfl
    · have hm4 : ((m : Int) != 4) = true := by simp; omega
      have hm4' : ¬ (m : Int) = 4 := by omega
      have hRn : R = none := by rw [HRs.out, It.of_len (by rw [List.length_drop, ← HM.out]; omega)]
      have HRn := Lib.hid hRn
      have Hrz := Lib.hid HB3.out.hd
      have Hbz := Lib.hid HB3.out.1
      clear hRn h4 hcell
      go_wp2_with (first
        | (with_reducible show wpList _ _ _ (⟨_, .build 59 _, _, _, _, _⟩ :: _) _ _; refine wpList_buildL rfl 59 [] rfl (some 30) rfl _ rfl _ It.zero_built0 ?_)
        | (with_reducible show wpList _ _ _ (⟨_, .store 59 _ _, _, _, _, _⟩ :: _) _ _
           refine wpList_store_at rfl 59 (.tmp 2) (.tmp 30) rfl (w.heap.size) 0 It.zero.cells _ _ rfl rfl Hrz.out (by have := HZL.out; omega) (by rw [item_info, HZL.out]) HZ1.out ?_
           intro wZ hrZ hgZ
           rw [splice_all rfl] at hrZ
           have HrZ := Lib.hid hrZ
           have HbZ := Lib.hid (below_own Hbz.out hgZ (fun k hk => by cases hk; exact Nat.le_refl _))
           clear hrZ hgZ))
      refine bodyPost_ret (results_rowL rfl _ _ (w.heap.size) 59 _ _ rfl HrZ.out Tryd.underlying59 rfl (by rw [item_info, List.size_toArray, HZL.out]) _ rfl) rfl ⟨?_, HbZ.out⟩
      rw [HRn.out]
      exact rfl
end Go.Proofs.YtdekcicgiflnbaaDoor
