/- The reference's Win. -/
import Derived.Test.YtlapmdgkcidhnaaDoorAuRcnt
namespace Go.Proofs.YtlapmdgkcidhnaaDoor
open Go.RowKit
set_option linter.unusedVariables false
set_option linter.unusedSimpArgs false
set_option maxRecDepth 100000

theorem Au.cnt_ok {F : List Int} {r fl : Int} {l : List Bd} {x : Bd} (h : x ∈ Au.cnt F r fl l) : Au.okB F r fl x = true := (Au.counts_mem h).2
theorem Au.okB_low {F : List Int} {r fl : Int} {x : Bd} (h : Au.okB F r fl x = true) : x.check = 0 ∧ fl ≤ x.amount := by
  unfold Au.okB at h
  rw [decide_eq_true_eq] at h
  exact ⟨h.1, h.2.2.1⟩
set_option maxHeartbeats 6400000 in
theorem rwin_any (hRS : RefSum) (l : List Bd) (hl : ∀ b ∈ l, b.Fits) (A : Option Addr) (c : Nat) (F : List Int) (A2 : Option Addr) (c2 : Nat) (r fl : Int) (w : World) (hA : BdsIn w w.heap.size A l) (hn0 : l.length ≤ 1000000) (hF : FnIn w w.heap.size A2 F) (hF0 : F.length ≤ 9223372036854775807) :
    Calls Tryd.prog 15 #[.slice A l.length c, .slice A2 F.length c2, .int .i64 r, .int .i64 fl] w fun e w' => e = .returned (Au.winV (Au.winB F r fl l)) ∧ Below w.heap.size w w' := by
  have CC : Hid (∀ W, Below w.heap.size w W → Calls Tryd.prog 17 #[.slice A l.length c, .slice A2 F.length c2, .int .i64 r, .int .i64 fl] W fun e w' => ∃ v, e = .returned v ∧ OwnL w' W.heap.size 30 36 Bd.cells v (Au.cnt F r fl l) ∧ Below W.heap.size W w') :=
    Lib.hid (fun W hW => rcounts_any hRS l hl A c F A2 c2 r fl W ((hA.below hW).mono hW.size) hn0 ((hF.below hW).mono hW.size) hF0)
  have hg32 : ∀ b ∈ Au.cnt F r fl l, b.Fits := fun b hb => hl b (Au.counts_mem hb).1
  have hgf : ∀ b ∈ Au.cnt F r fl l, fl ≤ b.amount := fun b hb => (Au.okB_low (Au.cnt_ok hb)).2
  have hgl := Nat.le_trans (cnt_len F r fl l) hn0
  have hR : Au.winB F r fl l = Au.win Bd.amount Au.sum Au.txt Bd.zero fl (Au.cnt F r fl l) := rfl
  rw [hR]
  obtain ⟨G, hG⟩ : ∃ G, G = Au.cnt F r fl l := ⟨_, rfl⟩
  rw [← hG] at CC hg32 hgl hgf ⊢
  have hz := win_zv
  have HRS := Lib.hid hRS
  have HZ37 := Lib.hid (Au.wc_len (b := Bd.zero) (p := 0) rfl)
  have HZ1 := Lib.hid (Au.wc_one (b := Bd.zero) (p := 0) rfl)
  have HBt : Hid (Tryd.prog.built 32 [] = some (Au.wc Bd.zero 0).toArray) := Lib.hid (by rw [win_built0]; rfl)
  have Hr0 := Lib.hid (Row.new w 32 (Au.wc Bd.zero 0))
  have Hb0 := Lib.hid ((Below.refl w.heap.size w).alloc (Nat.le_refl _) (.cells (Au.wc Bd.zero 0).toArray 32))
  generalize l.length = n at *
  generalize F.length = q at *
  clear hA hF hl hR hG hn0 hF0 hRS
  have HG32 := Lib.hid hg32
  have HGL := Lib.hid hgl
  have HGF := Lib.hid hgf
  clear hg32 hgl hgf
  have HZC : Hid (Au.winC none = Au.wc Bd.zero 0) := Lib.hid rfl
  generalize Au.wc Bd.zero 0 = WZ at *
  go_enter Tryd.func15, Tryd.ntmps15
  go_wp2_with fail
  refine calls_named ?_
  intro w1 hw1
  have Hr1 : Hid (Row w1 w.heap.size 32 WZ) := Lib.hid (by rw [hw1]; exact Hr0.out)
  have Hb1 : Hid (Below w.heap.size w w1) := Lib.hid (by rw [hw1]; exact Hb0.out)
  clear hw1 Hr0 Hb0
  refine (CC.out w1 Hb1.out).mono ?_
  rintro _ w2 ⟨v, rfl, ho2, hb2⟩
  have Hr2 := Lib.hid (Hr1.out.kept (grownBy_of_below hb2 none) (by simp))
  have Hb2 := Lib.hid (two_below' Hb1.out hb2)
  obtain ⟨A1, c1, rfl, hlc, hcm⟩ := ho2.form
  have Ho2 := Lib.hid ho2
  clear ho2 hb2 CC Hr1
  by_cases hG0 : G = []
  · have HW : Hid (Au.win Bd.amount Au.sum Au.txt Bd.zero fl G = none) := Lib.hid (Au.win_none.2 hG0)
    have hm0 : G.length = 0 := by rw [hG0]; rfl
    rw [hm0]
    clear hG0 hm0 hlc
    go_wp2_with (first
      | ((with_reducible show wpList _ _ _ (⟨_, .build 32 _, _, _, _, _⟩ :: _) _ _); refine wpList_buildL rfl 32 [] rfl (some 23) rfl _ rfl WZ.toArray HBt.out ?_)
      | (
         with_reducible show wpList _ _ _ (⟨_, .store 32 (.tmp 8) _, _, _, _, _⟩ :: _) _ _
         refine wpList_store_at rfl 32 (.tmp 8) (.tmp 23) rfl w.heap.size 0 WZ WZ _ rfl rfl (Hr2.out) (by have := HZ37.out; have := HZ37.out; omega) (by rw [win_size, HZ37.out]) HZ1.out ?_
         intro wl hr hg
         rw [splice_all rfl] at hr
         have HrL := Lib.hid hr
         have HbL := Lib.hid (below_own Hb2.out hg (fun k hk => by cases hk; exact Nat.le_refl _))
         clear hr hg))
    refine bodyPost_ret (results_rowL rfl _ _ w.heap.size 32 _ _ rfl HrL.out Tryd.underlying32 rfl (by rw [win_size, List.size_toArray, HZ37.out]) _ rfl) rfl ⟨?_, HbL.out⟩
    rw [HW.out]
    unfold Au.winV
    rw [HZC.out]
    rfl
  · obtain ⟨m, hm⟩ : ∃ m, G.length = m + 1 := ⟨G.length - 1, by have := List.length_pos_iff.2 hG0; omega⟩
    obtain ⟨g, c1', e, hg1, hg2⟩ := Ho2.out.ne hG0
    injection e with e1 e2 e3
    subst e1
    subst e3
    obtain ⟨X, hX⟩ : ∃ X : Nat → Bd, X = fun k => G.getD k Bd.zero := ⟨_, rfl⟩
    have hX2 : ∀ k, G.getD k Bd.zero = X k := fun k => by rw [hX]
    have HXf : Hid (∀ k, k < m + 1 → (X k).Fits) := Lib.hid (fun k hk => by rw [← hX2]; exact HG32.out _ (Au.getD_mem (by omega)))
    have HAt : Hid (∀ k, k < m + 1 → ∀ W, Below w2.heap.size w2 W → W.rangeAt g (k * 36) (X k).cells) := Lib.hid (fun k hk W hW j u hu => by
      have h1 := Ho2.out.at (fun x hx => Bd.cells_len (HG32.out x hx).tag) k (by omega)
      refine (hW.cell (p := ⟨g, k * 36 + j, none⟩) hg2).trans (h1 j u ?_)
      rw [← hX2, List.getD_eq_getElem?_getD, List.getElem?_eq_getElem (l := G) (i := k) (by omega)] at hu
      exact hu)
    obtain ⟨T, hTT⟩ : ∃ T, T = Au.bestTo Au.hi Bd.zero G := ⟨_, rfl⟩
    have HTS : Hid (∀ k a, T k = some a → T (k + 1) = if Au.hi (X k) (X a) = true then some k else some a) := Lib.hid (fun k a h => by
      rw [hTT] at h ⊢
      show Au.step Au.hi Bd.zero G k (Au.bestTo Au.hi Bd.zero G k) = _
      rw [h]
      unfold Au.step
      simp only [hX2])
    have HTl : Hid (∀ k a, T k = some a → a < k) := Lib.hid (fun k a h => by rw [hTT] at h; exact Au.bestTo_lt h)
    have HT1 : Hid (T 1 = some 0) := Lib.hid (by rw [hTT]; rfl)
    have HTe : Hid (∀ a, T (m + 1) = some a → Au.win Bd.amount Au.sum Au.txt Bd.zero fl G = some (X a, Au.priceTo Bd.amount Bd.zero fl a G (m + 1))) := Lib.hid (fun a h => by
      have hb : Au.best (Au.higher Bd.amount Au.sum Au.txt) Bd.zero G = some a := by
        rw [hTT] at h
        unfold Au.best
        rw [hm]
        exact h
      rw [Au.win_plain HGF.out hb, hm, hX2])
    have HPS : Hid (∀ a i, Au.priceTo Bd.amount Bd.zero fl a G (i + 1) = if i ≠ a ∧ Au.priceTo Bd.amount Bd.zero fl a G i < (X i).amount then (X i).amount else Au.priceTo Bd.amount Bd.zero fl a G i) := Lib.hid (fun a i => by
      rw [← hX2]; rfl)
    have HP0 : Hid (∀ a, Au.priceTo Bd.amount Bd.zero fl a G 0 = fl) := Lib.hid (fun a => rfl)
    obtain ⟨PT, hPT⟩ : ∃ PT, PT = fun a => Au.priceTo Bd.amount Bd.zero fl a G := ⟨_, rfl⟩
    have hPT2 : ∀ a i, Au.priceTo Bd.amount Bd.zero fl a G i = PT a i := fun a i => by rw [hPT]
    simp only [hPT2] at HPS HP0 HTe
    have hmm : m ≤ 1000000 := by have := HGL.out; omega
    rw [hm]
    clear hm hX hX2 hTT hPT hPT2 hG0 HGL HGF HG32 Ho2 hlc
    go_wp2_with fail
    go_loopw [11, 12] (fun s11 s12 wr => ∃ a i : Nat, 1 ≤ i ∧ i ≤ m + 1 ∧ s12 = .int .i64 i ∧ s11 = .int .i64 a ∧ T i = some a ∧ Below w2.heap.size w2 wr) (fun _ i _ => m + 1 - (intOf i).toNat)
    case atStart => exact ⟨0, 1, by omega, by omega, rfl, rfl, HT1.out, Below.refl _ _⟩
    case round =>
      obtain ⟨a, i, hi1, him, rfl, rfl, hTi, hbr⟩ := hrel
      have Hbr := Lib.hid hbr
      have HTi := Lib.hid hTi
      have hai := HTl.out i a hTi
      clear hbr hTi
      by_cases hin : i < m + 1
      · have hini : (i : Int) < (m : Int) + 1 := by omega
        have hi0 : (0 : Int) ≤ (i : Int) := by omega
        have ha0 : (0 : Int) ≤ (a : Int) := by omega
        have haini : (a : Int) < (m : Int) + 1 := by omega
        have ham : a < m + 1 := by omega
        have HFi := Lib.hid (HXf.out i hin)
        have HFa := Lib.hid (HXf.out a ham)
        have HI36 := Lib.hid (Bd.cells_len HFi.out.tag)
        have HA36 := Lib.hid (Bd.cells_len HFa.out.tag)
        have HRi : Hid (∀ W, Below wr.heap.size wr W → W.rangeAt g (i * 36) (X i).cells) := Lib.hid (fun W hW => HAt.out i hin W (two_below' Hbr.out hW))
        have HRa : Hid (∀ W, Below wr.heap.size wr W → W.rangeAt g (a * 36) (X a).cells) := Lib.hid (fun W hW => HAt.out a ham W (two_below' Hbr.out hW))
        have hhi := fun W => rahead_any HRS.out (X i) (X a) HFi.out.tag HFa.out.tag W
        have hts := HTS.out i a HTi.out
        obtain ⟨bb, hbb⟩ : ∃ bb, bb = Au.hi (X i) (X a) := ⟨_, rfl⟩
        rw [← hbb] at hhi hts
        have HHI := Lib.hid hhi
        have HTs := Lib.hid hts
        obtain ⟨CI, hCI⟩ : ∃ CI, (X i).cells = CI := ⟨_, rfl⟩
        obtain ⟨CA, hCA⟩ : ∃ CA, (X a).cells = CA := ⟨_, rfl⟩
        rw [hCI] at HI36 HRi HHI
        rw [hCA] at HA36 HRa HHI
        clear hhi hts hbb hCI hCA
        cases bb with
        | true =>
          have HT1 : Hid (T (i + 1) = some i) := Lib.hid HTs.out
          clear HTs
          go_wp2_with fail
          refine wp_region_held_drew (S := fun w' => Below wr.heap.size wr w') (by kernel_rfl) ((Below.refl _ _).drew) (fun hHeld => ?_)
          generalize wr.drew = wq at *
          refine wpAnyH_take (i := 0) (v := .slice (some ⟨g, 0, none⟩) (m + 1) c1) rfl (by kernel_rfl) (by kernel_rfl) (by kernel_rfl) (fun _ _ _ h => h) (Or.inl ⟨by rfl, fun w' hSw => by go_simp⟩) hHeld ?_
          try simp only [Act.put, List.getElem_toArray, List.getElem_cons_succ, List.getElem_cons_zero, List.setIfInBounds_toArray, List.set_cons_zero, List.set_cons_succ]
          refine wpAnyH_take (i := 1) (v := .int .i64 i) rfl (by kernel_rfl) (by kernel_rfl) (by kernel_rfl) (fun _ _ _ h => h) (Or.inl ⟨by rfl, fun w' hSw => by go_simp⟩) hHeld ?_
          try simp only [Act.put, List.getElem_toArray, List.getElem_cons_succ, List.getElem_cons_zero, List.setIfInBounds_toArray, List.set_cons_zero, List.set_cons_succ]
          refine wpAnyH_take (i := 2) (v := .pointer (some ⟨g, (i * 36), none⟩)) rfl (by kernel_rfl) (by kernel_rfl) (by kernel_rfl) (fun _ _ _ h => h) (Or.inl ⟨by rfl, fun w' hSw => by go_simp⟩) hHeld ?_
          try simp only [Act.put, List.getElem_toArray, List.getElem_cons_succ, List.getElem_cons_zero, List.setIfInBounds_toArray, List.set_cons_zero, List.set_cons_succ]
          refine' wpAnyH_take (i := 3) (v := _) rfl (by kernel_rfl) (by kernel_rfl) (by kernel_rfl) (fun _ _ _ h => h) (yieldsIf_load_mid (by rfl) _ _ rfl g (i * 36) rfl CI _ (fun w' hSw => HRi.out _ hSw) Tryd.underlying30 rfl (by rw [bid_info, HI36.out])) hHeld ?_
          try simp only [Act.put, List.getElem_toArray, List.getElem_cons_succ, List.getElem_cons_zero, List.setIfInBounds_toArray, List.set_cons_zero, List.set_cons_succ]
          refine wpAnyH_take (i := 4) (v := .slice (some ⟨g, 0, none⟩) (m + 1) c1) rfl (by kernel_rfl) (by kernel_rfl) (by kernel_rfl) (fun _ _ _ h => h) (Or.inl ⟨by rfl, fun w' hSw => by go_simp⟩) hHeld ?_
          try simp only [Act.put, List.getElem_toArray, List.getElem_cons_succ, List.getElem_cons_zero, List.setIfInBounds_toArray, List.set_cons_zero, List.set_cons_succ]
          refine wpAnyH_take (i := 5) (v := .int .i64 a) rfl (by kernel_rfl) (by kernel_rfl) (by kernel_rfl) (fun _ _ _ h => h) (Or.inl ⟨by rfl, fun w' hSw => by go_simp⟩) hHeld ?_
          try simp only [Act.put, List.getElem_toArray, List.getElem_cons_succ, List.getElem_cons_zero, List.setIfInBounds_toArray, List.set_cons_zero, List.set_cons_succ]
          refine wpAnyH_take (i := 6) (v := .pointer (some ⟨g, (a * 36), none⟩)) rfl (by kernel_rfl) (by kernel_rfl) (by kernel_rfl) (fun _ _ _ h => h) (Or.inl ⟨by rfl, fun w' hSw => by go_simp⟩) hHeld ?_
          try simp only [Act.put, List.getElem_toArray, List.getElem_cons_succ, List.getElem_cons_zero, List.setIfInBounds_toArray, List.set_cons_zero, List.set_cons_succ]
          refine' wpAnyH_take (i := 7) (v := _) rfl (by kernel_rfl) (by kernel_rfl) (by kernel_rfl) (fun _ _ _ h => h) (yieldsIf_load_mid (by rfl) _ _ rfl g (a * 36) rfl CA _ (fun w' hSw => HRa.out _ hSw) Tryd.underlying30 rfl (by rw [bid_info, HA36.out])) hHeld ?_
          try simp only [Act.put, List.getElem_toArray, List.getElem_cons_succ, List.getElem_cons_zero, List.setIfInBounds_toArray, List.set_cons_zero, List.set_cons_succ]
          refine wpAnyH_ready (rs := [8]) (by kernel_rfl) (by simp) (AllReadyH.cons rfl (fun K1 hK1 => ?_) AllReadyH.nil)
          try simp only [Act.put, List.getElem_toArray, List.getElem_cons_succ, List.getElem_cons_zero, List.setIfInBounds_toArray, List.set_cons_zero, List.set_cons_succ]
          go_simp
          refine Calls.mono (HHI.out wq) ?_
          rintro e wc1 ⟨rfl, hc2⟩
          refine hK1.out _ _ (two_below' hHeld hc2) (fun hHeld => ?_)
          clear hK1 K1
          try simp only [Act.put, List.getElem_toArray, List.getElem_cons_succ, List.getElem_cons_zero, List.setIfInBounds_toArray, List.set_cons_zero, List.set_cons_succ]
          refine wpAnyH_done (by kernel_rfl) ?_ _
          have HB9 := Lib.hid (two_below' Hbr.out hHeld)
          clear hHeld
          go_wp2_with fail
          refine ⟨⟨.int .i64 i, .int .i64 ((i : Int) + 1), _, _, _, _, _, _, _, _, _, _, _, _, _, _, _, _, ⟨i, i + 1, by omega, by omega, by go_num, rfl, HT1.out, HB9.out⟩, rfl⟩, by simp [intOf]; omega⟩
        | false =>
          have HT1 : Hid (T (i + 1) = some a) := Lib.hid HTs.out
          clear HTs
          go_wp2_with fail
          refine wp_region_held_drew (S := fun w' => Below wr.heap.size wr w') (by kernel_rfl) ((Below.refl _ _).drew) (fun hHeld => ?_)
          generalize wr.drew = wq at *
          refine wpAnyH_take (i := 0) (v := .slice (some ⟨g, 0, none⟩) (m + 1) c1) rfl (by kernel_rfl) (by kernel_rfl) (by kernel_rfl) (fun _ _ _ h => h) (Or.inl ⟨by rfl, fun w' hSw => by go_simp⟩) hHeld ?_
          try simp only [Act.put, List.getElem_toArray, List.getElem_cons_succ, List.getElem_cons_zero, List.setIfInBounds_toArray, List.set_cons_zero, List.set_cons_succ]
          refine wpAnyH_take (i := 1) (v := .int .i64 i) rfl (by kernel_rfl) (by kernel_rfl) (by kernel_rfl) (fun _ _ _ h => h) (Or.inl ⟨by rfl, fun w' hSw => by go_simp⟩) hHeld ?_
          try simp only [Act.put, List.getElem_toArray, List.getElem_cons_succ, List.getElem_cons_zero, List.setIfInBounds_toArray, List.set_cons_zero, List.set_cons_succ]
          refine wpAnyH_take (i := 2) (v := .pointer (some ⟨g, (i * 36), none⟩)) rfl (by kernel_rfl) (by kernel_rfl) (by kernel_rfl) (fun _ _ _ h => h) (Or.inl ⟨by rfl, fun w' hSw => by go_simp⟩) hHeld ?_
          try simp only [Act.put, List.getElem_toArray, List.getElem_cons_succ, List.getElem_cons_zero, List.setIfInBounds_toArray, List.set_cons_zero, List.set_cons_succ]
          refine' wpAnyH_take (i := 3) (v := _) rfl (by kernel_rfl) (by kernel_rfl) (by kernel_rfl) (fun _ _ _ h => h) (yieldsIf_load_mid (by rfl) _ _ rfl g (i * 36) rfl CI _ (fun w' hSw => HRi.out _ hSw) Tryd.underlying30 rfl (by rw [bid_info, HI36.out])) hHeld ?_
          try simp only [Act.put, List.getElem_toArray, List.getElem_cons_succ, List.getElem_cons_zero, List.setIfInBounds_toArray, List.set_cons_zero, List.set_cons_succ]
          refine wpAnyH_take (i := 4) (v := .slice (some ⟨g, 0, none⟩) (m + 1) c1) rfl (by kernel_rfl) (by kernel_rfl) (by kernel_rfl) (fun _ _ _ h => h) (Or.inl ⟨by rfl, fun w' hSw => by go_simp⟩) hHeld ?_
          try simp only [Act.put, List.getElem_toArray, List.getElem_cons_succ, List.getElem_cons_zero, List.setIfInBounds_toArray, List.set_cons_zero, List.set_cons_succ]
          refine wpAnyH_take (i := 5) (v := .int .i64 a) rfl (by kernel_rfl) (by kernel_rfl) (by kernel_rfl) (fun _ _ _ h => h) (Or.inl ⟨by rfl, fun w' hSw => by go_simp⟩) hHeld ?_
          try simp only [Act.put, List.getElem_toArray, List.getElem_cons_succ, List.getElem_cons_zero, List.setIfInBounds_toArray, List.set_cons_zero, List.set_cons_succ]
          refine wpAnyH_take (i := 6) (v := .pointer (some ⟨g, (a * 36), none⟩)) rfl (by kernel_rfl) (by kernel_rfl) (by kernel_rfl) (fun _ _ _ h => h) (Or.inl ⟨by rfl, fun w' hSw => by go_simp⟩) hHeld ?_
          try simp only [Act.put, List.getElem_toArray, List.getElem_cons_succ, List.getElem_cons_zero, List.setIfInBounds_toArray, List.set_cons_zero, List.set_cons_succ]
          refine' wpAnyH_take (i := 7) (v := _) rfl (by kernel_rfl) (by kernel_rfl) (by kernel_rfl) (fun _ _ _ h => h) (yieldsIf_load_mid (by rfl) _ _ rfl g (a * 36) rfl CA _ (fun w' hSw => HRa.out _ hSw) Tryd.underlying30 rfl (by rw [bid_info, HA36.out])) hHeld ?_
          try simp only [Act.put, List.getElem_toArray, List.getElem_cons_succ, List.getElem_cons_zero, List.setIfInBounds_toArray, List.set_cons_zero, List.set_cons_succ]
          refine wpAnyH_ready (rs := [8]) (by kernel_rfl) (by simp) (AllReadyH.cons rfl (fun K1 hK1 => ?_) AllReadyH.nil)
          try simp only [Act.put, List.getElem_toArray, List.getElem_cons_succ, List.getElem_cons_zero, List.setIfInBounds_toArray, List.set_cons_zero, List.set_cons_succ]
          go_simp
          refine Calls.mono (HHI.out wq) ?_
          rintro e wc1 ⟨rfl, hc2⟩
          refine hK1.out _ _ (two_below' hHeld hc2) (fun hHeld => ?_)
          clear hK1 K1
          try simp only [Act.put, List.getElem_toArray, List.getElem_cons_succ, List.getElem_cons_zero, List.setIfInBounds_toArray, List.set_cons_zero, List.set_cons_succ]
          refine wpAnyH_done (by kernel_rfl) ?_ _
          have HB9 := Lib.hid (two_below' Hbr.out hHeld)
          clear hHeld
          go_wp2_with fail
          refine ⟨⟨.int .i64 a, .int .i64 ((i : Int) + 1), _, _, _, _, _, _, _, _, _, _, _, _, _, _, _, _, ⟨a, i + 1, by omega, by omega, by go_num, rfl, HT1.out, HB9.out⟩, rfl⟩, by simp [intOf]; omega⟩
      · have hini : ¬ (i : Int) < (m : Int) + 1 := by omega
        have e : i = m + 1 := by omega
        subst e
        have HW := Lib.hid (HTe.out a HTi.out)
        have HFa := Lib.hid (HXf.out a hai)
        have HA36 := Lib.hid (Bd.cells_len HFa.out.tag)
        have ha0 : (0 : Int) ≤ (a : Int) := by omega
        have haini : (a : Int) < (m : Int) + 1 := by omega
        have HPa := Lib.hid (HPS.out a)
        have HPz := Lib.hid (HP0.out a)
        clear hin hi1 him HTS HTl HT1 HTe HPS HP0 HTi
        generalize PT a = P at *
        generalize wr = wo at *
        go_wp2_with fail
        go_loopw [13, 14] (fun s13 s14 wr => ∃ i : Nat, i ≤ m + 1 ∧ s14 = .int .i64 i ∧ s13 = .int .i64 (P i) ∧ Below wo.heap.size wo wr) (fun _ i _ => m + 1 - (intOf i).toNat)
        case atStart => exact ⟨0, by omega, rfl, (by rw [HPz.out] <;> rfl), Below.refl _ _⟩
        case round =>
          obtain ⟨i, him, rfl, rfl, hbr2⟩ := hrel
          have Hb := Lib.hid (two_below' Hbr.out hbr2)
          have Hbo := Lib.hid hbr2
          clear hbr2
          by_cases hin : i < m + 1
          · have hini2 : (i : Int) < (m : Int) + 1 := by omega
            have hi0 : (0 : Int) ≤ (i : Int) := by omega
            have hpa := HPa.out i
            by_cases hia : i = a
            · rw [if_neg (by simp [hia])] at hpa
              have e0 : ((i : Int) != (a : Int)) = false := by simp; omega
              have HP := Lib.hid hpa
              clear hpa hia
              go_wp2_with fail
              exact ⟨⟨i + 1, by omega, by go_num, by rw [HP.out], Hbo.out⟩, by simp [intOf]; omega⟩
            · have e0 : ((i : Int) != (a : Int)) = true := by simp; omega
              have cx : wr.cell? ⟨g, i * 36 + 2, none⟩ = some (.int .i64 (X i).amount) := HAt.out i hin wr Hb.out 2 _ rfl
              generalize (X i).amount = xa at *
              by_cases hpx : P i < xa
              · rw [if_pos ⟨hia, hpx⟩] at hpa
                have d0 : decide (P i < xa) = true := by simpa using hpx
                have HP := Lib.hid hpa
                clear hpa hia hpx
                go_wp2_with fail
                exact ⟨⟨i + 1, by omega, by go_num, by rw [HP.out], Hbo.out⟩, by simp [intOf]; omega⟩
              · rw [if_neg (fun h => hpx h.2)] at hpa
                have d0 : decide (P i < xa) = false := by simpa using hpx
                have HP := Lib.hid hpa
                clear hpa hia hpx
                go_wp2_with fail
                exact ⟨⟨i + 1, by omega, by go_num, by rw [HP.out], Hbo.out⟩, by simp [intOf]; omega⟩
          · have hini2 : ¬ (i : Int) < (m : Int) + 1 := by omega
            have e : i = m + 1 := by omega
            subst e
            have HRa := Lib.hid (HAt.out a hai _ Hb.out)
            have HWB := Lib.hid (win_built (X a) (P (m + 1)) HFa.out.tag)
            have HW37 := Lib.hid (Au.wc_len (b := X a) (p := P (m + 1)) HFa.out.tag)
            have HW1 := Lib.hid (Au.wc_one (b := X a) (p := P (m + 1)) HFa.out.tag)
            have Hr3 := Lib.hid (Hr2.out.kept (grownBy_of_below Hb.out none) (by simp))
            have Hb3 := Lib.hid (two_below' Hb2.out Hb.out)
            generalize P (m + 1) = pr at *
            go_wp2_with (first
              | ((with_reducible show wpList _ _ _ (⟨_, .load 30 (.tmp 66), _, _, _, _⟩ :: _) _ _); refine wpList_load_tx rfl 30 (.tmp 66) rfl g (a * 36) (by first | rfl | simp) (X a).cells _ (HRa.out) Tryd.underlying30 rfl (by rw [bid_info, HA36.out]) ?_)
              | ((with_reducible show wpList _ _ _ (⟨_, .build 32 _, _, _, _, _⟩ :: _) _ _); refine wpList_buildL rfl 32 [(0, .tmp 67), (1, .tmp 68)] rfl (some 69) rfl [(0, .agg (X a).cells.toArray), (1, .int .i64 pr)] rfl (Au.wc (X a) pr).toArray HWB.out ?_)
              | (
                 with_reducible show wpList _ _ _ (⟨_, .store 32 (.tmp 8) _, _, _, _, _⟩ :: _) _ _
                 refine wpList_store_at rfl 32 (.tmp 8) (.tmp 69) rfl w.heap.size 0 (Au.wc (X a) pr) WZ _ rfl rfl (Hr3.out) (by have := HZ37.out; have := HW37.out; omega) (by rw [win_size, HW37.out]) HW1.out ?_
                 intro wl hr hg
                 rw [splice_all (HW37.out.trans HZ37.out.symm)] at hr
                 have HrL := Lib.hid hr
                 have HbL := Lib.hid (below_own Hb3.out hg (fun k hk => by cases hk; exact Nat.le_refl _))
                 clear hr hg))
            refine bodyPost_ret (results_rowL rfl _ _ w.heap.size 32 _ _ rfl HrL.out Tryd.underlying32 rfl (by rw [win_size, List.size_toArray, HW37.out]) _ rfl) rfl ⟨?_, HbL.out⟩
            rw [HW.out]
            rfl
end Go.Proofs.YtlapmdgkcidhnaaDoor
