/- Same; Close without a book, or without a bank. -/
import Derived.Test.YtlapmdgkcidhnaaDoorBkBid
namespace Go.Proofs.YtlapmdgkcidhnaaDoor
open Go.RowKit Go.Maps
set_option linter.unusedVariables false
set_option linter.unusedSimpArgs false
set_option maxRecDepth 100000

set_option maxHeartbeats 3200000 in
theorem same15_any (b : Bool) (A1 A2 : Option Addr) (c1 c2 : Nat) (l1 l2 : List Bd) (w : World) (h1 : SlB w w.heap.size A1 c1 l1) (h2 : SlB w w.heap.size A2 c2 l2) (hb : b = true ↔ l1 = l2) :
    Calls Tryd.prog 27 #[.slice A1 l1.length c1, .slice A2 l2.length c2] w fun e w' => e = .returned (.bool b) ∧ Below w.heap.size w w' := by
  by_cases hl : l1.length = l2.length
  rotate_left
  · have hne : l1 ≠ l2 := fun e => hl (by rw [e])
    have hbf : b = false := by cases b with
      | false => rfl
      | true => exact absurd (hb.1 rfl) hne
    subst hbf
    generalize l1.length = n1 at *
    generalize l2.length = n2 at *
    have hi : ((n1 : Int) != (n2 : Int)) = true := by simp; omega
    have hj : (n1 != n2) = true := by simpa using hl
    clear hl h1 h2 hne hb
    go_enter Tryd.func27, Tryd.ntmps27
    go_wp2_with fail
    go_ret
    exact ⟨rfl, Below.refl _ _⟩
  have HBB := Lib.hid hb
  clear hb
  obtain ⟨m, hm⟩ : ∃ m, m = l1.length := ⟨_, rfl⟩
  have hm2 : m = l2.length := by omega
  have H1 := Lib.hid h1
  have H2 := Lib.hid h2
  have HX1 : Hid (∀ k, k < m → ∃ g, A1 = some ⟨g, 0, none⟩ ∧ g < w.heap.size ∧ w.rangeAt g (k * 36) (l1.getD k Bd.zero).cells) := Lib.hid (fun k hk => by
    obtain ⟨g, e, hg, ha⟩ := H1.out.1 (by intro e; rw [e] at hm; simp at hm; omega)
    refine ⟨g, e, hg, ?_⟩
    rw [List.getD_eq_getElem?_getD, List.getElem?_eq_getElem (by omega)]
    exact ha k (by omega))
  have HX2 : Hid (∀ k, k < m → ∃ g, A2 = some ⟨g, 0, none⟩ ∧ g < w.heap.size ∧ w.rangeAt g (k * 36) (l2.getD k Bd.zero).cells) := Lib.hid (fun k hk => by
    obtain ⟨g, e, hg, ha⟩ := H2.out.1 (by intro e; rw [e] at hm2; simp at hm2; omega)
    refine ⟨g, e, hg, ?_⟩
    rw [List.getD_eq_getElem?_getD, List.getElem?_eq_getElem (by omega)]
    exact ha k (by omega))
  have HF1 : Hid (∀ k, k < m → (l1.getD k Bd.zero).Fits) := Lib.hid (fun k hk => H1.out.2.2.2.2 _ (Au.getD_mem (by omega)))
  have HF2 : Hid (∀ k, k < m → (l2.getD k Bd.zero).Fits) := Lib.hid (fun k hk => H2.out.2.2.2.2 _ (Au.getD_mem (by omega)))
  have HAll : Hid ((∀ k, k < m → l1.getD k Bd.zero = l2.getD k Bd.zero) → l1 = l2) := Lib.hid (fun h => by
    apply List.ext_getElem hl
    intro k hk hk2
    have := h k (by omega)
    rw [List.getD_eq_getElem?_getD, List.getD_eq_getElem?_getD, List.getElem?_eq_getElem hk, List.getElem?_eq_getElem hk2] at this
    exact this)
  have HNe : Hid (∀ k, k < m → l1.getD k Bd.zero ≠ l2.getD k Bd.zero → l1 ≠ l2) := Lib.hid (fun k hk h e => h (by rw [e]))
  have hmm : m ≤ 1000000 := by have := H1.out.2.2.2.1; omega
  obtain ⟨X1, hX1⟩ : ∃ X : Nat → Bd, X = fun k => l1.getD k Bd.zero := ⟨_, rfl⟩
  obtain ⟨X2, hX2⟩ : ∃ X : Nat → Bd, X = fun k => l2.getD k Bd.zero := ⟨_, rfl⟩
  have hXa : ∀ k, l1.getD k Bd.zero = X1 k := fun k => by rw [hX1]
  have hXb : ∀ k, l2.getD k Bd.zero = X2 k := fun k => by rw [hX2]
  simp only [hXa] at HX1 HF1 HAll HNe
  simp only [hXb] at HX2 HF2 HAll HNe
  rw [← hm2, ← hm]
  clear hl hm hm2 h1 h2 H1 H2 hX1 hX2 hXa hXb
  go_enter Tryd.func27, Tryd.ntmps27
  go_wp2_with fail
  go_loopw [5] (fun s5 wr => ∃ k : Nat, k ≤ m ∧ s5 = .int .i64 k ∧ Hid (∀ i, i < k → X1 i = X2 i) ∧ Hid (Below w.heap.size w wr)) (fun i _ => m - (intOf i).toNat)
  case atStart => exact ⟨0, Nat.zero_le _, rfl, Lib.hid (fun i hi => by omega), Lib.hid (Below.refl _ _)⟩
  case round =>
    obtain ⟨k, hk, rfl, HD, Hbr⟩ := hrel
    by_cases hkn : k < m
    · have hki : (k : Int) < (m : Int) := by omega
      have hk0 : (0 : Int) ≤ (k : Int) := by omega
      obtain ⟨g1, rfl, hg1, ha1⟩ := HX1.out k hkn
      obtain ⟨g2, rfl, hg2, ha2⟩ := HX2.out k hkn
      have HR1 : Hid (∀ W, Below wr.heap.size wr W → W.rangeAt g1 (k * 36) (X1 k).cells) := Lib.hid (fun W hW j u hu => ((two_below' Hbr.out hW).cell (p := ⟨g1, k * 36 + j, none⟩) hg1).trans (ha1 j u hu))
      have HR2 : Hid (∀ W, Below wr.heap.size wr W → W.rangeAt g2 (k * 36) (X2 k).cells) := Lib.hid (fun W hW j u hu => ((two_below' Hbr.out hW).cell (p := ⟨g2, k * 36 + j, none⟩) hg2).trans (ha2 j u hu))
      have HC1 := Lib.hid (Bd.cells_len (HF1.out k hkn).tag)
      have HC2 := Lib.hid (Bd.cells_len (HF2.out k hkn).tag)
      obtain ⟨dd, hdd⟩ : ∃ dd : Bool, (dd = true ↔ X1 k = X2 k) := by classical exact ⟨decide (X1 k = X2 k), by simp⟩
      have HEQ := Lib.hid (fun W => bid_eqD W (X1 k) (X2 k) (HF1.out k hkn) (HF2.out k hkn) hdd)
      have HDD := Lib.hid hdd
      obtain ⟨C1, hC1⟩ : ∃ C1, (X1 k).cells = C1 := ⟨_, rfl⟩
      obtain ⟨C2, hC2⟩ : ∃ C2, (X2 k).cells = C2 := ⟨_, rfl⟩
      rw [hC1] at HR1 HC1 HEQ
      rw [hC2] at HR2 HC2 HEQ
      clear ha1 ha2 hdd hC1 hC2
      go_wp2_with fail
      refine wp_region_held_drew (S := fun w' => Below wr.heap.size wr w') (by kernel_rfl) ((Below.refl _ _).drew) (fun hHeld => ?_)
      generalize wr.drew = wq at *
      refine wpAnyH_take (i := 0) (v := .slice (some ⟨g1, 0, none⟩) m c1) rfl (by kernel_rfl) (by kernel_rfl) (by kernel_rfl) (fun _ _ _ h => h) (Or.inl ⟨by rfl, fun w' hSw => by go_simp⟩) hHeld ?_
      try simp only [Act.put, List.getElem_toArray, List.getElem_cons_succ, List.getElem_cons_zero, List.setIfInBounds_toArray, List.set_cons_zero, List.set_cons_succ]
      refine wpAnyH_take (i := 1) (v := .int .i64 k) rfl (by kernel_rfl) (by kernel_rfl) (by kernel_rfl) (fun _ _ _ h => h) (Or.inl ⟨by rfl, fun w' hSw => by go_simp⟩) hHeld ?_
      try simp only [Act.put, List.getElem_toArray, List.getElem_cons_succ, List.getElem_cons_zero, List.setIfInBounds_toArray, List.set_cons_zero, List.set_cons_succ]
      refine wpAnyH_take (i := 2) (v := .pointer (some ⟨g1, (k * 36), none⟩)) rfl (by kernel_rfl) (by kernel_rfl) (by kernel_rfl) (fun _ _ _ h => h) (Or.inl ⟨by rfl, fun w' hSw => by go_simp⟩) hHeld ?_
      try simp only [Act.put, List.getElem_toArray, List.getElem_cons_succ, List.getElem_cons_zero, List.setIfInBounds_toArray, List.set_cons_zero, List.set_cons_succ]
      refine' wpAnyH_take (i := 3) (v := _) rfl (by kernel_rfl) (by kernel_rfl) (by kernel_rfl) (fun _ _ _ h => h) (yieldsIf_load_mid (by rfl) _ _ rfl g1 (k * 36) rfl C1 _ (fun w' hSw => HR1.out _ hSw) Tryd.underlying30 rfl (by rw [bid_info, HC1.out])) hHeld ?_
      try simp only [Act.put, List.getElem_toArray, List.getElem_cons_succ, List.getElem_cons_zero, List.setIfInBounds_toArray, List.set_cons_zero, List.set_cons_succ]
      refine wpAnyH_take (i := 4) (v := .slice (some ⟨g2, 0, none⟩) m c2) rfl (by kernel_rfl) (by kernel_rfl) (by kernel_rfl) (fun _ _ _ h => h) (Or.inl ⟨by rfl, fun w' hSw => by go_simp⟩) hHeld ?_
      try simp only [Act.put, List.getElem_toArray, List.getElem_cons_succ, List.getElem_cons_zero, List.setIfInBounds_toArray, List.set_cons_zero, List.set_cons_succ]
      refine wpAnyH_take (i := 5) (v := .int .i64 k) rfl (by kernel_rfl) (by kernel_rfl) (by kernel_rfl) (fun _ _ _ h => h) (Or.inl ⟨by rfl, fun w' hSw => by go_simp⟩) hHeld ?_
      try simp only [Act.put, List.getElem_toArray, List.getElem_cons_succ, List.getElem_cons_zero, List.setIfInBounds_toArray, List.set_cons_zero, List.set_cons_succ]
      refine wpAnyH_take (i := 6) (v := .pointer (some ⟨g2, (k * 36), none⟩)) rfl (by kernel_rfl) (by kernel_rfl) (by kernel_rfl) (fun _ _ _ h => h) (Or.inl ⟨by rfl, fun w' hSw => by go_simp⟩) hHeld ?_
      try simp only [Act.put, List.getElem_toArray, List.getElem_cons_succ, List.getElem_cons_zero, List.setIfInBounds_toArray, List.set_cons_zero, List.set_cons_succ]
      refine' wpAnyH_take (i := 7) (v := _) rfl (by kernel_rfl) (by kernel_rfl) (by kernel_rfl) (fun _ _ _ h => h) (yieldsIf_load_mid (by rfl) _ _ rfl g2 (k * 36) rfl C2 _ (fun w' hSw => HR2.out _ hSw) Tryd.underlying30 rfl (by rw [bid_info, HC2.out])) hHeld ?_
      try simp only [Act.put, List.getElem_toArray, List.getElem_cons_succ, List.getElem_cons_zero, List.setIfInBounds_toArray, List.set_cons_zero, List.set_cons_succ]
      refine wpAnyH_take (i := 8) (v := .bool (!dd)) rfl (by kernel_rfl) (by kernel_rfl) (by kernel_rfl) (fun _ _ _ h => h) (Or.inl ⟨by rfl, fun w' hSw => by have hq := hSw; have hd := HEQ.out; go_simp⟩) hHeld ?_
      try simp only [Act.put, List.getElem_toArray, List.getElem_cons_succ, List.getElem_cons_zero, List.setIfInBounds_toArray, List.set_cons_zero, List.set_cons_succ]
      refine wpAnyH_done (by kernel_rfl) ?_ _
      clear HEQ
      have HB9 := Lib.hid (two_below' Hbr.out hHeld)
      clear hHeld
      cases dd with
      | true =>
        have HDn : Hid (∀ i, i < k + 1 → X1 i = X2 i) := Lib.hid (fun i hi => by
          by_cases e : i = k
          · subst e; exact HDD.out.1 rfl
          · exact HD.out i (by omega))
        simp only [Bool.not_true]
        go_wp2_with fail
        exact ⟨⟨k + 1, by omega, by go_num, HDn, HB9⟩, by simp [intOf]; omega⟩
      | false =>
        have HNn := Lib.hid (HNe.out k hkn (fun e => by have := HDD.out.2 e; cases this))
        simp only [Bool.not_false]
        go_wp2_with fail
        go_ret
        have hbf : b = false := by
          cases hbb : b with
          | false => rfl
          | true => exact absurd (HBB.out.1 hbb) HNn.out
        rw [hbf]
        exact ⟨rfl, HB9.out⟩
    · have hki : ¬ (k : Int) < (m : Int) := by omega
      have e : k = m := by omega
      subst e
      have HE := Lib.hid (HAll.out HD.out)
      go_wp2_with fail
      go_ret
      rw [HBB.out.2 HE.out]
      exact ⟨rfl, Hbr.out⟩
theorem close_nilB (r : Int) (kp : Value) (w : World) :
    Calls Tryd.prog 25 #[.pointer none, .int .i64 r, kp] w fun e w' => e = .returned (Au.winV none) ∧ Below w.heap.size w w' := by
  have hz := win_zv
  have HZ37 := Lib.hid (Au.wc_len (b := Bd.zero) (p := 0) rfl)
  have HZ1 := Lib.hid (Au.wc_one (b := Bd.zero) (p := 0) rfl)
  have HBt : Hid (Tryd.prog.built 32 [] = some (Au.wc Bd.zero 0).toArray) := Lib.hid (by rw [win_built0]; rfl)
  have Hr0 := Lib.hid (Row.new w 32 (Au.wc Bd.zero 0))
  have Hb0 := Lib.hid ((Below.refl w.heap.size w).alloc (Nat.le_refl _) (.cells (Au.wc Bd.zero 0).toArray 32))
  have HZC : Hid (Au.winC none = Au.wc Bd.zero 0) := Lib.hid rfl
  generalize Au.wc Bd.zero 0 = WZ at *
  go_enter Tryd.func25, Tryd.ntmps25
  go_wp2_with (first
    | ((with_reducible show wpList _ _ _ (⟨_, .build 32 _, _, _, _, _⟩ :: _) _ _); refine wpList_buildL rfl 32 [] rfl (some 16) rfl _ rfl WZ.toArray HBt.out ?_)
    | (
       with_reducible show wpList _ _ _ (⟨_, .store 32 (.tmp 6) _, _, _, _, _⟩ :: _) _ _
       refine wpList_store_at rfl 32 (.tmp 6) (.tmp 16) rfl w.heap.size 0 WZ WZ _ rfl rfl (Hr0.out) (by have := HZ37.out; have := HZ37.out; omega) (by rw [win_size, HZ37.out]) HZ1.out ?_
       intro wl hr hg
       rw [splice_all rfl] at hr
       have HrL := Lib.hid hr
       have HbL := Lib.hid (below_own Hb0.out hg (fun k hk => by cases hk; exact Nat.le_refl _))
       clear hr hg))
  refine bodyPost_ret (results_rowL rfl _ _ w.heap.size 32 _ _ rfl HrL.out Tryd.underlying32 rfl (by rw [win_size, List.size_toArray, HZ37.out]) _ rfl) rfl ⟨?_, HbL.out⟩
  unfold Au.winV
  rw [HZC.out]
  rfl
theorem close_nilK (r : Int) (B : Nat) (w : World) :
    Calls Tryd.prog 25 #[.pointer (some ⟨B, 0, none⟩), .int .i64 r, .pointer none] w fun e w' => e = .returned (Au.winV none) ∧ Below w.heap.size w w' := by
  have hz := win_zv
  have HZ37 := Lib.hid (Au.wc_len (b := Bd.zero) (p := 0) rfl)
  have HZ1 := Lib.hid (Au.wc_one (b := Bd.zero) (p := 0) rfl)
  have HBt : Hid (Tryd.prog.built 32 [] = some (Au.wc Bd.zero 0).toArray) := Lib.hid (by rw [win_built0]; rfl)
  have Hr0 := Lib.hid (Row.new w 32 (Au.wc Bd.zero 0))
  have Hb0 := Lib.hid ((Below.refl w.heap.size w).alloc (Nat.le_refl _) (.cells (Au.wc Bd.zero 0).toArray 32))
  have HZC : Hid (Au.winC none = Au.wc Bd.zero 0) := Lib.hid rfl
  generalize Au.wc Bd.zero 0 = WZ at *
  go_enter Tryd.func25, Tryd.ntmps25
  go_wp2_with (first
    | ((with_reducible show wpList _ _ _ (⟨_, .build 32 _, _, _, _, _⟩ :: _) _ _); refine wpList_buildL rfl 32 [] rfl (some 16) rfl _ rfl WZ.toArray HBt.out ?_)
    | (
       with_reducible show wpList _ _ _ (⟨_, .store 32 (.tmp 6) _, _, _, _, _⟩ :: _) _ _
       refine wpList_store_at rfl 32 (.tmp 6) (.tmp 16) rfl w.heap.size 0 WZ WZ _ rfl rfl (Hr0.out) (by have := HZ37.out; have := HZ37.out; omega) (by rw [win_size, HZ37.out]) HZ1.out ?_
       intro wl hr hg
       rw [splice_all rfl] at hr
       have HrL := Lib.hid hr
       have HbL := Lib.hid (below_own Hb0.out hg (fun k hk => by cases hk; exact Nat.le_refl _))
       clear hr hg))
  refine bodyPost_ret (results_rowL rfl _ _ w.heap.size 32 _ _ rfl HrL.out Tryd.underlying32 rfl (by rw [win_size, List.size_toArray, HZ37.out]) _ rfl) rfl ⟨?_, HbL.out⟩
  unfold Au.winV
  rw [HZC.out]
  rfl
end Go.Proofs.YtlapmdgkcidhnaaDoor
