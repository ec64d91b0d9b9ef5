/- TreeLinked: the law's walk. -/
import Derived.Test.YtjeooegkfjlejaaDoorTrSt
import Derived.Test.YtjeooegkfjlejaaDoorTrAwk
namespace Go.Proofs.YtjeooegkfjlejaaDoor
open Go.RowKit
set_option linter.unusedVariables false
set_option linter.unusedSimpArgs false

set_option maxRecDepth 20000 in
set_option maxHeartbeats 6400000 in
theorem treeLinked_any (acts : List Ac) (A : Option Addr) (c : Nat) (w : World) (hin : AcsIn w w.heap.size A c acts) (hT : Tab w) :
    Calls Tryd.prog 5 #[.slice A acts.length c] w fun e w' => e = .returned (.bool true) ∧ Below w.heap.size w w' := by
  have hzh := hash_zv
  have HZ32 := Lib.hid (Tx.bRow_len Tx.zero rfl)
  have N1 := Lib.hid (newS 3 w w (by decide) (by decide) hT (Below.refl _ _))
  have AW := Lib.hid (fun W (hW : Below w.heap.size w W) => awake11_any W (hT.below hW hT.pos))
  have HIn := Lib.hid hin
  have HT := Lib.hid hT
  obtain ⟨n, hn⟩ : ∃ n, n = acts.length := ⟨_, rfl⟩
  rw [← hn]
  have HN := Lib.hid hn
  have hn1 : n ≤ 1000000000000 := by rw [hn]; exact hin.2.1
  clear hin hT hn
  go_enter Tryd.func5, Tryd.ntmps5
  go_wp2_with fail
  refine N1.out.mono ?_
  rintro _ w1 ⟨⟨P, rfl, hs1⟩, _⟩
  go_wp2_with fail
  refine (AW.out _ hs1.1).mono ?_
  rintro _ w2 ⟨rfl, hb2⟩
  have HS0 := Lib.hid (hs1.below hb2)
  clear hs1 hb2 N1 AW
  obtain ⟨D, hD⟩ : ∃ D : Int, D = 3 := ⟨_, rfl⟩
  rw [← hD] at HS0
  clear hD
  go_wp2_with fail
  go_loopw [5] (fun i wr => ∃ (k : Nat) (de : Int) (L : List Tr.Lk), k ≤ n ∧ i = .int .i64 k ∧ StAt w wr P D de L) (fun i _ => n - (intOf i).toNat)
  case atStart => exact ⟨0, _, _, Nat.zero_le _, rfl, HS0.out⟩
  case round =>
    obtain ⟨k, de, L, hk, rfl, hst⟩ := hrel
    have HSt := Lib.hid hst
    clear hst HS0
    by_cases hkn : k < n ∧ k < 25
    · have hki : (k : Int) < (n : Int) := by omega
      have hk5 : (k : Int) < 25 := by omega
      obtain ⟨g, off, rfl, hcl⟩ := HIn.out.at_ (k := k) (by rw [← HN.out]; exact hkn.1)
      have hxi := HIn.out.2.2 _ (List.getElem_mem (show k < acts.length by rw [← HN.out]; exact hkn.1))
      generalize acts[k]'(by rw [← HN.out]; exact hkn.1) = x at hcl hxi
      have HF1 : Hid (∀ W, Below w.heap.size w W → Calls Tryd.prog 32 #[.slice x.A x.L.length x.cap] W fun e w' => e = .returned (.slice (first11 x.L).A (first11 x.L).its.length (first11 x.L).cap) ∧ W = w') := Lib.hid (fun W hW => first11_any x.A x.cap x.L w.heap.size W (hxi.1.below hW))
      have HM : Hid (∀ W, StAt w W P D de L → Calls Tryd.prog 31 #[.pointer (some ⟨P, 0, none⟩), .slice (first11 x.L).A (first11 x.L).its.length (first11 x.L).cap, .int .i64 x.salt] W fun e w' => (∃ v, e = .returned v) ∧ StAt w w' P D de (Tr.mineL L (first11 x.L).its x.salt) ∧ Keep W w') := Lib.hid (fun W hW => (mineS hW _ _ _ x.salt hxi.2.2.2 (first11_in hxi) HT.out).mono (fun e w' h => ⟨⟨_, h.1⟩, h.2⟩))
      have HF2 : Hid (∀ W, Below w.heap.size w W → Calls Tryd.prog 34 #[.slice x.A x.L.length x.cap] W fun e w' => e = .returned (.slice x.A (few11 x.L).length x.cap) ∧ W = w') := Lib.hid (fun W hW => few11_any x.A x.cap x.L w.heap.size W (hxi.1.below hW))
      have HTu : Hid (∀ W, StAt w W P D de L → Calls Tryd.prog 33 #[.pointer (some ⟨P, 0, none⟩), .int .i64 x.under, .slice x.A (few11 x.L).length x.cap, .int .i64 x.salt] W fun e w' => (∃ v, e = .returned v) ∧ StAt w w' P D (Tr.turnD de L x.under ((few11 x.L).map Sv.its) x.salt) (Tr.turnL L x.under ((few11 x.L).map Sv.its) x.salt) ∧ Keep W w') := Lib.hid (fun W hW => (turnS hW x.under x.salt hxi.2.2.2 x.A x.cap (few11 x.L) (hxi.1.few) (by unfold few11; rw [List.length_take]; omega) HT.out).mono (fun e w' h => ⟨⟨_, h.1⟩, h.2⟩))
      have HCl := Lib.hid hcl
      have HXu : Hid (Tx.fits x.under) := Lib.hid hxi.2.2.1
      have ckd := (hcl wr HSt.out.1).1
      have cun := (hcl wr HSt.out.1).2.1
      clear hcl hxi
      obtain ⟨kd, und, sl, Ax, cx, Lx⟩ := x
      simp only at HF1 HM HF2 HTu HCl ckd cun HXu
      generalize first11 Lx = y1 at *
      generalize few11 Lx = y2 at *
      generalize Lx.length = mx at *
      obtain ⟨yA, yc, yi⟩ := y1
      simp only at HF1 HM
      by_cases hkd : kd < 2
      · have d3 : decide (kd < 2) = true := by simpa using hkd
        clear hkd
        go_wp2_with fail
        clear ckd cun hk5 d3
        have HSq := Lib.hid (HSt.out.below ((Below.refl wr.heap.size wr).drew))
        refine wp_region_noPanic ?_
        refine wp_region_held_drew (S := fun w' => Below w.heap.size w w') (by kernel_rfl) (HSt.out.1.drew) (fun hHeld => ?_)
        obtain ⟨wq, hwq⟩ : ∃ x, x = wr.drew := ⟨_, rfl⟩
        have HQe := Lib.hid hwq
        rw [← hwq] at hHeld HSq ⊢
        clear hwq
        refine wpAnyH_take (i := 0) (v := .pointer (some ⟨P, 0, none⟩)) rfl (by kernel_rfl) (by kernel_rfl) (by kernel_rfl) (fun _ _ _ h => h) (Or.inl ⟨by rfl, fun w' hSw => by go_simp⟩) hHeld ?_
        try simp only [Act.put, List.getElem_toArray, List.getElem_cons_succ, List.getElem_cons_zero, List.setIfInBounds_toArray, List.set_cons_zero, List.set_cons_succ]
        refine wpAnyH_take (i := 1) (v := .slice (some ⟨g, off, none⟩) n c) rfl (by kernel_rfl) (by kernel_rfl) (by kernel_rfl) (fun _ _ _ h => h) (Or.inl ⟨by rfl, fun w' hSw => by go_simp⟩) hHeld ?_
        try simp only [Act.put, List.getElem_toArray, List.getElem_cons_succ, List.getElem_cons_zero, List.setIfInBounds_toArray, List.set_cons_zero, List.set_cons_succ]
        refine wpAnyH_take (i := 2) (v := .int .i64 k) rfl (by kernel_rfl) (by kernel_rfl) (by kernel_rfl) (fun _ _ _ h => h) (Or.inl ⟨by rfl, fun w' hSw => by go_simp⟩) hHeld ?_
        try simp only [Act.put, List.getElem_toArray, List.getElem_cons_succ, List.getElem_cons_zero, List.setIfInBounds_toArray, List.set_cons_zero, List.set_cons_succ]
        refine wpAnyH_take (i := 3) (v := .pointer (some ⟨g, (off + k * 4), none⟩)) rfl (by kernel_rfl) (by kernel_rfl) (by kernel_rfl) (fun _ _ _ h => h) (Or.inl ⟨by rfl, fun w' hSw => by go_simp⟩) hHeld ?_
        try simp only [Act.put, List.getElem_toArray, List.getElem_cons_succ, List.getElem_cons_zero, List.setIfInBounds_toArray, List.set_cons_zero, List.set_cons_succ]
        refine wpAnyH_take (i := 4) (v := .pointer (some ⟨g, (off + k * 4 + 3), none⟩)) rfl (by kernel_rfl) (by kernel_rfl) (by kernel_rfl) (fun _ _ _ h => h) (Or.inl ⟨by rfl, fun w' hSw => by go_simp⟩) hHeld ?_
        try simp only [Act.put, List.getElem_toArray, List.getElem_cons_succ, List.getElem_cons_zero, List.setIfInBounds_toArray, List.set_cons_zero, List.set_cons_succ]
        refine wpAnyH_take (i := 5) (v := .slice Ax mx cx) rfl (by kernel_rfl) (by kernel_rfl) (by kernel_rfl) (fun _ _ _ h => h) (Or.inl ⟨by rfl, fun w' hSw => by have hq := hSw; have hd := (HCl.out _ hq).2.2.2; go_simp⟩) hHeld ?_
        try simp only [Act.put, List.getElem_toArray, List.getElem_cons_succ, List.getElem_cons_zero, List.setIfInBounds_toArray, List.set_cons_zero, List.set_cons_succ]
        refine wpAnyH_take (i := 7) (v := .slice (some ⟨g, off, none⟩) n c) rfl (by kernel_rfl) (by kernel_rfl) (by kernel_rfl) (fun _ _ _ h => h) (Or.inl ⟨by rfl, fun w' hSw => by go_simp⟩) hHeld ?_
        try simp only [Act.put, List.getElem_toArray, List.getElem_cons_succ, List.getElem_cons_zero, List.setIfInBounds_toArray, List.set_cons_zero, List.set_cons_succ]
        refine wpAnyH_take (i := 8) (v := .int .i64 k) rfl (by kernel_rfl) (by kernel_rfl) (by kernel_rfl) (fun _ _ _ h => h) (Or.inl ⟨by rfl, fun w' hSw => by go_simp⟩) hHeld ?_
        try simp only [Act.put, List.getElem_toArray, List.getElem_cons_succ, List.getElem_cons_zero, List.setIfInBounds_toArray, List.set_cons_zero, List.set_cons_succ]
        refine wpAnyH_take (i := 9) (v := .pointer (some ⟨g, (off + k * 4), none⟩)) rfl (by kernel_rfl) (by kernel_rfl) (by kernel_rfl) (fun _ _ _ h => h) (Or.inl ⟨by rfl, fun w' hSw => by go_simp⟩) hHeld ?_
        try simp only [Act.put, List.getElem_toArray, List.getElem_cons_succ, List.getElem_cons_zero, List.setIfInBounds_toArray, List.set_cons_zero, List.set_cons_succ]
        refine wpAnyH_take (i := 10) (v := .pointer (some ⟨g, (off + k * 4 + 2), none⟩)) rfl (by kernel_rfl) (by kernel_rfl) (by kernel_rfl) (fun _ _ _ h => h) (Or.inl ⟨by rfl, fun w' hSw => by go_simp⟩) hHeld ?_
        try simp only [Act.put, List.getElem_toArray, List.getElem_cons_succ, List.getElem_cons_zero, List.setIfInBounds_toArray, List.set_cons_zero, List.set_cons_succ]
        refine wpAnyH_take (i := 11) (v := .int .i64 sl) rfl (by kernel_rfl) (by kernel_rfl) (by kernel_rfl) (fun _ _ _ h => h) (Or.inl ⟨by rfl, fun w' hSw => by have hq := hSw; have hd := (HCl.out _ hq).2.2.1; go_simp⟩) hHeld ?_
        try simp only [Act.put, List.getElem_toArray, List.getElem_cons_succ, List.getElem_cons_zero, List.setIfInBounds_toArray, List.set_cons_zero, List.set_cons_succ]
        refine wpAnyH_ready (rs := [6]) (by kernel_rfl) (by simp) (AllReadyH.cons rfl (fun K1 hK1 => ?_) AllReadyH.nil)
        try simp only [Act.put, List.getElem_toArray, List.getElem_cons_succ, List.getElem_cons_zero, List.setIfInBounds_toArray, List.set_cons_zero, List.set_cons_succ]
        go_simp
        refine Calls.mono (HF1.out _ hHeld) ?_
        rintro e w2 ⟨rfl, rfl⟩
        refine hK1.out _ _ (hHeld) (fun hHeld => ?_)
        clear hK1 K1
        try simp only [Act.put, List.getElem_toArray, List.getElem_cons_succ, List.getElem_cons_zero, List.setIfInBounds_toArray, List.set_cons_zero, List.set_cons_succ]
        refine wpAnyH_ready (rs := [12]) (by kernel_rfl) (by simp) (AllReadyH.cons rfl (fun K1 hK1 => ?_) AllReadyH.nil)
        try simp only [Act.put, List.getElem_toArray, List.getElem_cons_succ, List.getElem_cons_zero, List.setIfInBounds_toArray, List.set_cons_zero, List.set_cons_succ]
        go_simp
        refine Calls.mono (HM.out _ HSq.out) ?_
        rintro e w2 ⟨⟨v2, rfl⟩, hst2, hkp2⟩
        have HS2 := Lib.hid hst2
        have HK2 := Lib.hid ((Keep.of_below ((Below.refl wr.heap.size wr).drew)).trans (HQe.out ▸ hkp2))
        have hb2 := hst2.1
        clear hst2 hkp2
        refine hK1.out _ _ (hb2) (fun hHeld => ?_)
        clear hK1 K1
        try simp only [Act.put, List.getElem_toArray, List.getElem_cons_succ, List.getElem_cons_zero, List.setIfInBounds_toArray, List.set_cons_zero, List.set_cons_succ]
        refine wpAnyH_done (by kernel_rfl) ?_ _
        refine NoPanic.normal ?_
        clear hHeld
        go_wp2_with fail
        exact ⟨⟨k + 1, de, _, by omega, by go_num, HS2.out⟩, by simp [intOf]; omega⟩
      · have d3 : decide (kd < 2) = false := by simpa using hkd
        clear hkd
        go_wp2_with fail
        clear ckd cun hk5 d3
        have HSq := Lib.hid (HSt.out.below ((Below.refl wr.heap.size wr).drew))
        refine wp_region_noPanic ?_
        refine wp_region_held_drew (S := fun w' => Below w.heap.size w w') (by kernel_rfl) (HSt.out.1.drew) (fun hHeld => ?_)
        obtain ⟨wq, hwq⟩ : ∃ x, x = wr.drew := ⟨_, rfl⟩
        have HQe := Lib.hid hwq
        rw [← hwq] at hHeld HSq ⊢
        clear hwq
        refine wpAnyH_take (i := 0) (v := .pointer (some ⟨P, 0, none⟩)) rfl (by kernel_rfl) (by kernel_rfl) (by kernel_rfl) (fun _ _ _ h => h) (Or.inl ⟨by rfl, fun w' hSw => by go_simp⟩) hHeld ?_
        try simp only [Act.put, List.getElem_toArray, List.getElem_cons_succ, List.getElem_cons_zero, List.setIfInBounds_toArray, List.set_cons_zero, List.set_cons_succ]
        refine wpAnyH_take (i := 1) (v := .slice (some ⟨g, off, none⟩) n c) rfl (by kernel_rfl) (by kernel_rfl) (by kernel_rfl) (fun _ _ _ h => h) (Or.inl ⟨by rfl, fun w' hSw => by go_simp⟩) hHeld ?_
        try simp only [Act.put, List.getElem_toArray, List.getElem_cons_succ, List.getElem_cons_zero, List.setIfInBounds_toArray, List.set_cons_zero, List.set_cons_succ]
        refine wpAnyH_take (i := 2) (v := .int .i64 k) rfl (by kernel_rfl) (by kernel_rfl) (by kernel_rfl) (fun _ _ _ h => h) (Or.inl ⟨by rfl, fun w' hSw => by go_simp⟩) hHeld ?_
        try simp only [Act.put, List.getElem_toArray, List.getElem_cons_succ, List.getElem_cons_zero, List.setIfInBounds_toArray, List.set_cons_zero, List.set_cons_succ]
        refine wpAnyH_take (i := 3) (v := .pointer (some ⟨g, (off + k * 4), none⟩)) rfl (by kernel_rfl) (by kernel_rfl) (by kernel_rfl) (fun _ _ _ h => h) (Or.inl ⟨by rfl, fun w' hSw => by go_simp⟩) hHeld ?_
        try simp only [Act.put, List.getElem_toArray, List.getElem_cons_succ, List.getElem_cons_zero, List.setIfInBounds_toArray, List.set_cons_zero, List.set_cons_succ]
        refine wpAnyH_take (i := 4) (v := .pointer (some ⟨g, (off + k * 4 + 1), none⟩)) rfl (by kernel_rfl) (by kernel_rfl) (by kernel_rfl) (fun _ _ _ h => h) (Or.inl ⟨by rfl, fun w' hSw => by go_simp⟩) hHeld ?_
        try simp only [Act.put, List.getElem_toArray, List.getElem_cons_succ, List.getElem_cons_zero, List.setIfInBounds_toArray, List.set_cons_zero, List.set_cons_succ]
        refine wpAnyH_take (i := 5) (v := .int .i64 und) rfl (by kernel_rfl) (by kernel_rfl) (by kernel_rfl) (fun _ _ _ h => h) (Or.inl ⟨by rfl, fun w' hSw => by have hq := hSw; have hd := (HCl.out _ hq).2.1; go_simp⟩) hHeld ?_
        try simp only [Act.put, List.getElem_toArray, List.getElem_cons_succ, List.getElem_cons_zero, List.setIfInBounds_toArray, List.set_cons_zero, List.set_cons_succ]
        refine wpAnyH_take (i := 6) (v := .slice (some ⟨g, off, none⟩) n c) rfl (by kernel_rfl) (by kernel_rfl) (by kernel_rfl) (fun _ _ _ h => h) (Or.inl ⟨by rfl, fun w' hSw => by go_simp⟩) hHeld ?_
        try simp only [Act.put, List.getElem_toArray, List.getElem_cons_succ, List.getElem_cons_zero, List.setIfInBounds_toArray, List.set_cons_zero, List.set_cons_succ]
        refine wpAnyH_take (i := 7) (v := .int .i64 k) rfl (by kernel_rfl) (by kernel_rfl) (by kernel_rfl) (fun _ _ _ h => h) (Or.inl ⟨by rfl, fun w' hSw => by go_simp⟩) hHeld ?_
        try simp only [Act.put, List.getElem_toArray, List.getElem_cons_succ, List.getElem_cons_zero, List.setIfInBounds_toArray, List.set_cons_zero, List.set_cons_succ]
        refine wpAnyH_take (i := 8) (v := .pointer (some ⟨g, (off + k * 4), none⟩)) rfl (by kernel_rfl) (by kernel_rfl) (by kernel_rfl) (fun _ _ _ h => h) (Or.inl ⟨by rfl, fun w' hSw => by go_simp⟩) hHeld ?_
        try simp only [Act.put, List.getElem_toArray, List.getElem_cons_succ, List.getElem_cons_zero, List.setIfInBounds_toArray, List.set_cons_zero, List.set_cons_succ]
        refine wpAnyH_take (i := 9) (v := .pointer (some ⟨g, (off + k * 4 + 3), none⟩)) rfl (by kernel_rfl) (by kernel_rfl) (by kernel_rfl) (fun _ _ _ h => h) (Or.inl ⟨by rfl, fun w' hSw => by go_simp⟩) hHeld ?_
        try simp only [Act.put, List.getElem_toArray, List.getElem_cons_succ, List.getElem_cons_zero, List.setIfInBounds_toArray, List.set_cons_zero, List.set_cons_succ]
        refine wpAnyH_take (i := 10) (v := .slice Ax mx cx) rfl (by kernel_rfl) (by kernel_rfl) (by kernel_rfl) (fun _ _ _ h => h) (Or.inl ⟨by rfl, fun w' hSw => by have hq := hSw; have hd := (HCl.out _ hq).2.2.2; go_simp⟩) hHeld ?_
        try simp only [Act.put, List.getElem_toArray, List.getElem_cons_succ, List.getElem_cons_zero, List.setIfInBounds_toArray, List.set_cons_zero, List.set_cons_succ]
        refine wpAnyH_take (i := 12) (v := .slice (some ⟨g, off, none⟩) n c) rfl (by kernel_rfl) (by kernel_rfl) (by kernel_rfl) (fun _ _ _ h => h) (Or.inl ⟨by rfl, fun w' hSw => by go_simp⟩) hHeld ?_
        try simp only [Act.put, List.getElem_toArray, List.getElem_cons_succ, List.getElem_cons_zero, List.setIfInBounds_toArray, List.set_cons_zero, List.set_cons_succ]
        refine wpAnyH_take (i := 13) (v := .int .i64 k) rfl (by kernel_rfl) (by kernel_rfl) (by kernel_rfl) (fun _ _ _ h => h) (Or.inl ⟨by rfl, fun w' hSw => by go_simp⟩) hHeld ?_
        try simp only [Act.put, List.getElem_toArray, List.getElem_cons_succ, List.getElem_cons_zero, List.setIfInBounds_toArray, List.set_cons_zero, List.set_cons_succ]
        refine wpAnyH_take (i := 14) (v := .pointer (some ⟨g, (off + k * 4), none⟩)) rfl (by kernel_rfl) (by kernel_rfl) (by kernel_rfl) (fun _ _ _ h => h) (Or.inl ⟨by rfl, fun w' hSw => by go_simp⟩) hHeld ?_
        try simp only [Act.put, List.getElem_toArray, List.getElem_cons_succ, List.getElem_cons_zero, List.setIfInBounds_toArray, List.set_cons_zero, List.set_cons_succ]
        refine wpAnyH_take (i := 15) (v := .pointer (some ⟨g, (off + k * 4 + 2), none⟩)) rfl (by kernel_rfl) (by kernel_rfl) (by kernel_rfl) (fun _ _ _ h => h) (Or.inl ⟨by rfl, fun w' hSw => by go_simp⟩) hHeld ?_
        try simp only [Act.put, List.getElem_toArray, List.getElem_cons_succ, List.getElem_cons_zero, List.setIfInBounds_toArray, List.set_cons_zero, List.set_cons_succ]
        refine wpAnyH_take (i := 16) (v := .int .i64 sl) rfl (by kernel_rfl) (by kernel_rfl) (by kernel_rfl) (fun _ _ _ h => h) (Or.inl ⟨by rfl, fun w' hSw => by have hq := hSw; have hd := (HCl.out _ hq).2.2.1; go_simp⟩) hHeld ?_
        try simp only [Act.put, List.getElem_toArray, List.getElem_cons_succ, List.getElem_cons_zero, List.setIfInBounds_toArray, List.set_cons_zero, List.set_cons_succ]
        refine wpAnyH_ready (rs := [11]) (by kernel_rfl) (by simp) (AllReadyH.cons rfl (fun K1 hK1 => ?_) AllReadyH.nil)
        try simp only [Act.put, List.getElem_toArray, List.getElem_cons_succ, List.getElem_cons_zero, List.setIfInBounds_toArray, List.set_cons_zero, List.set_cons_succ]
        go_simp
        refine Calls.mono (HF2.out _ hHeld) ?_
        rintro e w2 ⟨rfl, rfl⟩
        refine hK1.out _ _ (hHeld) (fun hHeld => ?_)
        clear hK1 K1
        try simp only [Act.put, List.getElem_toArray, List.getElem_cons_succ, List.getElem_cons_zero, List.setIfInBounds_toArray, List.set_cons_zero, List.set_cons_succ]
        refine wpAnyH_ready (rs := [17]) (by kernel_rfl) (by simp) (AllReadyH.cons rfl (fun K1 hK1 => ?_) AllReadyH.nil)
        try simp only [Act.put, List.getElem_toArray, List.getElem_cons_succ, List.getElem_cons_zero, List.setIfInBounds_toArray, List.set_cons_zero, List.set_cons_succ]
        go_simp
        refine Calls.mono (HTu.out _ HSq.out) ?_
        rintro e w2 ⟨⟨v2, rfl⟩, hst2, hkp2⟩
        have HS2 := Lib.hid hst2
        have HK2 := Lib.hid ((Keep.of_below ((Below.refl wr.heap.size wr).drew)).trans (HQe.out ▸ hkp2))
        have hb2 := hst2.1
        clear hst2 hkp2
        refine hK1.out _ _ (hb2) (fun hHeld => ?_)
        clear hK1 K1
        try simp only [Act.put, List.getElem_toArray, List.getElem_cons_succ, List.getElem_cons_zero, List.setIfInBounds_toArray, List.set_cons_zero, List.set_cons_succ]
        refine wpAnyH_done (by kernel_rfl) ?_ _
        refine NoPanic.normal ?_
        clear hHeld
        go_wp2_with fail
        exact ⟨⟨k + 1, _, _, by omega, by go_num, HS2.out⟩, by simp [intOf]; omega⟩
    · have key : ∀ (Q : Prop), ((¬ k < n → Q) ∧ (k < n → ¬ k < 25 → Q)) → Q := fun Q h => by
        by_cases q : k < n
        · exact h.2 q (fun q2 => hkn ⟨q, q2⟩)
        · exact h.1 q
      clear hkn
      refine key _ ⟨fun q => ?_, fun q q2 => ?_⟩
      · have hki : (n : Int) ≤ (k : Int) := by omega
        clear q key
        go_wp2_with fail
        clear hki
        refine (heightS HSt.out).mono ?_
        rintro _ w3 ⟨rfl, rfl⟩
        go_wp2_with fail
        refine (uptoS HSt.out _).mono ?_
        rintro _ w4 ⟨⟨A1, c1, bs, rfl, hu1, hbs⟩, hb4⟩
        generalize wr = wo at *
        have hG := HSt.out.2.1
        have hLp := hG.pos
        have hL1 := hG.2.2
        rw [show ((L.length : Int) - 1 + 1).toNat = L.length by omega, List.take_length] at hbs
        have hbl : bs.length = L.length := by have := congrArg List.length hbs; simpa [bks] using this
        have HS4 : Hid (∀ W, Below w4.heap.size w4 W → StAt w W P D de L) := Lib.hid (fun W hW => (HSt.out.below hb4).below hW)
        obtain ⟨A2, c2, e1, hbv⟩ := hu1.form
        injection e1 with e1 _ e3
        subst e1
        subst e3
        obtain ⟨g1, o1, rfl, hg1, hat1⟩ := hbv.1 (fun e => by rw [e] at hbl; simp at hbl; omega)
        have hfit : ∀ x ∈ bs, x.Fits := fun x hx => (hu1.2 x hx).1
        have hbj : ∀ j (hj : j < bs.length) (hj2 : j < L.length), bs[j].b = L[j].b := fun j hj hj2 => by
          have := congrArg (fun l : List Bk => l[j]?) hbs
          simp only [bks, List.getElem?_map, List.getElem?_eq_getElem hj, List.getElem?_eq_getElem hj2, Option.map_some, Option.some.injEq] at this
          exact this
        have HBj := Lib.hid hbj
        have HFit := Lib.hid hfit
        have HBl := Lib.hid hbl
        have HB1 : Hid (∀ W, Below w4.heap.size w4 W → ∀ j (hj : j < bs.length), W.rangeAt g1 (o1 + j * 35) bs[j].cells ∧ BkItems W W.heap.size bs[j].A bs[j].b.items) := Lib.hid (fun W hW j hj => by
          obtain ⟨q1, q2, _⟩ := hat1 j hj
          exact ⟨range_below q1 hW hg1, (q2.below hW).mono hW.size⟩)
        have HQ : Hid (∀ j (hj : j < L.length), L[j].b.number = j ∧ Tr.hashE L[j].b = (L[j].hash, 0) ∧ L[j].hash.length = 32 ∧ ∀ (h : j + 1 < L.length), L[j + 1].b.parent = L[j].hash) := Lib.hid (fun j hj => by
          obtain ⟨q1, q2, q3⟩ := Tr.linked_at hj hG.1
          refine ⟨by omega, q2, ?_, q3⟩
          have := Tr.hashE_len L[j].b
          rw [q2] at this
          exact this)
        obtain ⟨m, hm⟩ : ∃ m, m = bs.length := ⟨_, rfl⟩
        rw [← hm]
        have HM := Lib.hid hm
        have HLm : Hid (L.length = m) := Lib.hid (by omega)
        have HB4 := Lib.hid (HSt.out.1)
        have Hb4 := Lib.hid (two_below' HSt.out.1 hb4)
        have hm1 : m ≤ 4097 := by omega
        have hm0 : 0 < m := by omega
        have hwm : IntKind.i64.wrap ((L.length : Int) - 1 + 1) = (m : Int) := by rw [IntWalk.i64_in _ (by omega)]; omega
        clear hu1 hbs hb4 hG hLp hL1 hbl hbv hg1 hat1 hfit hbj hm hk hn1
        go_wp2_with fail
        go_loopw [7] (fun i wr => ∃ j : Nat, j ≤ m ∧ i = .int .i64 j ∧ Below w4.heap.size w4 wr) (fun i _ => m - (intOf i).toNat)
        case atStart => exact ⟨0, Nat.zero_le _, rfl, Below.refl _ _⟩
        case round =>
          obtain ⟨j, hj, rfl, hB⟩ := hrel
          have HB := Lib.hid hB
          clear hB
          by_cases hjm : j < m
          · have hji : (j : Int) < (m : Int) := by omega
            have hjb : j < bs.length := by rw [← HM.out]; exact hjm
            have hjL : j < L.length := by rw [HLm.out]; exact hjm
            obtain ⟨hr, hits⟩ := HB1.out _ HB.out j hjb
            have hfj := HFit.out _ (List.getElem_mem hjb)
            have hbe := HBj.out j hjb hjL
            obtain ⟨qn, qh, q32, qp⟩ := HQ.out j hjL
            have HR := Lib.hid hr
            have HH : Hid (∀ W, Below wr.heap.size wr W → Calls Tryd.prog 30 #[.agg bs[j].cells.toArray] W fun e w' => e = .returned (hashV L[j].hash 0) ∧ Below W.heap.size W w') := Lib.hid (fun W hW => by
              have := hash11_any bs[j].b bs[j].A bs[j].cap hfj.1 W ((hits.below hW).mono hW.size) (HT.out.below (two_below' Hb4.out (two_below' HB.out hW)) HT.out.pos)
              rw [hbe, qh] at this
              rw [← hbe] at this
              exact this)
            have HC : Hid (∀ W, Below wr.heap.size wr W → Calls Tryd.prog 26 #[.pointer (some ⟨P, 0, none⟩), .int .i64 j] W fun e w' => e = .returned (hashV L[j].hash 0) ∧ Below W.heap.size W w') := Lib.hid (fun W hW => hashS (HS4.out _ (two_below' HB.out hW)) j hjL)
            unfold hashV at HH HC
            have HXL := Lib.hid (Bv.cells_len hfj)
            have HNum : Hid (∀ W, Below wr.heap.size wr W → W.cell? ⟨g1, o1 + j * 35, none⟩ = some (.int .i64 j)) := Lib.hid (fun W hW => by
              have := (HB1.out W (two_below' HB.out hW) j hjb).1 0 _ (Bk.cell0 _ _ _)
              rw [hbe, qn] at this
              exact this)
            have HPar : Hid (∀ j1, j1 = j + 1 → j1 < m → ∀ W, Below wr.heap.size wr W → W.rangeAt g1 (o1 + j1 * 35 + 2) (bRow L[j].hash).toList) := Lib.hid (fun j1 e h1 W hW => by
              subst e
              have hb1 : j + 1 < bs.length := by rw [← HM.out]; exact h1
              have hl1 : j + 1 < L.length := by rw [HLm.out]; exact h1
              have hr1 := (HB1.out W (two_below' HB.out hW) (j + 1) hb1).1
              have hp1 := qp hl1
              rw [← HBj.out _ hb1 hl1] at hp1
              rw [← hp1]
              intro t v hv
              rw [Nat.add_assoc]
              exact hr1 (2 + t) v (by
                unfold Bv.cells Bk.cells
                rw [List.getElem?_append_right (by simp), List.getElem?_append_left (by simpa using (List.getElem?_eq_some_iff.1 hv).1)]
                simpa using hv))
            have HH32 := Lib.hid (Tx.bRow_len _ q32)
            have HH1 := Lib.hid (hash_one _ q32)
            have heq : ∀ W : World, (Op.equalIn 10000 42 (.agg (bRow L[j].hash)) (.agg (bRow L[j].hash))).run Tryd.prog W = .ok true W := fun W => (hash_eq W _ _ q32 q32).trans (by simp)
            have HEq := Lib.hid heq
            generalize L[j].hash = hs at *
            generalize bs[j].cells = XC at *
            obtain ⟨j1, hj1⟩ : ∃ j1, j1 = j + 1 := ⟨_, rfl⟩
            have hwj : IntKind.i64.wrap ((j : Int) + 1) = (j1 : Int) := by rw [IntWalk.i64_in _ (by omega)]; omega
            have HJ1 := Lib.hid hj1
            clear hr hits hfj hbe qn qh q32 qp hj1
            go_wp2_with ((with_reducible show wpList _ _ _ (⟨_, .load 45 _, _, _, _, _⟩ :: _) _ _); refine wpList_load_tx rfl 45 (.tmp 86) rfl g1 (o1 + j * 35) rfl XC _ HR.out Tryd.underlying45 rfl (by rw [block_size, HXL.out]) ?_)
            refine (HH.out _ (Below.refl _ _)).mono ?_
            rintro _ w5 ⟨rfl, hb5⟩
            have HN5 := Lib.hid (Row.new w5 42 (bRow Tx.zero).toList)
            rw [Array.toArray_toList] at HN5
            have Hb5 := Lib.hid hb5
            clear hb5
            go_wp2_with (with_reducible show wpList _ _ _ (⟨_, .store 42 _ _, _, _, _, _⟩ :: _) _ _
                         refine wpList_store_at rfl 42 (.tmp 8) (.tmp 89) rfl w5.heap.size 0 (bRow hs).toList (bRow Tx.zero).toList _ rfl rfl HN5.out (by have := HZ32.out; have := HH32.out; omega) (by rw [hash_info, HH32.out]) HH1.out ?_
                         intro w6 hr6 hg6
                         rw [splice_all (HH32.out.trans HZ32.out.symm)] at hr6
                         have HR6 := Lib.hid hr6
                         have Hb6 := Lib.hid (two_below' Hb5.out (below_own ((Below.refl w5.heap.size w5).alloc (Nat.le_refl _) _) hg6 (fun k hk => by cases hk; exact Nat.le_refl _)))
                         clear hr6 hg6)
            refine (HC.out _ Hb6.out).mono ?_
            rintro _ w7 ⟨rfl, hb7⟩
            have HN7 := Lib.hid (Row.new w7 42 (bRow Tx.zero).toList)
            rw [Array.toArray_toList] at HN7
            have HR7 := Lib.hid (HR6.out.below hb7)
            have Hb7 := Lib.hid (two_below' Hb6.out hb7)
            clear hb7
            by_cases hjj : j1 < m
            · have hjji : (j1 : Int) < (m : Int) := by omega
              have d18 : decide ((j1 : Int) < (m : Int)) = true := by simpa using hjji
              go_wp2_with (first
              | (with_reducible show wpList _ _ _ (⟨_, .store 42 _ _, _, _, _, _⟩ :: _) _ _
                 refine wpList_store_at rfl 42 (.tmp 10) (.tmp 95) rfl w7.heap.size 0 (bRow hs).toList (bRow Tx.zero).toList _ rfl rfl HN7.out (by have := HZ32.out; have := HH32.out; omega) (by rw [hash_info, HH32.out]) HH1.out ?_
                 intro w8 hr8 hg8
                 rw [splice_all (HH32.out.trans HZ32.out.symm)] at hr8
                 have hb8 := below_own ((Below.refl w7.heap.size w7).alloc (Nat.le_refl _) (.cells (bRow Tx.zero) 42)) hg8 (fun k hk => by cases hk; exact Nat.le_refl _)
                 have HR8b := Lib.hid hr8
                 have HR8a := Lib.hid (HR7.out.below hb8)
                 have Hb8 := Lib.hid (two_below' Hb7.out hb8)
                 have hnum8 := HNum.out _ Hb8.out
                 clear hr8 hg8 hb8)
              | ((with_reducible show wpList _ _ _ (⟨_, .load 42 (.tmp 8), _, _, _, _⟩ :: _) _ _); refine wpList_load_tx rfl 42 (.tmp 8) rfl w5.heap.size 0 rfl (bRow hs).toList _ (row_range HR8a.out) Tryd.underlying42 rfl (by rw [hash_info, HH32.out]) ?_)
              | ((with_reducible show wpList _ _ _ (⟨_, .load 42 (.tmp 10), _, _, _, _⟩ :: _) _ _); refine wpList_load_tx rfl 42 (.tmp 10) rfl w7.heap.size 0 rfl (bRow hs).toList _ (row_range HR8b.out) Tryd.underlying42 rfl (by rw [hash_info, HH32.out]) ?_))
              have hu42 := Tryd.underlying42
              have hi42 : (Tryd.prog.info? 42).map (·.size) = some (bRow hs).toList.length := by rw [hash_info, HH32.out]
              clear hnum8 heq
              have heq : ∀ W : World, (Op.equalIn 10000 42 (.agg (bRow hs)) (.agg (bRow hs))).run Tryd.prog W = .ok true W := HEq.out
              refine wp_region_noPanic ?_
              refine wp_region_held_drew (S := fun w' => Below w8.heap.size w8 w') (by kernel_rfl) ((Below.refl _ _).drew) (fun hHeld => ?_)
              generalize w8.drew = wq at *
              refine wpAnyH_take (i := 0) (v := .int .i64 j) rfl (by kernel_rfl) (by kernel_rfl) (by kernel_rfl) (fun _ _ _ h => h) (Or.inl ⟨by rfl, fun w' hSw => by go_simp⟩) hHeld ?_
              try simp only [Act.put, List.getElem_toArray, List.getElem_cons_succ, List.getElem_cons_zero, List.setIfInBounds_toArray, List.set_cons_zero, List.set_cons_succ]
              refine wpAnyH_take (i := 1) (v := .int .i64 j1) rfl (by kernel_rfl) (by kernel_rfl) (by kernel_rfl) (fun _ _ _ h => h) (Or.inl ⟨by rfl, fun w' hSw => by go_simp⟩) hHeld ?_
              try simp only [Act.put, List.getElem_toArray, List.getElem_cons_succ, List.getElem_cons_zero, List.setIfInBounds_toArray, List.set_cons_zero, List.set_cons_succ]
              refine wpAnyH_take (i := 2) (v := .slice (some ⟨g1, o1, none⟩) m c1) rfl (by kernel_rfl) (by kernel_rfl) (by kernel_rfl) (fun _ _ _ h => h) (Or.inl ⟨by rfl, fun w' hSw => by go_simp⟩) hHeld ?_
              try simp only [Act.put, List.getElem_toArray, List.getElem_cons_succ, List.getElem_cons_zero, List.setIfInBounds_toArray, List.set_cons_zero, List.set_cons_succ]
              refine wpAnyH_take (i := 3) (v := .int .i64 m) rfl (by kernel_rfl) (by kernel_rfl) (by kernel_rfl) (fun _ _ _ h => h) (Or.inl ⟨by rfl, fun w' hSw => by go_simp⟩) hHeld ?_
              try simp only [Act.put, List.getElem_toArray, List.getElem_cons_succ, List.getElem_cons_zero, List.setIfInBounds_toArray, List.set_cons_zero, List.set_cons_succ]
              refine wpAnyH_take (i := 4) (v := .bool true) rfl (by kernel_rfl) (by kernel_rfl) (by kernel_rfl) (fun _ _ _ h => h) (Or.inl ⟨by rfl, fun w' hSw => by go_simp⟩) hHeld ?_
              try simp only [Act.put, List.getElem_toArray, List.getElem_cons_succ, List.getElem_cons_zero, List.setIfInBounds_toArray, List.set_cons_zero, List.set_cons_succ]
              refine wpAnyH_take (i := 5) (v := .bool true) rfl (by kernel_rfl) (by kernel_rfl) (by kernel_rfl) (fun _ _ _ h => h) (Or.inl ⟨by rfl, fun w' hSw => by go_simp⟩) hHeld ?_
              try simp only [Act.put, List.getElem_toArray, List.getElem_cons_succ, List.getElem_cons_zero, List.setIfInBounds_toArray, List.set_cons_zero, List.set_cons_succ]
              refine wpAnyH_take (i := 6) (v := .slice (some ⟨g1, o1, none⟩) m c1) rfl (by kernel_rfl) (by kernel_rfl) (by kernel_rfl) (fun _ _ _ h => h) (Or.inl ⟨by rfl, fun w' hSw => by go_simp⟩) hHeld ?_
              try simp only [Act.put, List.getElem_toArray, List.getElem_cons_succ, List.getElem_cons_zero, List.setIfInBounds_toArray, List.set_cons_zero, List.set_cons_succ]
              refine wpAnyH_take (i := 7) (v := .int .i64 j) rfl (by kernel_rfl) (by kernel_rfl) (by kernel_rfl) (fun _ _ _ h => h) (Or.inl ⟨by rfl, fun w' hSw => by go_simp⟩) hHeld ?_
              try simp only [Act.put, List.getElem_toArray, List.getElem_cons_succ, List.getElem_cons_zero, List.setIfInBounds_toArray, List.set_cons_zero, List.set_cons_succ]
              refine wpAnyH_take (i := 8) (v := .int .i64 j1) rfl (by kernel_rfl) (by kernel_rfl) (by kernel_rfl) (fun _ _ _ h => h) (Or.inl ⟨by rfl, fun w' hSw => by go_simp⟩) hHeld ?_
              try simp only [Act.put, List.getElem_toArray, List.getElem_cons_succ, List.getElem_cons_zero, List.setIfInBounds_toArray, List.set_cons_zero, List.set_cons_succ]
              refine wpAnyH_take (i := 9) (v := .pointer (some ⟨g1, (o1 + j1 * 35), none⟩)) rfl (by kernel_rfl) (by kernel_rfl) (by kernel_rfl) (fun _ _ _ h => h) (Or.inl ⟨by rfl, fun w' hSw => by go_simp⟩) hHeld ?_
              try simp only [Act.put, List.getElem_toArray, List.getElem_cons_succ, List.getElem_cons_zero, List.setIfInBounds_toArray, List.set_cons_zero, List.set_cons_succ]
              refine wpAnyH_take (i := 10) (v := .pointer (some ⟨g1, (o1 + j1 * 35 + 2), none⟩)) rfl (by kernel_rfl) (by kernel_rfl) (by kernel_rfl) (fun _ _ _ h => h) (Or.inl ⟨by rfl, fun w' hSw => by go_simp⟩) hHeld ?_
              try simp only [Act.put, List.getElem_toArray, List.getElem_cons_succ, List.getElem_cons_zero, List.setIfInBounds_toArray, List.set_cons_zero, List.set_cons_succ]
              refine' wpAnyH_take (i := 11) (v := _) rfl (by kernel_rfl) (by kernel_rfl) (by kernel_rfl) (fun _ _ _ h => h) (yieldsIf_load_mid (by rfl) _ _ rfl g1 (o1 + j1 * 35 + 2) rfl (bRow hs).toList _ (fun w' hSw => HPar.out j1 HJ1.out hjj _ (two_below' Hb8.out hSw)) hu42 rfl hi42) hHeld ?_
              try simp only [Act.put, List.getElem_toArray, List.getElem_cons_succ, List.getElem_cons_zero, List.setIfInBounds_toArray, List.set_cons_zero, List.set_cons_succ]
              refine' wpAnyH_take (i := 12) (v := _) rfl (by kernel_rfl) (by kernel_rfl) (by kernel_rfl) (fun _ _ _ h => h) (yieldsIf_load_mid (by rfl) _ _ rfl w5.heap.size 0 rfl (bRow hs).toList _ (fun w' hSw => row_range (HR8a.out.below hSw)) hu42 rfl hi42) hHeld ?_
              try simp only [Act.put, List.getElem_toArray, List.getElem_cons_succ, List.getElem_cons_zero, List.setIfInBounds_toArray, List.set_cons_zero, List.set_cons_succ]
              refine wpAnyH_take (i := 13) (v := .bool false) rfl (by kernel_rfl) (by kernel_rfl) (by kernel_rfl) (fun _ _ _ h => h) (Or.inl ⟨by rfl, fun w' hSw => by go_simp⟩) hHeld ?_
              try simp only [Act.put, List.getElem_toArray, List.getElem_cons_succ, List.getElem_cons_zero, List.setIfInBounds_toArray, List.set_cons_zero, List.set_cons_succ]
              refine wpAnyH_take (i := 14) (v := .bool false) rfl (by kernel_rfl) (by kernel_rfl) (by kernel_rfl) (fun _ _ _ h => h) (Or.inl ⟨by rfl, fun w' hSw => by go_simp⟩) hHeld ?_
              try simp only [Act.put, List.getElem_toArray, List.getElem_cons_succ, List.getElem_cons_zero, List.setIfInBounds_toArray, List.set_cons_zero, List.set_cons_succ]
              refine wpAnyH_done (by kernel_rfl) ?_ _
              refine NoPanic.normal ?_
              have HRe := Lib.hid (two_below' HB.out (two_below' Hb8.out hHeld))
              clear hHeld
              go_wp2_with fail
              exact ⟨⟨j + 1, hjm, by rw [← HJ1.out], HRe.out⟩, by have := HJ1.out; simp [intOf]; omega⟩
            · have hjji : (m : Int) ≤ (j1 : Int) := by omega
              have d18 : decide ((j1 : Int) < (m : Int)) = false := by simp; omega
              go_wp2_with (first
              | (with_reducible show wpList _ _ _ (⟨_, .store 42 _ _, _, _, _, _⟩ :: _) _ _
                 refine wpList_store_at rfl 42 (.tmp 10) (.tmp 95) rfl w7.heap.size 0 (bRow hs).toList (bRow Tx.zero).toList _ rfl rfl HN7.out (by have := HZ32.out; have := HH32.out; omega) (by rw [hash_info, HH32.out]) HH1.out ?_
                 intro w8 hr8 hg8
                 rw [splice_all (HH32.out.trans HZ32.out.symm)] at hr8
                 have hb8 := below_own ((Below.refl w7.heap.size w7).alloc (Nat.le_refl _) (.cells (bRow Tx.zero) 42)) hg8 (fun k hk => by cases hk; exact Nat.le_refl _)
                 have HR8b := Lib.hid hr8
                 have HR8a := Lib.hid (HR7.out.below hb8)
                 have Hb8 := Lib.hid (two_below' Hb7.out hb8)
                 have hnum8 := HNum.out _ Hb8.out
                 clear hr8 hg8 hb8)
              | ((with_reducible show wpList _ _ _ (⟨_, .load 42 (.tmp 8), _, _, _, _⟩ :: _) _ _); refine wpList_load_tx rfl 42 (.tmp 8) rfl w5.heap.size 0 rfl (bRow hs).toList _ (row_range HR8a.out) Tryd.underlying42 rfl (by rw [hash_info, HH32.out]) ?_)
              | ((with_reducible show wpList _ _ _ (⟨_, .load 42 (.tmp 10), _, _, _, _⟩ :: _) _ _); refine wpList_load_tx rfl 42 (.tmp 10) rfl w7.heap.size 0 rfl (bRow hs).toList _ (row_range HR8b.out) Tryd.underlying42 rfl (by rw [hash_info, HH32.out]) ?_))
              go_quiet (fail)
              go_wp2_with fail
              exact ⟨⟨j + 1, hjm, by rw [← HJ1.out], two_below' HB.out (below_drewN' Hb8.out _)⟩, by have := HJ1.out; simp [intOf]; omega⟩
          · have hji : (m : Int) ≤ (j : Int) := by omega
            go_wp2_with fail
            have HHt := Lib.hid (heightS (HS4.out _ HB.out))
            rw [HLm.out] at HHt
            refine HHt.out.mono ?_
            rintro _ w5 ⟨rfl, rfl⟩
            have hwm2 : wrap64 (m : Int) = (m : Int) := IntWalk.wrap64_in _ (by omega)
            go_wp2_with fail
            go_ret
            exact ⟨rfl, two_below' Hb4.out HB.out⟩
      · have hki : (k : Int) < (n : Int) := by omega
        have hk5 : (25 : Int) ≤ (k : Int) := by omega
        clear q q2 key
        go_wp2_with fail
        clear hki hk5
        refine (heightS HSt.out).mono ?_
        rintro _ w3 ⟨rfl, rfl⟩
        go_wp2_with fail
        refine (uptoS HSt.out _).mono ?_
        rintro _ w4 ⟨⟨A1, c1, bs, rfl, hu1, hbs⟩, hb4⟩
        generalize wr = wo at *
        have hG := HSt.out.2.1
        have hLp := hG.pos
        have hL1 := hG.2.2
        rw [show ((L.length : Int) - 1 + 1).toNat = L.length by omega, List.take_length] at hbs
        have hbl : bs.length = L.length := by have := congrArg List.length hbs; simpa [bks] using this
        have HS4 : Hid (∀ W, Below w4.heap.size w4 W → StAt w W P D de L) := Lib.hid (fun W hW => (HSt.out.below hb4).below hW)
        obtain ⟨A2, c2, e1, hbv⟩ := hu1.form
        injection e1 with e1 _ e3
        subst e1
        subst e3
        obtain ⟨g1, o1, rfl, hg1, hat1⟩ := hbv.1 (fun e => by rw [e] at hbl; simp at hbl; omega)
        have hfit : ∀ x ∈ bs, x.Fits := fun x hx => (hu1.2 x hx).1
        have hbj : ∀ j (hj : j < bs.length) (hj2 : j < L.length), bs[j].b = L[j].b := fun j hj hj2 => by
          have := congrArg (fun l : List Bk => l[j]?) hbs
          simp only [bks, List.getElem?_map, List.getElem?_eq_getElem hj, List.getElem?_eq_getElem hj2, Option.map_some, Option.some.injEq] at this
          exact this
        have HBj := Lib.hid hbj
        have HFit := Lib.hid hfit
        have HBl := Lib.hid hbl
        have HB1 : Hid (∀ W, Below w4.heap.size w4 W → ∀ j (hj : j < bs.length), W.rangeAt g1 (o1 + j * 35) bs[j].cells ∧ BkItems W W.heap.size bs[j].A bs[j].b.items) := Lib.hid (fun W hW j hj => by
          obtain ⟨q1, q2, _⟩ := hat1 j hj
          exact ⟨range_below q1 hW hg1, (q2.below hW).mono hW.size⟩)
        have HQ : Hid (∀ j (hj : j < L.length), L[j].b.number = j ∧ Tr.hashE L[j].b = (L[j].hash, 0) ∧ L[j].hash.length = 32 ∧ ∀ (h : j + 1 < L.length), L[j + 1].b.parent = L[j].hash) := Lib.hid (fun j hj => by
          obtain ⟨q1, q2, q3⟩ := Tr.linked_at hj hG.1
          refine ⟨by omega, q2, ?_, q3⟩
          have := Tr.hashE_len L[j].b
          rw [q2] at this
          exact this)
        obtain ⟨m, hm⟩ : ∃ m, m = bs.length := ⟨_, rfl⟩
        rw [← hm]
        have HM := Lib.hid hm
        have HLm : Hid (L.length = m) := Lib.hid (by omega)
        have HB4 := Lib.hid (HSt.out.1)
        have Hb4 := Lib.hid (two_below' HSt.out.1 hb4)
        have hm1 : m ≤ 4097 := by omega
        have hm0 : 0 < m := by omega
        have hwm : IntKind.i64.wrap ((L.length : Int) - 1 + 1) = (m : Int) := by rw [IntWalk.i64_in _ (by omega)]; omega
        clear hu1 hbs hb4 hG hLp hL1 hbl hbv hg1 hat1 hfit hbj hm hk hn1
        go_wp2_with fail
        go_loopw [7] (fun i wr => ∃ j : Nat, j ≤ m ∧ i = .int .i64 j ∧ Below w4.heap.size w4 wr) (fun i _ => m - (intOf i).toNat)
        case atStart => exact ⟨0, Nat.zero_le _, rfl, Below.refl _ _⟩
        case round =>
          obtain ⟨j, hj, rfl, hB⟩ := hrel
          have HB := Lib.hid hB
          clear hB
          by_cases hjm : j < m
          · have hji : (j : Int) < (m : Int) := by omega
            have hjb : j < bs.length := by rw [← HM.out]; exact hjm
            have hjL : j < L.length := by rw [HLm.out]; exact hjm
            obtain ⟨hr, hits⟩ := HB1.out _ HB.out j hjb
            have hfj := HFit.out _ (List.getElem_mem hjb)
            have hbe := HBj.out j hjb hjL
            obtain ⟨qn, qh, q32, qp⟩ := HQ.out j hjL
            have HR := Lib.hid hr
            have HH : Hid (∀ W, Below wr.heap.size wr W → Calls Tryd.prog 30 #[.agg bs[j].cells.toArray] W fun e w' => e = .returned (hashV L[j].hash 0) ∧ Below W.heap.size W w') := Lib.hid (fun W hW => by
              have := hash11_any bs[j].b bs[j].A bs[j].cap hfj.1 W ((hits.below hW).mono hW.size) (HT.out.below (two_below' Hb4.out (two_below' HB.out hW)) HT.out.pos)
              rw [hbe, qh] at this
              rw [← hbe] at this
              exact this)
            have HC : Hid (∀ W, Below wr.heap.size wr W → Calls Tryd.prog 26 #[.pointer (some ⟨P, 0, none⟩), .int .i64 j] W fun e w' => e = .returned (hashV L[j].hash 0) ∧ Below W.heap.size W w') := Lib.hid (fun W hW => hashS (HS4.out _ (two_below' HB.out hW)) j hjL)
            unfold hashV at HH HC
            have HXL := Lib.hid (Bv.cells_len hfj)
            have HNum : Hid (∀ W, Below wr.heap.size wr W → W.cell? ⟨g1, o1 + j * 35, none⟩ = some (.int .i64 j)) := Lib.hid (fun W hW => by
              have := (HB1.out W (two_below' HB.out hW) j hjb).1 0 _ (Bk.cell0 _ _ _)
              rw [hbe, qn] at this
              exact this)
            have HPar : Hid (∀ j1, j1 = j + 1 → j1 < m → ∀ W, Below wr.heap.size wr W → W.rangeAt g1 (o1 + j1 * 35 + 2) (bRow L[j].hash).toList) := Lib.hid (fun j1 e h1 W hW => by
              subst e
              have hb1 : j + 1 < bs.length := by rw [← HM.out]; exact h1
              have hl1 : j + 1 < L.length := by rw [HLm.out]; exact h1
              have hr1 := (HB1.out W (two_below' HB.out hW) (j + 1) hb1).1
              have hp1 := qp hl1
              rw [← HBj.out _ hb1 hl1] at hp1
              rw [← hp1]
              intro t v hv
              rw [Nat.add_assoc]
              exact hr1 (2 + t) v (by
                unfold Bv.cells Bk.cells
                rw [List.getElem?_append_right (by simp), List.getElem?_append_left (by simpa using (List.getElem?_eq_some_iff.1 hv).1)]
                simpa using hv))
            have HH32 := Lib.hid (Tx.bRow_len _ q32)
            have HH1 := Lib.hid (hash_one _ q32)
            have heq : ∀ W : World, (Op.equalIn 10000 42 (.agg (bRow L[j].hash)) (.agg (bRow L[j].hash))).run Tryd.prog W = .ok true W := fun W => (hash_eq W _ _ q32 q32).trans (by simp)
            have HEq := Lib.hid heq
            generalize L[j].hash = hs at *
            generalize bs[j].cells = XC at *
            obtain ⟨j1, hj1⟩ : ∃ j1, j1 = j + 1 := ⟨_, rfl⟩
            have hwj : IntKind.i64.wrap ((j : Int) + 1) = (j1 : Int) := by rw [IntWalk.i64_in _ (by omega)]; omega
            have HJ1 := Lib.hid hj1
            clear hr hits hfj hbe qn qh q32 qp hj1
            go_wp2_with ((with_reducible show wpList _ _ _ (⟨_, .load 45 _, _, _, _, _⟩ :: _) _ _); refine wpList_load_tx rfl 45 (.tmp 86) rfl g1 (o1 + j * 35) rfl XC _ HR.out Tryd.underlying45 rfl (by rw [block_size, HXL.out]) ?_)
            refine (HH.out _ (Below.refl _ _)).mono ?_
            rintro _ w5 ⟨rfl, hb5⟩
            have HN5 := Lib.hid (Row.new w5 42 (bRow Tx.zero).toList)
            rw [Array.toArray_toList] at HN5
            have Hb5 := Lib.hid hb5
            clear hb5
            go_wp2_with (with_reducible show wpList _ _ _ (⟨_, .store 42 _ _, _, _, _, _⟩ :: _) _ _
                         refine wpList_store_at rfl 42 (.tmp 8) (.tmp 89) rfl w5.heap.size 0 (bRow hs).toList (bRow Tx.zero).toList _ rfl rfl HN5.out (by have := HZ32.out; have := HH32.out; omega) (by rw [hash_info, HH32.out]) HH1.out ?_
                         intro w6 hr6 hg6
                         rw [splice_all (HH32.out.trans HZ32.out.symm)] at hr6
                         have HR6 := Lib.hid hr6
                         have Hb6 := Lib.hid (two_below' Hb5.out (below_own ((Below.refl w5.heap.size w5).alloc (Nat.le_refl _) _) hg6 (fun k hk => by cases hk; exact Nat.le_refl _)))
                         clear hr6 hg6)
            refine (HC.out _ Hb6.out).mono ?_
            rintro _ w7 ⟨rfl, hb7⟩
            have HN7 := Lib.hid (Row.new w7 42 (bRow Tx.zero).toList)
            rw [Array.toArray_toList] at HN7
            have HR7 := Lib.hid (HR6.out.below hb7)
            have Hb7 := Lib.hid (two_below' Hb6.out hb7)
            clear hb7
            by_cases hjj : j1 < m
            · have hjji : (j1 : Int) < (m : Int) := by omega
              have d18 : decide ((j1 : Int) < (m : Int)) = true := by simpa using hjji
              go_wp2_with (first
              | (with_reducible show wpList _ _ _ (⟨_, .store 42 _ _, _, _, _, _⟩ :: _) _ _
                 refine wpList_store_at rfl 42 (.tmp 10) (.tmp 95) rfl w7.heap.size 0 (bRow hs).toList (bRow Tx.zero).toList _ rfl rfl HN7.out (by have := HZ32.out; have := HH32.out; omega) (by rw [hash_info, HH32.out]) HH1.out ?_
                 intro w8 hr8 hg8
                 rw [splice_all (HH32.out.trans HZ32.out.symm)] at hr8
                 have hb8 := below_own ((Below.refl w7.heap.size w7).alloc (Nat.le_refl _) (.cells (bRow Tx.zero) 42)) hg8 (fun k hk => by cases hk; exact Nat.le_refl _)
                 have HR8b := Lib.hid hr8
                 have HR8a := Lib.hid (HR7.out.below hb8)
                 have Hb8 := Lib.hid (two_below' Hb7.out hb8)
                 have hnum8 := HNum.out _ Hb8.out
                 clear hr8 hg8 hb8)
              | ((with_reducible show wpList _ _ _ (⟨_, .load 42 (.tmp 8), _, _, _, _⟩ :: _) _ _); refine wpList_load_tx rfl 42 (.tmp 8) rfl w5.heap.size 0 rfl (bRow hs).toList _ (row_range HR8a.out) Tryd.underlying42 rfl (by rw [hash_info, HH32.out]) ?_)
              | ((with_reducible show wpList _ _ _ (⟨_, .load 42 (.tmp 10), _, _, _, _⟩ :: _) _ _); refine wpList_load_tx rfl 42 (.tmp 10) rfl w7.heap.size 0 rfl (bRow hs).toList _ (row_range HR8b.out) Tryd.underlying42 rfl (by rw [hash_info, HH32.out]) ?_))
              have hu42 := Tryd.underlying42
              have hi42 : (Tryd.prog.info? 42).map (·.size) = some (bRow hs).toList.length := by rw [hash_info, HH32.out]
              clear hnum8 heq
              have heq : ∀ W : World, (Op.equalIn 10000 42 (.agg (bRow hs)) (.agg (bRow hs))).run Tryd.prog W = .ok true W := HEq.out
              refine wp_region_noPanic ?_
              refine wp_region_held_drew (S := fun w' => Below w8.heap.size w8 w') (by kernel_rfl) ((Below.refl _ _).drew) (fun hHeld => ?_)
              generalize w8.drew = wq at *
              refine wpAnyH_take (i := 0) (v := .int .i64 j) rfl (by kernel_rfl) (by kernel_rfl) (by kernel_rfl) (fun _ _ _ h => h) (Or.inl ⟨by rfl, fun w' hSw => by go_simp⟩) hHeld ?_
              try simp only [Act.put, List.getElem_toArray, List.getElem_cons_succ, List.getElem_cons_zero, List.setIfInBounds_toArray, List.set_cons_zero, List.set_cons_succ]
              refine wpAnyH_take (i := 1) (v := .int .i64 j1) rfl (by kernel_rfl) (by kernel_rfl) (by kernel_rfl) (fun _ _ _ h => h) (Or.inl ⟨by rfl, fun w' hSw => by go_simp⟩) hHeld ?_
              try simp only [Act.put, List.getElem_toArray, List.getElem_cons_succ, List.getElem_cons_zero, List.setIfInBounds_toArray, List.set_cons_zero, List.set_cons_succ]
              refine wpAnyH_take (i := 2) (v := .slice (some ⟨g1, o1, none⟩) m c1) rfl (by kernel_rfl) (by kernel_rfl) (by kernel_rfl) (fun _ _ _ h => h) (Or.inl ⟨by rfl, fun w' hSw => by go_simp⟩) hHeld ?_
              try simp only [Act.put, List.getElem_toArray, List.getElem_cons_succ, List.getElem_cons_zero, List.setIfInBounds_toArray, List.set_cons_zero, List.set_cons_succ]
              refine wpAnyH_take (i := 3) (v := .int .i64 m) rfl (by kernel_rfl) (by kernel_rfl) (by kernel_rfl) (fun _ _ _ h => h) (Or.inl ⟨by rfl, fun w' hSw => by go_simp⟩) hHeld ?_
              try simp only [Act.put, List.getElem_toArray, List.getElem_cons_succ, List.getElem_cons_zero, List.setIfInBounds_toArray, List.set_cons_zero, List.set_cons_succ]
              refine wpAnyH_take (i := 4) (v := .bool true) rfl (by kernel_rfl) (by kernel_rfl) (by kernel_rfl) (fun _ _ _ h => h) (Or.inl ⟨by rfl, fun w' hSw => by go_simp⟩) hHeld ?_
              try simp only [Act.put, List.getElem_toArray, List.getElem_cons_succ, List.getElem_cons_zero, List.setIfInBounds_toArray, List.set_cons_zero, List.set_cons_succ]
              refine wpAnyH_take (i := 5) (v := .bool true) rfl (by kernel_rfl) (by kernel_rfl) (by kernel_rfl) (fun _ _ _ h => h) (Or.inl ⟨by rfl, fun w' hSw => by go_simp⟩) hHeld ?_
              try simp only [Act.put, List.getElem_toArray, List.getElem_cons_succ, List.getElem_cons_zero, List.setIfInBounds_toArray, List.set_cons_zero, List.set_cons_succ]
              refine wpAnyH_take (i := 6) (v := .slice (some ⟨g1, o1, none⟩) m c1) rfl (by kernel_rfl) (by kernel_rfl) (by kernel_rfl) (fun _ _ _ h => h) (Or.inl ⟨by rfl, fun w' hSw => by go_simp⟩) hHeld ?_
              try simp only [Act.put, List.getElem_toArray, List.getElem_cons_succ, List.getElem_cons_zero, List.setIfInBounds_toArray, List.set_cons_zero, List.set_cons_succ]
              refine wpAnyH_take (i := 7) (v := .int .i64 j) rfl (by kernel_rfl) (by kernel_rfl) (by kernel_rfl) (fun _ _ _ h => h) (Or.inl ⟨by rfl, fun w' hSw => by go_simp⟩) hHeld ?_
              try simp only [Act.put, List.getElem_toArray, List.getElem_cons_succ, List.getElem_cons_zero, List.setIfInBounds_toArray, List.set_cons_zero, List.set_cons_succ]
              refine wpAnyH_take (i := 8) (v := .int .i64 j1) rfl (by kernel_rfl) (by kernel_rfl) (by kernel_rfl) (fun _ _ _ h => h) (Or.inl ⟨by rfl, fun w' hSw => by go_simp⟩) hHeld ?_
              try simp only [Act.put, List.getElem_toArray, List.getElem_cons_succ, List.getElem_cons_zero, List.setIfInBounds_toArray, List.set_cons_zero, List.set_cons_succ]
              refine wpAnyH_take (i := 9) (v := .pointer (some ⟨g1, (o1 + j1 * 35), none⟩)) rfl (by kernel_rfl) (by kernel_rfl) (by kernel_rfl) (fun _ _ _ h => h) (Or.inl ⟨by rfl, fun w' hSw => by go_simp⟩) hHeld ?_
              try simp only [Act.put, List.getElem_toArray, List.getElem_cons_succ, List.getElem_cons_zero, List.setIfInBounds_toArray, List.set_cons_zero, List.set_cons_succ]
              refine wpAnyH_take (i := 10) (v := .pointer (some ⟨g1, (o1 + j1 * 35 + 2), none⟩)) rfl (by kernel_rfl) (by kernel_rfl) (by kernel_rfl) (fun _ _ _ h => h) (Or.inl ⟨by rfl, fun w' hSw => by go_simp⟩) hHeld ?_
              try simp only [Act.put, List.getElem_toArray, List.getElem_cons_succ, List.getElem_cons_zero, List.setIfInBounds_toArray, List.set_cons_zero, List.set_cons_succ]
              refine' wpAnyH_take (i := 11) (v := _) rfl (by kernel_rfl) (by kernel_rfl) (by kernel_rfl) (fun _ _ _ h => h) (yieldsIf_load_mid (by rfl) _ _ rfl g1 (o1 + j1 * 35 + 2) rfl (bRow hs).toList _ (fun w' hSw => HPar.out j1 HJ1.out hjj _ (two_below' Hb8.out hSw)) hu42 rfl hi42) hHeld ?_
              try simp only [Act.put, List.getElem_toArray, List.getElem_cons_succ, List.getElem_cons_zero, List.setIfInBounds_toArray, List.set_cons_zero, List.set_cons_succ]
              refine' wpAnyH_take (i := 12) (v := _) rfl (by kernel_rfl) (by kernel_rfl) (by kernel_rfl) (fun _ _ _ h => h) (yieldsIf_load_mid (by rfl) _ _ rfl w5.heap.size 0 rfl (bRow hs).toList _ (fun w' hSw => row_range (HR8a.out.below hSw)) hu42 rfl hi42) hHeld ?_
              try simp only [Act.put, List.getElem_toArray, List.getElem_cons_succ, List.getElem_cons_zero, List.setIfInBounds_toArray, List.set_cons_zero, List.set_cons_succ]
              refine wpAnyH_take (i := 13) (v := .bool false) rfl (by kernel_rfl) (by kernel_rfl) (by kernel_rfl) (fun _ _ _ h => h) (Or.inl ⟨by rfl, fun w' hSw => by go_simp⟩) hHeld ?_
              try simp only [Act.put, List.getElem_toArray, List.getElem_cons_succ, List.getElem_cons_zero, List.setIfInBounds_toArray, List.set_cons_zero, List.set_cons_succ]
              refine wpAnyH_take (i := 14) (v := .bool false) rfl (by kernel_rfl) (by kernel_rfl) (by kernel_rfl) (fun _ _ _ h => h) (Or.inl ⟨by rfl, fun w' hSw => by go_simp⟩) hHeld ?_
              try simp only [Act.put, List.getElem_toArray, List.getElem_cons_succ, List.getElem_cons_zero, List.setIfInBounds_toArray, List.set_cons_zero, List.set_cons_succ]
              refine wpAnyH_done (by kernel_rfl) ?_ _
              refine NoPanic.normal ?_
              have HRe := Lib.hid (two_below' HB.out (two_below' Hb8.out hHeld))
              clear hHeld
              go_wp2_with fail
              exact ⟨⟨j + 1, hjm, by rw [← HJ1.out], HRe.out⟩, by have := HJ1.out; simp [intOf]; omega⟩
            · have hjji : (m : Int) ≤ (j1 : Int) := by omega
              have d18 : decide ((j1 : Int) < (m : Int)) = false := by simp; omega
              go_wp2_with (first
              | (with_reducible show wpList _ _ _ (⟨_, .store 42 _ _, _, _, _, _⟩ :: _) _ _
                 refine wpList_store_at rfl 42 (.tmp 10) (.tmp 95) rfl w7.heap.size 0 (bRow hs).toList (bRow Tx.zero).toList _ rfl rfl HN7.out (by have := HZ32.out; have := HH32.out; omega) (by rw [hash_info, HH32.out]) HH1.out ?_
                 intro w8 hr8 hg8
                 rw [splice_all (HH32.out.trans HZ32.out.symm)] at hr8
                 have hb8 := below_own ((Below.refl w7.heap.size w7).alloc (Nat.le_refl _) (.cells (bRow Tx.zero) 42)) hg8 (fun k hk => by cases hk; exact Nat.le_refl _)
                 have HR8b := Lib.hid hr8
                 have HR8a := Lib.hid (HR7.out.below hb8)
                 have Hb8 := Lib.hid (two_below' Hb7.out hb8)
                 have hnum8 := HNum.out _ Hb8.out
                 clear hr8 hg8 hb8)
              | ((with_reducible show wpList _ _ _ (⟨_, .load 42 (.tmp 8), _, _, _, _⟩ :: _) _ _); refine wpList_load_tx rfl 42 (.tmp 8) rfl w5.heap.size 0 rfl (bRow hs).toList _ (row_range HR8a.out) Tryd.underlying42 rfl (by rw [hash_info, HH32.out]) ?_)
              | ((with_reducible show wpList _ _ _ (⟨_, .load 42 (.tmp 10), _, _, _, _⟩ :: _) _ _); refine wpList_load_tx rfl 42 (.tmp 10) rfl w7.heap.size 0 rfl (bRow hs).toList _ (row_range HR8b.out) Tryd.underlying42 rfl (by rw [hash_info, HH32.out]) ?_))
              go_quiet (fail)
              go_wp2_with fail
              exact ⟨⟨j + 1, hjm, by rw [← HJ1.out], two_below' HB.out (below_drewN' Hb8.out _)⟩, by have := HJ1.out; simp [intOf]; omega⟩
          · have hji : (m : Int) ≤ (j : Int) := by omega
            go_wp2_with fail
            have HHt := Lib.hid (heightS (HS4.out _ HB.out))
            rw [HLm.out] at HHt
            refine HHt.out.mono ?_
            rintro _ w5 ⟨rfl, rfl⟩
            have hwm2 : wrap64 (m : Int) = (m : Int) := IntWalk.wrap64_in _ (by omega)
            go_wp2_with fail
            go_ret
            exact ⟨rfl, two_below' Hb4.out HB.out⟩
end Go.Proofs.YtjeooegkfjlejaaDoor
