/- TreeFinal: the law's walk. -/
import Derived.Test.YtjeooegkfjlejaaDoorTrSt
import Derived.Test.YtjeooegkfjlejaaDoorTrAwk
namespace Go.Proofs.YtjeooegkfjlejaaDoor
open Go.RowKit
set_option linter.unusedVariables false
set_option linter.unusedSimpArgs false

namespace Tr
/-- the last final block's number -/
def fl (L : List Lk) (d : Nat) : Nat := L.length - 1 - d
theorem mine_keeps {L : List Lk} (items : List It) (salt : Int) {d q : Nat} (hp : 0 < L.length) (hq : q ≤ fl L d + 1) : (mineL L items salt).take q = L.take q ∧ q ≤ fl (mineL L items salt) d + 1 := by
  have h := mineL_len L items salt
  unfold fl at hq ⊢
  exact ⟨mineL_take (by omega), by omega⟩
theorem turn_keeps {L : List Lk} (under : Int) (bs : List (List It)) (salt : Int) {d q : Nat} (hu : under ≤ d) (hp : 0 < L.length) (hq : q ≤ fl L d + 1) : (turnL L under bs salt).take q = L.take q ∧ q ≤ fl (turnL L under bs salt) d + 1 := by
  have h := turnL_ge L under bs salt
  unfold fl at hq ⊢
  refine ⟨?_, by omega⟩
  by_cases hc : turnC L under bs salt = 0
  · refine turnL_take ?_
    have := stay_pos (turnC_zero hc).1
    have := tcode_zero (turnC_zero hc).1
    omega
  · unfold turnL
    rw [if_neg hc]
theorem turnD_le {L : List Lk} {under : Int} (bs : List (List It)) (salt : Int) {de d : Int} (hu : under ≤ d) (h : de ≤ d) : turnD de L under bs salt ≤ d := by
  unfold turnD
  split
  · exact Int.max_le.2 ⟨h, hu⟩
  · exact h
end Tr
theorem sliceBlocks (A : Option Addr) (n k cp : Nat) (hc : k ≤ cp) (W : World) : (Instr.slice 36 (.slice A n cp) none (some (.int .i64 k)) none).run Tryd.prog W = .ok (.slice A k cp) W := by
  have hz : (sizeOf (Tryd.prog.elem 36)).run Tryd.prog W = .ok 35 W := by kernel_rfl
  have e := run_slice_h (P := Tryd.prog) (w := W) (t := 36) (a := A) (len := n) (cap := cp) (by kernel_rfl) (kh := .i64) (h := (k : Int)) (by omega) (by omega)
  rw [hz] at e
  simp only [Result.andThen, Int.toNat_natCast] at e
  rw [e]
  unfold sliced
  have e2 : A.map (fun x => x.add (0 * 35)) = A := by
    cases A with
    | none => rfl
    | some a => simp [Addr.add]
  rw [e2]
  simp
theorem BvIn.mono2 {w : World} {B B' : Nat} {A : Option Addr} {c : Nat} {l : List Bv} (h : BvIn w B A c l) (hB : B ≤ B') : BvIn w B' A c l := ⟨h.1.mono hB, h.2⟩
set_option maxRecDepth 20000 in
set_option maxHeartbeats 6400000 in
theorem treeFinal_any (y : Nat) (hy : y < 256) (acts : List Ac) (A : Option Addr) (c : Nat) (w : World) (hin : AcsIn w w.heap.size A c acts) (hT : Tab w) :
    Calls Tryd.prog 6 #[.int .u8 (y : Int), .slice A acts.length c] w fun e w' => e = .returned (.bool true) ∧ Below w.heap.size w w' := by
  obtain ⟨d, hd⟩ : ∃ d, y % 6 = d := ⟨_, rfl⟩
  have ek : (y : Int) % 6 = (d : Int) := by omega
  have hd6 : d < 6 := by omega
  have N1 := Lib.hid (newS d w w (by omega) (by omega) hT (Below.refl _ _))
  have AW' := Lib.hid (fun W (hW : Below w.heap.size w W) => awake11_any W (hT.below hW hT.pos))
  have HIn := Lib.hid hin
  have HT := Lib.hid hT
  obtain ⟨n, hn⟩ : ∃ n, n = acts.length := ⟨_, rfl⟩
  rw [← hn]
  have HN := Lib.hid hn
  have hn1 : n ≤ 1000000000000 := by rw [hn]; exact hin.2.1
  clear hin hT hn hd
  go_enter Tryd.func6, Tryd.ntmps6
  go_wp2_with fail
  refine N1.out.mono ?_
  rintro _ w1 ⟨⟨P, rfl, hs1⟩, _⟩
  go_wp2_with fail
  refine (AW'.out _ hs1.1).mono ?_
  rintro _ w2 ⟨rfl, hb2⟩
  have HS0 := Lib.hid (hs1.below hb2)
  clear hs1 hb2 N1 AW'
  have HDp : Hid ((0 : Int) ≤ (d : Int) ∧ (d : Int) ≤ 1000000) := Lib.hid (by omega)
  obtain ⟨D, hD⟩ : ∃ D : Int, D = (d : Int) := ⟨_, rfl⟩
  clear ek
  go_wp2_with fail
  go_loopw [9, 8] (fun i v wr => ∃ (k q : Nat) (AW : Option Addr) (cW : Nat) (bsW : List Bv) (de : Int) (L : List Tr.Lk), k ≤ n ∧ i = .int .i64 k ∧ v = .slice AW q cW ∧ StAt w wr P (d : Int) de L ∧ UpAt wr w.heap.size (.slice AW q cW) bsW ∧ bsW.length = q ∧ (bks bsW = (L.take q).map Tr.Lk.b ∧ q ≤ Tr.fl L d + 1) ∧ de ≤ (d : Int)) (fun i _ _ => n - (intOf i).toNat)
  case atStart => exact ⟨0, 0, none, 0, [], 0, _, Nat.zero_le _, rfl, rfl, HS0.out, UpAt.nil _ _, rfl, ⟨by simp [bks], Nat.zero_le _⟩, by omega⟩
  case round =>
    obtain ⟨k, q, AW, cW, bsW, de, L, hk, rfl, rfl, hst, hu, hwl, hwq, hde⟩ := hrel
    have HSt := Lib.hid hst
    have HU := Lib.hid hu
    have HWl := Lib.hid hwl
    have HWq := Lib.hid hwq
    have HDe := Lib.hid hde
    have hq0 : q ≤ 4098 := by have := hst.2.1.2.2; have := hwq.2; unfold Tr.fl at this; omega
    clear hst HS0 hu hwl hwq hde
    by_cases hkn : k < n ∧ k < 25
    · have hki : (k : Int) < (n : Int) := by omega
      have hk5 : (k : Int) < 25 := by omega
      obtain ⟨g, off, rfl, hcl⟩ := HIn.out.at_ (k := k) (by rw [← HN.out]; exact hkn.1)
      have hxi := HIn.out.2.2 _ (List.getElem_mem (show k < acts.length by rw [← HN.out]; exact hkn.1))
      generalize acts[k]'(by rw [← HN.out]; exact hkn.1) = x at hcl hxi
      have HF1 : Hid (∀ W, Below w.heap.size w W → Calls Tryd.prog 32 #[.slice x.A x.L.length x.cap] W fun e w' => e = .returned (.slice (first11 x.L).A (first11 x.L).its.length (first11 x.L).cap) ∧ W = w') := Lib.hid (fun W hW => first11_any x.A x.cap x.L w.heap.size W (hxi.1.below hW))
      have HM : Hid (∀ W, StAt w W P (d : Int) de L → Calls Tryd.prog 31 #[.pointer (some ⟨P, 0, none⟩), .slice (first11 x.L).A (first11 x.L).its.length (first11 x.L).cap, .int .i64 x.salt] W fun e w' => (∃ v, e = .returned v) ∧ StAt w w' P (d : Int) de (Tr.mineL L (first11 x.L).its x.salt) ∧ Keep W w') := Lib.hid (fun W hW => (mineS hW _ _ _ x.salt hxi.2.2.2 (first11_in hxi) HT.out).mono (fun e w' h => ⟨⟨_, h.1⟩, h.2⟩))
      have HF2 : Hid (∀ W, Below w.heap.size w W → Calls Tryd.prog 34 #[.slice x.A x.L.length x.cap] W fun e w' => e = .returned (.slice x.A (few11 x.L).length x.cap) ∧ W = w') := Lib.hid (fun W hW => few11_any x.A x.cap x.L w.heap.size W (hxi.1.below hW))
      have HTu : Hid (∀ W, StAt w W P (d : Int) de L → Calls Tryd.prog 33 #[.pointer (some ⟨P, 0, none⟩), .int .i64 x.under, .slice x.A (few11 x.L).length x.cap, .int .i64 x.salt] W fun e w' => (∃ v, e = .returned v) ∧ StAt w w' P (d : Int) (Tr.turnD de L x.under ((few11 x.L).map Sv.its) x.salt) (Tr.turnL L x.under ((few11 x.L).map Sv.its) x.salt) ∧ Keep W w') := Lib.hid (fun W hW => (turnS hW x.under x.salt hxi.2.2.2 x.A x.cap (few11 x.L) (hxi.1.few) (by unfold few11; rw [List.length_take]; omega) HT.out).mono (fun e w' h => ⟨⟨_, h.1⟩, h.2⟩))
      have HCl := Lib.hid hcl
      have HXu : Hid (Tx.fits x.under) := Lib.hid hxi.2.2.1
      have ckd := (hcl wr HSt.out.1).1
      have cun := (hcl wr HSt.out.1).2.1
      clear hcl hxi
      obtain ⟨kd, und, sl, Ax, cx, Lx⟩ := x
      simp only at HF1 HM HF2 HTu HCl ckd cun HXu
      generalize first11 Lx = y1 at *
      generalize few11 Lx = y2 at *
      generalize Lx.length = mx at *
      obtain ⟨yA, yc, yi⟩ := y1
      simp only at HF1 HM
      by_cases hkd : kd < 2
      · have d3 : decide (kd < 2) = true := by simpa using hkd
        clear hkd
        go_wp2_with fail
        clear ckd cun hk5 d3
        have HSq := Lib.hid (HSt.out.below ((Below.refl wr.heap.size wr).drew))
        refine wp_region_noPanic ?_
        refine wp_region_held_drew (S := fun w' => Below w.heap.size w w') (by kernel_rfl) (HSt.out.1.drew) (fun hHeld => ?_)
        obtain ⟨wq, hwq⟩ : ∃ x, x = wr.drew := ⟨_, rfl⟩
        have HQe := Lib.hid hwq
        rw [← hwq] at hHeld HSq ⊢
        clear hwq
        refine wpAnyH_take (i := 0) (v := .pointer (some ⟨P, 0, none⟩)) rfl (by kernel_rfl) (by kernel_rfl) (by kernel_rfl) (fun _ _ _ h => h) (Or.inl ⟨by rfl, fun w' hSw => by go_simp⟩) hHeld ?_
        try simp only [Act.put, List.getElem_toArray, List.getElem_cons_succ, List.getElem_cons_zero, List.setIfInBounds_toArray, List.set_cons_zero, List.set_cons_succ]
        refine wpAnyH_take (i := 1) (v := .slice (some ⟨g, off, none⟩) n c) rfl (by kernel_rfl) (by kernel_rfl) (by kernel_rfl) (fun _ _ _ h => h) (Or.inl ⟨by rfl, fun w' hSw => by go_simp⟩) hHeld ?_
        try simp only [Act.put, List.getElem_toArray, List.getElem_cons_succ, List.getElem_cons_zero, List.setIfInBounds_toArray, List.set_cons_zero, List.set_cons_succ]
        refine wpAnyH_take (i := 2) (v := .int .i64 k) rfl (by kernel_rfl) (by kernel_rfl) (by kernel_rfl) (fun _ _ _ h => h) (Or.inl ⟨by rfl, fun w' hSw => by go_simp⟩) hHeld ?_
        try simp only [Act.put, List.getElem_toArray, List.getElem_cons_succ, List.getElem_cons_zero, List.setIfInBounds_toArray, List.set_cons_zero, List.set_cons_succ]
        refine wpAnyH_take (i := 3) (v := .pointer (some ⟨g, (off + k * 4), none⟩)) rfl (by kernel_rfl) (by kernel_rfl) (by kernel_rfl) (fun _ _ _ h => h) (Or.inl ⟨by rfl, fun w' hSw => by go_simp⟩) hHeld ?_
        try simp only [Act.put, List.getElem_toArray, List.getElem_cons_succ, List.getElem_cons_zero, List.setIfInBounds_toArray, List.set_cons_zero, List.set_cons_succ]
        refine wpAnyH_take (i := 4) (v := .pointer (some ⟨g, (off + k * 4 + 3), none⟩)) rfl (by kernel_rfl) (by kernel_rfl) (by kernel_rfl) (fun _ _ _ h => h) (Or.inl ⟨by rfl, fun w' hSw => by go_simp⟩) hHeld ?_
        try simp only [Act.put, List.getElem_toArray, List.getElem_cons_succ, List.getElem_cons_zero, List.setIfInBounds_toArray, List.set_cons_zero, List.set_cons_succ]
        refine wpAnyH_take (i := 5) (v := .slice Ax mx cx) rfl (by kernel_rfl) (by kernel_rfl) (by kernel_rfl) (fun _ _ _ h => h) (Or.inl ⟨by rfl, fun w' hSw => by have hq := hSw; have hd := (HCl.out _ hq).2.2.2; go_simp⟩) hHeld ?_
        try simp only [Act.put, List.getElem_toArray, List.getElem_cons_succ, List.getElem_cons_zero, List.setIfInBounds_toArray, List.set_cons_zero, List.set_cons_succ]
        refine wpAnyH_take (i := 7) (v := .slice (some ⟨g, off, none⟩) n c) rfl (by kernel_rfl) (by kernel_rfl) (by kernel_rfl) (fun _ _ _ h => h) (Or.inl ⟨by rfl, fun w' hSw => by go_simp⟩) hHeld ?_
        try simp only [Act.put, List.getElem_toArray, List.getElem_cons_succ, List.getElem_cons_zero, List.setIfInBounds_toArray, List.set_cons_zero, List.set_cons_succ]
        refine wpAnyH_take (i := 8) (v := .int .i64 k) rfl (by kernel_rfl) (by kernel_rfl) (by kernel_rfl) (fun _ _ _ h => h) (Or.inl ⟨by rfl, fun w' hSw => by go_simp⟩) hHeld ?_
        try simp only [Act.put, List.getElem_toArray, List.getElem_cons_succ, List.getElem_cons_zero, List.setIfInBounds_toArray, List.set_cons_zero, List.set_cons_succ]
        refine wpAnyH_take (i := 9) (v := .pointer (some ⟨g, (off + k * 4), none⟩)) rfl (by kernel_rfl) (by kernel_rfl) (by kernel_rfl) (fun _ _ _ h => h) (Or.inl ⟨by rfl, fun w' hSw => by go_simp⟩) hHeld ?_
        try simp only [Act.put, List.getElem_toArray, List.getElem_cons_succ, List.getElem_cons_zero, List.setIfInBounds_toArray, List.set_cons_zero, List.set_cons_succ]
        refine wpAnyH_take (i := 10) (v := .pointer (some ⟨g, (off + k * 4 + 2), none⟩)) rfl (by kernel_rfl) (by kernel_rfl) (by kernel_rfl) (fun _ _ _ h => h) (Or.inl ⟨by rfl, fun w' hSw => by go_simp⟩) hHeld ?_
        try simp only [Act.put, List.getElem_toArray, List.getElem_cons_succ, List.getElem_cons_zero, List.setIfInBounds_toArray, List.set_cons_zero, List.set_cons_succ]
        refine wpAnyH_take (i := 11) (v := .int .i64 sl) rfl (by kernel_rfl) (by kernel_rfl) (by kernel_rfl) (fun _ _ _ h => h) (Or.inl ⟨by rfl, fun w' hSw => by have hq := hSw; have hd := (HCl.out _ hq).2.2.1; go_simp⟩) hHeld ?_
        try simp only [Act.put, List.getElem_toArray, List.getElem_cons_succ, List.getElem_cons_zero, List.setIfInBounds_toArray, List.set_cons_zero, List.set_cons_succ]
        refine wpAnyH_ready (rs := [6]) (by kernel_rfl) (by simp) (AllReadyH.cons rfl (fun K1 hK1 => ?_) AllReadyH.nil)
        try simp only [Act.put, List.getElem_toArray, List.getElem_cons_succ, List.getElem_cons_zero, List.setIfInBounds_toArray, List.set_cons_zero, List.set_cons_succ]
        go_simp
        refine Calls.mono (HF1.out _ hHeld) ?_
        rintro e w2 ⟨rfl, rfl⟩
        refine hK1.out _ _ (hHeld) (fun hHeld => ?_)
        clear hK1 K1
        try simp only [Act.put, List.getElem_toArray, List.getElem_cons_succ, List.getElem_cons_zero, List.setIfInBounds_toArray, List.set_cons_zero, List.set_cons_succ]
        refine wpAnyH_ready (rs := [12]) (by kernel_rfl) (by simp) (AllReadyH.cons rfl (fun K1 hK1 => ?_) AllReadyH.nil)
        try simp only [Act.put, List.getElem_toArray, List.getElem_cons_succ, List.getElem_cons_zero, List.setIfInBounds_toArray, List.set_cons_zero, List.set_cons_succ]
        go_simp
        refine Calls.mono (HM.out _ HSq.out) ?_
        rintro e w2 ⟨⟨v2, rfl⟩, hst2, hkp2⟩
        have HS2 := Lib.hid hst2
        have HK2 := Lib.hid ((Keep.of_below ((Below.refl wr.heap.size wr).drew)).trans (HQe.out ▸ hkp2))
        have hb2 := hst2.1
        clear hst2 hkp2
        refine hK1.out _ _ (hb2) (fun hHeld => ?_)
        clear hK1 K1
        try simp only [Act.put, List.getElem_toArray, List.getElem_cons_succ, List.getElem_cons_zero, List.setIfInBounds_toArray, List.set_cons_zero, List.set_cons_succ]
        refine wpAnyH_done (by kernel_rfl) ?_ _
        refine NoPanic.normal ?_
        clear hHeld
        have HU2 := Lib.hid (HU.out.keep HK2.out)
        have HQ2 : Hid (bks bsW = ((Tr.mineL L yi sl).take q).map Tr.Lk.b ∧ q ≤ Tr.fl (Tr.mineL L yi sl) d + 1) := Lib.hid (by
          obtain ⟨h1, h2⟩ := Tr.mine_keeps (L := L) yi sl (d := d) (q := q) HSt.out.2.1.pos HWq.out.2
          rw [h1]; exact ⟨HWq.out.1, h2⟩)
        have HDe2 := HDe
        go_wp2_with fail
        refine (finalS HS2.out HDp.out.1 HDp.out.2).mono ?_
        rintro _ w3 ⟨rfl, hb3⟩
        have HS3 := Lib.hid (HS2.out.below hb3)
        have HU3 := Lib.hid (HU2.out.below hb3)
        clear hb3
        go_wp2_with fail
        refine (uptoS HS3.out _).mono ?_
        rintro _ w4 ⟨⟨A1, c1, bsN, rfl, huN, hbsN⟩, hb4⟩
        have HS4 := Lib.hid (HS3.out.below hb4)
        have HU4 := Lib.hid (HU3.out.below hb4)
        have hG2 := HS4.out.2.1
        have hfl : (max (((Tr.mineL L yi sl).length : Int) - 1 - (d : Int)) 0 + 1).toNat = Tr.fl (Tr.mineL L yi sl) d + 1 := by unfold Tr.fl; omega
        rw [hfl] at hbsN
        have hLp := hG2.pos
        have hnl : bsN.length = Tr.fl (Tr.mineL L yi sl) d + 1 := by
          have := congrArg List.length hbsN
          rw [bks_len, List.length_map, List.length_take] at this
          unfold Tr.fl at this ⊢
          omega
        have hqn : q ≤ bsN.length := by rw [hnl]; exact HQ2.out.2
        have hlim : bsN.length ≤ 4097 := by have := hG2.2.2; unfold Tr.fl at hnl; omega
        obtain ⟨A2, c2, e1, hbv⟩ := huN.form
        injection e1 with e1 _ e3
        subst e1
        subst e3
        have HUN := Lib.hid huN
        have HUNq : Hid (∀ {W}, Below w4.heap.size w4 W → UpAt W w.heap.size (.slice A1 bsN.length c1) bsN) := Lib.hid (fun hW => huN.below hW)
        have hbvW := HU4.out.form
        obtain ⟨A3, c3, e1, hbvW⟩ := hbvW
        injection e1 with e1 e2 e3
        subst e1
        subst e3
        clear e2
        have hsc := hbv.2.2
        have hsl := fun W => sliceBlocks A1 bsN.length q c1 (Nat.le_trans hqn hsc) W
        have HAll : Hid (∀ W, Below w4.heap.size w4 W → Calls Tryd.prog 23 #[.slice A1 q c1, .slice AW q cW] W fun e w' => e = .returned (.bool true) ∧ Below W.heap.size W w') := Lib.hid (fun W hW => by
          have hlq : (bsN.take q).length = q := by rw [List.length_take]; omega
          have := allS (W := W) (A := A1) (A' := AW) (c := c1) (c' := cW) (bsN.take q) bsW (((hbv.take (fun x hx => (huN.2 x hx).1) q).below hW).mono2 hW.size) ((hbvW.below hW).mono2 hW.size) (fun x hx => (huN.2 x (List.mem_of_mem_take hx)).1) (fun x hx => (HU4.out.2 x hx).1)
            (by
              unfold bks at hbsN ⊢
              have hwq := HQ2.out.1
              unfold bks at hwq
              rw [List.map_take, hbsN, hwq, ← List.map_take, List.take_take]
              congr 2
              rw [← hnl]
              exact (Nat.min_eq_left hqn))
            (fun b hb => by
              have hb2 : b ∈ bks bsN := by unfold bks at hb ⊢; rw [List.map_take] at hb; exact List.mem_of_mem_take hb
              rw [hbsN] at hb2
              obtain ⟨x, hx, rfl⟩ := List.mem_map.1 hb2
              exact hG2.fine x (List.mem_of_mem_take hx)) (by rw [hlq]; omega)
          rw [hlq, HWl.out] at this
          exact this)
        have HNx : Hid (bks bsN = ((Tr.mineL L yi sl).take (Tr.fl (Tr.mineL L yi sl) d + 1)).map Tr.Lk.b ∧ bsN.length = Tr.fl (Tr.mineL L yi sl) d + 1) := Lib.hid ⟨hbsN, hnl⟩
        obtain ⟨qn, hqe⟩ : ∃ qn, qn = bsN.length := ⟨_, rfl⟩
        rw [← hqe] at hqn hlim hsl ⊢
        have HQE := Lib.hid hqe
        have hqi : (q : Int) ≤ (qn : Int) := by omega
        clear hb4 hG2 hfl hbsN hLp hnl huN hbv hbvW hsc hqe
        go_wp2_with fail
        refine (HAll.out _ (Below.refl _ _)).mono ?_
        rintro _ w5 ⟨rfl, hb5⟩
        go_wp2_with fail
        exact ⟨⟨k + 1, qn, A1, c1, bsN, _, _, by omega, by go_num, rfl, HS4.out.below hb5, (by rw [HQE.out]; exact HUNq.out hb5), HQE.out.symm, ⟨by rw [HQE.out, HNx.out.2]; exact HNx.out.1, by rw [HQE.out, HNx.out.2]; exact Nat.le_refl _⟩, HDe2.out⟩, by simp [intOf]; omega⟩
      · have d3 : decide (kd < 2) = false := by simpa using hkd
        clear hkd
        by_cases hun : und ≤ (d : Int)
        · have d4 : decide (und ≤ (d : Int)) = true := by simpa using hun
          have HUn := Lib.hid hun
          clear hun
          go_wp2_with fail
          clear ckd cun hk5 d3 d4
          have HSq := Lib.hid (HSt.out.below ((Below.refl wr.heap.size wr).drew))
          refine wp_region_noPanic ?_
          refine wp_region_held_drew (S := fun w' => Below w.heap.size w w') (by kernel_rfl) (HSt.out.1.drew) (fun hHeld => ?_)
          obtain ⟨wq, hwq⟩ : ∃ x, x = wr.drew := ⟨_, rfl⟩
          have HQe := Lib.hid hwq
          rw [← hwq] at hHeld HSq ⊢
          clear hwq
          refine wpAnyH_take (i := 0) (v := .pointer (some ⟨P, 0, none⟩)) rfl (by kernel_rfl) (by kernel_rfl) (by kernel_rfl) (fun _ _ _ h => h) (Or.inl ⟨by rfl, fun w' hSw => by go_simp⟩) hHeld ?_
          try simp only [Act.put, List.getElem_toArray, List.getElem_cons_succ, List.getElem_cons_zero, List.setIfInBounds_toArray, List.set_cons_zero, List.set_cons_succ]
          refine wpAnyH_take (i := 1) (v := .slice (some ⟨g, off, none⟩) n c) rfl (by kernel_rfl) (by kernel_rfl) (by kernel_rfl) (fun _ _ _ h => h) (Or.inl ⟨by rfl, fun w' hSw => by go_simp⟩) hHeld ?_
          try simp only [Act.put, List.getElem_toArray, List.getElem_cons_succ, List.getElem_cons_zero, List.setIfInBounds_toArray, List.set_cons_zero, List.set_cons_succ]
          refine wpAnyH_take (i := 2) (v := .int .i64 k) rfl (by kernel_rfl) (by kernel_rfl) (by kernel_rfl) (fun _ _ _ h => h) (Or.inl ⟨by rfl, fun w' hSw => by go_simp⟩) hHeld ?_
          try simp only [Act.put, List.getElem_toArray, List.getElem_cons_succ, List.getElem_cons_zero, List.setIfInBounds_toArray, List.set_cons_zero, List.set_cons_succ]
          refine wpAnyH_take (i := 3) (v := .pointer (some ⟨g, (off + k * 4), none⟩)) rfl (by kernel_rfl) (by kernel_rfl) (by kernel_rfl) (fun _ _ _ h => h) (Or.inl ⟨by rfl, fun w' hSw => by go_simp⟩) hHeld ?_
          try simp only [Act.put, List.getElem_toArray, List.getElem_cons_succ, List.getElem_cons_zero, List.setIfInBounds_toArray, List.set_cons_zero, List.set_cons_succ]
          refine wpAnyH_take (i := 4) (v := .pointer (some ⟨g, (off + k * 4 + 1), none⟩)) rfl (by kernel_rfl) (by kernel_rfl) (by kernel_rfl) (fun _ _ _ h => h) (Or.inl ⟨by rfl, fun w' hSw => by go_simp⟩) hHeld ?_
          try simp only [Act.put, List.getElem_toArray, List.getElem_cons_succ, List.getElem_cons_zero, List.setIfInBounds_toArray, List.set_cons_zero, List.set_cons_succ]
          refine wpAnyH_take (i := 5) (v := .int .i64 und) rfl (by kernel_rfl) (by kernel_rfl) (by kernel_rfl) (fun _ _ _ h => h) (Or.inl ⟨by rfl, fun w' hSw => by have hq := hSw; have hd := (HCl.out _ hq).2.1; go_simp⟩) hHeld ?_
          try simp only [Act.put, List.getElem_toArray, List.getElem_cons_succ, List.getElem_cons_zero, List.setIfInBounds_toArray, List.set_cons_zero, List.set_cons_succ]
          refine wpAnyH_take (i := 6) (v := .slice (some ⟨g, off, none⟩) n c) rfl (by kernel_rfl) (by kernel_rfl) (by kernel_rfl) (fun _ _ _ h => h) (Or.inl ⟨by rfl, fun w' hSw => by go_simp⟩) hHeld ?_
          try simp only [Act.put, List.getElem_toArray, List.getElem_cons_succ, List.getElem_cons_zero, List.setIfInBounds_toArray, List.set_cons_zero, List.set_cons_succ]
          refine wpAnyH_take (i := 7) (v := .int .i64 k) rfl (by kernel_rfl) (by kernel_rfl) (by kernel_rfl) (fun _ _ _ h => h) (Or.inl ⟨by rfl, fun w' hSw => by go_simp⟩) hHeld ?_
          try simp only [Act.put, List.getElem_toArray, List.getElem_cons_succ, List.getElem_cons_zero, List.setIfInBounds_toArray, List.set_cons_zero, List.set_cons_succ]
          refine wpAnyH_take (i := 8) (v := .pointer (some ⟨g, (off + k * 4), none⟩)) rfl (by kernel_rfl) (by kernel_rfl) (by kernel_rfl) (fun _ _ _ h => h) (Or.inl ⟨by rfl, fun w' hSw => by go_simp⟩) hHeld ?_
          try simp only [Act.put, List.getElem_toArray, List.getElem_cons_succ, List.getElem_cons_zero, List.setIfInBounds_toArray, List.set_cons_zero, List.set_cons_succ]
          refine wpAnyH_take (i := 9) (v := .pointer (some ⟨g, (off + k * 4 + 3), none⟩)) rfl (by kernel_rfl) (by kernel_rfl) (by kernel_rfl) (fun _ _ _ h => h) (Or.inl ⟨by rfl, fun w' hSw => by go_simp⟩) hHeld ?_
          try simp only [Act.put, List.getElem_toArray, List.getElem_cons_succ, List.getElem_cons_zero, List.setIfInBounds_toArray, List.set_cons_zero, List.set_cons_succ]
          refine wpAnyH_take (i := 10) (v := .slice Ax mx cx) rfl (by kernel_rfl) (by kernel_rfl) (by kernel_rfl) (fun _ _ _ h => h) (Or.inl ⟨by rfl, fun w' hSw => by have hq := hSw; have hd := (HCl.out _ hq).2.2.2; go_simp⟩) hHeld ?_
          try simp only [Act.put, List.getElem_toArray, List.getElem_cons_succ, List.getElem_cons_zero, List.setIfInBounds_toArray, List.set_cons_zero, List.set_cons_succ]
          refine wpAnyH_take (i := 12) (v := .slice (some ⟨g, off, none⟩) n c) rfl (by kernel_rfl) (by kernel_rfl) (by kernel_rfl) (fun _ _ _ h => h) (Or.inl ⟨by rfl, fun w' hSw => by go_simp⟩) hHeld ?_
          try simp only [Act.put, List.getElem_toArray, List.getElem_cons_succ, List.getElem_cons_zero, List.setIfInBounds_toArray, List.set_cons_zero, List.set_cons_succ]
          refine wpAnyH_take (i := 13) (v := .int .i64 k) rfl (by kernel_rfl) (by kernel_rfl) (by kernel_rfl) (fun _ _ _ h => h) (Or.inl ⟨by rfl, fun w' hSw => by go_simp⟩) hHeld ?_
          try simp only [Act.put, List.getElem_toArray, List.getElem_cons_succ, List.getElem_cons_zero, List.setIfInBounds_toArray, List.set_cons_zero, List.set_cons_succ]
          refine wpAnyH_take (i := 14) (v := .pointer (some ⟨g, (off + k * 4), none⟩)) rfl (by kernel_rfl) (by kernel_rfl) (by kernel_rfl) (fun _ _ _ h => h) (Or.inl ⟨by rfl, fun w' hSw => by go_simp⟩) hHeld ?_
          try simp only [Act.put, List.getElem_toArray, List.getElem_cons_succ, List.getElem_cons_zero, List.setIfInBounds_toArray, List.set_cons_zero, List.set_cons_succ]
          refine wpAnyH_take (i := 15) (v := .pointer (some ⟨g, (off + k * 4 + 2), none⟩)) rfl (by kernel_rfl) (by kernel_rfl) (by kernel_rfl) (fun _ _ _ h => h) (Or.inl ⟨by rfl, fun w' hSw => by go_simp⟩) hHeld ?_
          try simp only [Act.put, List.getElem_toArray, List.getElem_cons_succ, List.getElem_cons_zero, List.setIfInBounds_toArray, List.set_cons_zero, List.set_cons_succ]
          refine wpAnyH_take (i := 16) (v := .int .i64 sl) rfl (by kernel_rfl) (by kernel_rfl) (by kernel_rfl) (fun _ _ _ h => h) (Or.inl ⟨by rfl, fun w' hSw => by have hq := hSw; have hd := (HCl.out _ hq).2.2.1; go_simp⟩) hHeld ?_
          try simp only [Act.put, List.getElem_toArray, List.getElem_cons_succ, List.getElem_cons_zero, List.setIfInBounds_toArray, List.set_cons_zero, List.set_cons_succ]
          refine wpAnyH_ready (rs := [11]) (by kernel_rfl) (by simp) (AllReadyH.cons rfl (fun K1 hK1 => ?_) AllReadyH.nil)
          try simp only [Act.put, List.getElem_toArray, List.getElem_cons_succ, List.getElem_cons_zero, List.setIfInBounds_toArray, List.set_cons_zero, List.set_cons_succ]
          go_simp
          refine Calls.mono (HF2.out _ hHeld) ?_
          rintro e w2 ⟨rfl, rfl⟩
          refine hK1.out _ _ (hHeld) (fun hHeld => ?_)
          clear hK1 K1
          try simp only [Act.put, List.getElem_toArray, List.getElem_cons_succ, List.getElem_cons_zero, List.setIfInBounds_toArray, List.set_cons_zero, List.set_cons_succ]
          refine wpAnyH_ready (rs := [17]) (by kernel_rfl) (by simp) (AllReadyH.cons rfl (fun K1 hK1 => ?_) AllReadyH.nil)
          try simp only [Act.put, List.getElem_toArray, List.getElem_cons_succ, List.getElem_cons_zero, List.setIfInBounds_toArray, List.set_cons_zero, List.set_cons_succ]
          go_simp
          refine Calls.mono (HTu.out _ HSq.out) ?_
          rintro e w2 ⟨⟨v2, rfl⟩, hst2, hkp2⟩
          have HS2 := Lib.hid hst2
          have HK2 := Lib.hid ((Keep.of_below ((Below.refl wr.heap.size wr).drew)).trans (HQe.out ▸ hkp2))
          have hb2 := hst2.1
          clear hst2 hkp2
          refine hK1.out _ _ (hb2) (fun hHeld => ?_)
          clear hK1 K1
          try simp only [Act.put, List.getElem_toArray, List.getElem_cons_succ, List.getElem_cons_zero, List.setIfInBounds_toArray, List.set_cons_zero, List.set_cons_succ]
          refine wpAnyH_done (by kernel_rfl) ?_ _
          refine NoPanic.normal ?_
          clear hHeld
          have HU2 := Lib.hid (HU.out.keep HK2.out)
          have HQ2 : Hid (bks bsW = ((Tr.turnL L und (y2.map Sv.its) sl).take q).map Tr.Lk.b ∧ q ≤ Tr.fl (Tr.turnL L und (y2.map Sv.its) sl) d + 1) := Lib.hid (by
            obtain ⟨h1, h2⟩ := Tr.turn_keeps (L := L) und (y2.map Sv.its) sl (d := d) (q := q) HUn.out HSt.out.2.1.pos HWq.out.2
            rw [h1]; exact ⟨HWq.out.1, h2⟩)
          have HDe2 := Lib.hid (Tr.turnD_le (L := L) (y2.map Sv.its) sl HUn.out HDe.out)
          go_wp2_with fail
          refine (finalS HS2.out HDp.out.1 HDp.out.2).mono ?_
          rintro _ w3 ⟨rfl, hb3⟩
          have HS3 := Lib.hid (HS2.out.below hb3)
          have HU3 := Lib.hid (HU2.out.below hb3)
          clear hb3
          go_wp2_with fail
          refine (uptoS HS3.out _).mono ?_
          rintro _ w4 ⟨⟨A1, c1, bsN, rfl, huN, hbsN⟩, hb4⟩
          have HS4 := Lib.hid (HS3.out.below hb4)
          have HU4 := Lib.hid (HU3.out.below hb4)
          have hG2 := HS4.out.2.1
          have hfl : (max (((Tr.turnL L und (y2.map Sv.its) sl).length : Int) - 1 - (d : Int)) 0 + 1).toNat = Tr.fl (Tr.turnL L und (y2.map Sv.its) sl) d + 1 := by unfold Tr.fl; omega
          rw [hfl] at hbsN
          have hLp := hG2.pos
          have hnl : bsN.length = Tr.fl (Tr.turnL L und (y2.map Sv.its) sl) d + 1 := by
            have := congrArg List.length hbsN
            rw [bks_len, List.length_map, List.length_take] at this
            unfold Tr.fl at this ⊢
            omega
          have hqn : q ≤ bsN.length := by rw [hnl]; exact HQ2.out.2
          have hlim : bsN.length ≤ 4097 := by have := hG2.2.2; unfold Tr.fl at hnl; omega
          obtain ⟨A2, c2, e1, hbv⟩ := huN.form
          injection e1 with e1 _ e3
          subst e1
          subst e3
          have HUN := Lib.hid huN
          have HUNq : Hid (∀ {W}, Below w4.heap.size w4 W → UpAt W w.heap.size (.slice A1 bsN.length c1) bsN) := Lib.hid (fun hW => huN.below hW)
          have hbvW := HU4.out.form
          obtain ⟨A3, c3, e1, hbvW⟩ := hbvW
          injection e1 with e1 e2 e3
          subst e1
          subst e3
          clear e2
          have hsc := hbv.2.2
          have hsl := fun W => sliceBlocks A1 bsN.length q c1 (Nat.le_trans hqn hsc) W
          have HAll : Hid (∀ W, Below w4.heap.size w4 W → Calls Tryd.prog 23 #[.slice A1 q c1, .slice AW q cW] W fun e w' => e = .returned (.bool true) ∧ Below W.heap.size W w') := Lib.hid (fun W hW => by
            have hlq : (bsN.take q).length = q := by rw [List.length_take]; omega
            have := allS (W := W) (A := A1) (A' := AW) (c := c1) (c' := cW) (bsN.take q) bsW (((hbv.take (fun x hx => (huN.2 x hx).1) q).below hW).mono2 hW.size) ((hbvW.below hW).mono2 hW.size) (fun x hx => (huN.2 x (List.mem_of_mem_take hx)).1) (fun x hx => (HU4.out.2 x hx).1)
              (by
                unfold bks at hbsN ⊢
                have hwq := HQ2.out.1
                unfold bks at hwq
                rw [List.map_take, hbsN, hwq, ← List.map_take, List.take_take]
                congr 2
                rw [← hnl]
                exact (Nat.min_eq_left hqn))
              (fun b hb => by
                have hb2 : b ∈ bks bsN := by unfold bks at hb ⊢; rw [List.map_take] at hb; exact List.mem_of_mem_take hb
                rw [hbsN] at hb2
                obtain ⟨x, hx, rfl⟩ := List.mem_map.1 hb2
                exact hG2.fine x (List.mem_of_mem_take hx)) (by rw [hlq]; omega)
            rw [hlq, HWl.out] at this
            exact this)
          have HNx : Hid (bks bsN = ((Tr.turnL L und (y2.map Sv.its) sl).take (Tr.fl (Tr.turnL L und (y2.map Sv.its) sl) d + 1)).map Tr.Lk.b ∧ bsN.length = Tr.fl (Tr.turnL L und (y2.map Sv.its) sl) d + 1) := Lib.hid ⟨hbsN, hnl⟩
          obtain ⟨qn, hqe⟩ : ∃ qn, qn = bsN.length := ⟨_, rfl⟩
          rw [← hqe] at hqn hlim hsl ⊢
          have HQE := Lib.hid hqe
          have hqi : (q : Int) ≤ (qn : Int) := by omega
          clear hb4 hG2 hfl hbsN hLp hnl huN hbv hbvW hsc hqe
          go_wp2_with fail
          refine (HAll.out _ (Below.refl _ _)).mono ?_
          rintro _ w5 ⟨rfl, hb5⟩
          go_wp2_with fail
          exact ⟨⟨k + 1, qn, A1, c1, bsN, _, _, by omega, by go_num, rfl, HS4.out.below hb5, (by rw [HQE.out]; exact HUNq.out hb5), HQE.out.symm, ⟨by rw [HQE.out, HNx.out.2]; exact HNx.out.1, by rw [HQE.out, HNx.out.2]; exact Nat.le_refl _⟩, HDe2.out⟩, by simp [intOf]; omega⟩
        · have d4 : decide (und ≤ (d : Int)) = false := by simpa using hun
          clear hun
          have HS2 := HSt
          have HU2 := HU
          have HQ2 := HWq
          have HDe2 := HDe
          go_wp2_with fail
          refine (finalS HS2.out HDp.out.1 HDp.out.2).mono ?_
          rintro _ w3 ⟨rfl, hb3⟩
          have HS3 := Lib.hid (HS2.out.below hb3)
          have HU3 := Lib.hid (HU2.out.below hb3)
          clear hb3
          go_wp2_with fail
          refine (uptoS HS3.out _).mono ?_
          rintro _ w4 ⟨⟨A1, c1, bsN, rfl, huN, hbsN⟩, hb4⟩
          have HS4 := Lib.hid (HS3.out.below hb4)
          have HU4 := Lib.hid (HU3.out.below hb4)
          have hG2 := HS4.out.2.1
          have hfl : (max ((L.length : Int) - 1 - (d : Int)) 0 + 1).toNat = Tr.fl L d + 1 := by unfold Tr.fl; omega
          rw [hfl] at hbsN
          have hLp := hG2.pos
          have hnl : bsN.length = Tr.fl L d + 1 := by
            have := congrArg List.length hbsN
            rw [bks_len, List.length_map, List.length_take] at this
            unfold Tr.fl at this ⊢
            omega
          have hqn : q ≤ bsN.length := by rw [hnl]; exact HQ2.out.2
          have hlim : bsN.length ≤ 4097 := by have := hG2.2.2; unfold Tr.fl at hnl; omega
          obtain ⟨A2, c2, e1, hbv⟩ := huN.form
          injection e1 with e1 _ e3
          subst e1
          subst e3
          have HUN := Lib.hid huN
          have HUNq : Hid (∀ {W}, Below w4.heap.size w4 W → UpAt W w.heap.size (.slice A1 bsN.length c1) bsN) := Lib.hid (fun hW => huN.below hW)
          have hbvW := HU4.out.form
          obtain ⟨A3, c3, e1, hbvW⟩ := hbvW
          injection e1 with e1 e2 e3
          subst e1
          subst e3
          clear e2
          have hsc := hbv.2.2
          have hsl := fun W => sliceBlocks A1 bsN.length q c1 (Nat.le_trans hqn hsc) W
          have HAll : Hid (∀ W, Below w4.heap.size w4 W → Calls Tryd.prog 23 #[.slice A1 q c1, .slice AW q cW] W fun e w' => e = .returned (.bool true) ∧ Below W.heap.size W w') := Lib.hid (fun W hW => by
            have hlq : (bsN.take q).length = q := by rw [List.length_take]; omega
            have := allS (W := W) (A := A1) (A' := AW) (c := c1) (c' := cW) (bsN.take q) bsW (((hbv.take (fun x hx => (huN.2 x hx).1) q).below hW).mono2 hW.size) ((hbvW.below hW).mono2 hW.size) (fun x hx => (huN.2 x (List.mem_of_mem_take hx)).1) (fun x hx => (HU4.out.2 x hx).1)
              (by
                unfold bks at hbsN ⊢
                have hwq := HQ2.out.1
                unfold bks at hwq
                rw [List.map_take, hbsN, hwq, ← List.map_take, List.take_take]
                congr 2
                rw [← hnl]
                exact (Nat.min_eq_left hqn))
              (fun b hb => by
                have hb2 : b ∈ bks bsN := by unfold bks at hb ⊢; rw [List.map_take] at hb; exact List.mem_of_mem_take hb
                rw [hbsN] at hb2
                obtain ⟨x, hx, rfl⟩ := List.mem_map.1 hb2
                exact hG2.fine x (List.mem_of_mem_take hx)) (by rw [hlq]; omega)
            rw [hlq, HWl.out] at this
            exact this)
          have HNx : Hid (bks bsN = (L.take (Tr.fl L d + 1)).map Tr.Lk.b ∧ bsN.length = Tr.fl L d + 1) := Lib.hid ⟨hbsN, hnl⟩
          obtain ⟨qn, hqe⟩ : ∃ qn, qn = bsN.length := ⟨_, rfl⟩
          rw [← hqe] at hqn hlim hsl ⊢
          have HQE := Lib.hid hqe
          have hqi : (q : Int) ≤ (qn : Int) := by omega
          clear hb4 hG2 hfl hbsN hLp hnl huN hbv hbvW hsc hqe
          go_wp2_with fail
          refine (HAll.out _ (Below.refl _ _)).mono ?_
          rintro _ w5 ⟨rfl, hb5⟩
          go_wp2_with fail
          exact ⟨⟨k + 1, qn, A1, c1, bsN, de, _, by omega, by go_num, rfl, HS4.out.below hb5, (by rw [HQE.out]; exact HUNq.out hb5), HQE.out.symm, ⟨by rw [HQE.out, HNx.out.2]; exact HNx.out.1, by rw [HQE.out, HNx.out.2]; exact Nat.le_refl _⟩, HDe2.out⟩, by simp [intOf]; omega⟩
    · have key : ∀ (Q : Prop), ((¬ k < n → Q) ∧ (k < n → ¬ k < 25 → Q)) → Q := fun Q h => by
        by_cases q : k < n
        · exact h.2 q (fun q2 => hkn ⟨q, q2⟩)
        · exact h.1 q
      clear hkn
      have d5 : decide (de ≤ (d : Int)) = true := by simpa using HDe.out
      refine key _ ⟨fun q => ?_, fun q q2 => ?_⟩
      · have hki : (n : Int) ≤ (k : Int) := by omega
        clear q key
        go_wp2_with fail
        refine (deepestS HSt.out).mono ?_
        rintro _ w3 ⟨rfl, rfl⟩
        go_wp2_with fail
        go_ret
        exact ⟨rfl, HSt.out.1⟩
      · have hki : (k : Int) < (n : Int) := by omega
        have hk5 : (25 : Int) ≤ (k : Int) := by omega
        clear q q2 key
        go_wp2_with fail
        refine (deepestS HSt.out).mono ?_
        rintro _ w3 ⟨rfl, rfl⟩
        go_wp2_with fail
        go_ret
        exact ⟨rfl, HSt.out.1⟩
theorem treeFinal_int (y : Int) (h0 : 0 ≤ y) (h1 : y ≤ 255) (acts : List Ac) (A : Option Addr) (c : Nat) (w : World) (hin : AcsIn w w.heap.size A c acts) (hT : Tab w) :
    Calls Tryd.prog 6 #[.int .u8 y, .slice A acts.length c] w fun e w' => e = .returned (.bool true) ∧ Below w.heap.size w w' := by
  obtain ⟨x, rfl⟩ : ∃ x : Nat, y = (x : Int) := ⟨y.toNat, by omega⟩
  exact treeFinal_any x (by omega) acts A c w hin hT
end Go.Proofs.YtjeooegkfjlejaaDoor
