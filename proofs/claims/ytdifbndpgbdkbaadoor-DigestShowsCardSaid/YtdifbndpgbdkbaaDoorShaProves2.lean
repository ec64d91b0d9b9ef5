/- digest.Proves, where the proof is as long as the way. -/
import Derived.Test.YtdifbndpgbdkbaaDoorShaProves
namespace Go.Proofs.YtdifbndpgbdkbaaDoor
open Go.RowKit
set_option linter.unusedVariables false
set_option linter.unusedSimpArgs false

theorem rev_getD (P : List (List UInt8)) (k : Nat) (h : k < P.length) : P.reverse.getD (P.length - 1 - k) [] = P.getD k [] := by
  have h1 : P.length - 1 - k < P.length := by omega
  have e : P.length - 1 - (P.length - 1 - k) = k := by omega
  simp only [List.getD, List.getElem?_reverse h1, e]
theorem side_at (W : List Bool) (j : Nat) (h : j < W.length) : (W.map side)[j]? = some (side (W.getD j false)) := by
  simp [List.getD, h]
set_option maxHeartbeats 8000000 in
set_option maxRecDepth 100000 in
theorem Proves_eq (root : List UInt8) (n i : Nat) (s : ByteArray) (A : Option Addr) (P : List (List UInt8)) (cap : Nat) (w : World) (hT : Tab w) (hroot : root.length = 32) (hP : Hashes w A P) (hP32 : ∀ p ∈ P, p.length = 32)
    (hn : n ≤ 9223372036854775807) (hi : i < n) (hl : P.length = (Sha.path n i).length) (hs : s.size ≤ 1152921504606846000) :
    Calls Tryd.prog 24 #[.agg (bRow root), .int .i64 n, .int .i64 i, .string s, .slice A P.length cap] w fun e w' =>
      e = .returned (.bool (decide (Sha.climb (Sha.sum (0 :: s.data.toList)) (Sha.path n i) P.reverse = root))) ∧ Below w.heap.size w w' := by
  have HT := Lib.hid hT
  have hpos := hT.pos
  have hlt : (i : Int) < (n : Int) := by omega
  have hpa := path_any n i
  have hlog := Sha.path_len_log 63 n i (by omega)
  generalize Sha.path n i = W at *
  obtain ⟨m, hm⟩ : ∃ m, m = P.length := ⟨_, rfl⟩
  have hWm : W.length = m := by omega
  have hm63 : m ≤ 63 := by omega
  rw [hWm] at hpa
  rw [← hm]
  obtain ⟨leaf, hleaf⟩ : ∃ leaf, leaf = Sha.sum (0 :: s.data.toList) := ⟨_, rfl⟩
  have hll : leaf.length = 32 := by rw [hleaf, Sha.sum_len]
  rw [← hleaf]
  have hbig : ¬ (9223372036854775807 < 1 + s.size) := by omega
  have hsz : ((⟨#[0]⟩ : ByteArray) ++ s).size = 1 + s.size := by rw [ByteArray.size_append]; rfl
  have hdl : ((⟨#[0]⟩ : ByteArray) ++ s).data.toList = 0 :: s.data.toList := by rw [ByteArray.data_append]; simp
  have hsum := fun (w' : World) (hb : Below w.heap.size w w') => sum_any ((⟨#[0]⟩ : ByteArray) ++ s) w' (hT.below hb hpos) (by rw [hsz]; omega)
  rw [hdl, ← hleaf] at hsum
  have HSUM := Lib.hid hsum
  have HPA := Lib.hid hpa
  have HM := Lib.hid hm
  have HWM := Lib.hid hWm
  have HL := Lib.hid hll
  have HRoot := Lib.hid hroot
  have HP := Lib.hid hP
  have HP32 := Lib.hid hP32
  have i24 := fun (R : List UInt8) (h : R.length = 32) => i24_any R (by omega)
  have I24 := Lib.hid i24
  have hold := fun (R : List UInt8) (h : R.length = 32) => bRow_same [] R (by simp) (by omega)
  have Hold := Lib.hid hold
  clear hT hpa hl hm hWm hleaf hll hsz hdl hsum hP hP32 i24 hold hlog hroot
  go_enter Tryd.func24, Tryd.ntmps24
  go_wp2_with fail
  refine calls_named ?_
  intro w1 hw1
  have hR1 : Holds w1 w.heap.size (bRow root) := by rw [hw1]; exact Holds.new _ _ _
  have hb1 : Below w.heap.size w w1 := by rw [hw1]; exact (Below.refl _ _).alloc (Nat.le_refl _) _
  have HR1 := Lib.hid hR1
  clear hw1 hR1
  refine (HPA.out w1 hn hi).mono ?_
  rintro e w2 ⟨v, rfl, hown, hb2⟩
  obtain ⟨B, c, rfl, hc, hrow⟩ := own_row hown
  have hR2 := HR1.out.below hb2 HR1.out.lt
  have hb2 := hb1.trans (hb2.mono hb1.size)
  have HRow := Lib.hid hrow
  have HR2 := Lib.hid hR2
  clear hown hrow hR2
  go_wp2_with fail
  refine (HSUM.out w2 hb2).mono ?_
  rintro e w3 ⟨rfl, hb3⟩
  have hR3 := HR2.out.below hb3 HR2.out.lt
  have hgR := hR3.lt
  have HR3 := Lib.hid hR3
  have HRow3 : Hid (0 < m → ∃ g, B = some ⟨g, 0, none⟩ ∧ g < w3.heap.size ∧ ∀ k, k < m → w3.cell? ⟨g, k, none⟩ = (W.map side)[k]?) := fun hm0 => by
    obtain ⟨g, e1, e2, e3⟩ := HRow.out hm0
    exact ⟨g, e1, Nat.lt_of_lt_of_le e2 hb3.size, fun k hk => (hb3.cell (p := ⟨g, k, none⟩) e2).trans (e3 k hk)⟩
  have hb3 := hb2.trans (hb3.mono hb2.size)
  have HP3 := Lib.hid (HP.out.below hb3 (Nat.le_refl _))
  clear hR3
  go_wp2_with (refine wpList_store_named rfl 24 (.tmp 12) (.tmp 32) rfl w3.heap.size (bRow leaf) rfl rfl (bRow []) (Holds.new2 rfl rfl) (I24.out leaf HL.out) (Hold.out leaf HL.out) (bRow_one _) ?_; intro w5 hw5
               have H5 := Lib.hid (show Holds w5 w3.heap.size (bRow leaf) by rw [hw5]; exact (Holds.new2 rfl rfl).row _)
               have hb5 := (show Below w3.heap.size w3 w5 by rw [hw5]; exact below_setRow ((Below.refl _ _).alloc (Nat.le_refl _) _) (Nat.le_refl _) _)
               clear hw5)
  go_loopw [35] (fun c wr => ∃ k : Nat, k ≤ m ∧ c = .int .i64 k ∧ Holds wr w3.heap.size (bRow (Sha.climb leaf (W.drop (m - k)) (P.reverse.drop (m - k)))) ∧ Below w3.heap.size w3 wr) (fun c _ => m - (intOf c).toNat)
  case atStart =>
    refine ⟨0, Nat.zero_le _, rfl, ?_, hb5⟩
    rw [Nat.sub_zero, List.drop_eq_nil_of_le (by rw [HWM.out]; omega)]
    exact H5.out
  case round =>
    obtain ⟨k, hk, rfl, hN, hb⟩ := hrel
    clear H5 hb5
    by_cases hkm : k < m
    · have hcl := climb_step leaf W P.reverse m k HWM.out (by rw [List.length_reverse, ← HM.out]) hkm
      have hrev := rev_getD P k (by rw [← HM.out]; exact hkm)
      rw [← HM.out] at hrev
      rw [hrev] at hcl
      have hnow := Sha.climb_len leaf HL.out (W.drop (m - k)) (P.reverse.drop (m - k))
      have hp32 : (P.getD k []).length = 32 := by
        have hk2 : k < P.length := by rw [← HM.out]; exact hkm
        rw [List.getD_eq_getElem?_getD, List.getElem?_eq_getElem hk2, Option.getD_some]
        exact HP32.out _ (List.getElem_mem hk2)
      obtain ⟨b, off, rfl, hblt, hbr⟩ := HP3.out (by intro h0; have := HM.out; rw [h0] at this; simp at this; omega)
      have hrange : wr.rangeAt b (off + k * 32) (bRow (P.getD k [])).toList := fun j v hj => (hb.cell (p := ⟨b, off + k * 32 + j, none⟩) hblt).trans (hbr k (by rw [← HM.out]; exact hkm) j v hj)
      obtain ⟨g, rfl, hglt, hgc⟩ := HRow3.out (by omega)
      have hside := (hb.cell (p := ⟨g, m - 1 - k, none⟩) hglt).trans ((hgc (m - 1 - k) (by omega)).trans (side_at W _ (by rw [HWM.out]; omega)))
      generalize Sha.climb leaf (W.drop (m - k)) (P.reverse.drop (m - k)) = now at *
      generalize hnx : Sha.climb leaf (W.drop (m - (k + 1))) (P.reverse.drop (m - (k + 1))) = next at *
      have HNX := Lib.hid hnx
      clear hnx
      generalize P.getD k [] = p at *
      cases hbit : W.getD (m - 1 - k) false
      · rw [hbit] at hcl hside
        rw [if_neg (by decide)] at hcl
        have hu := Tryd.underlying24
        have hi32 : (Tryd.prog.info? 24).map (·.size) = some (bRow p).toList.length := by rw [Array.length_toList]; exact I24.out p hp32
        have HRg := Lib.hid hrange
        have HI32 := Lib.hid hi32
        have HCL := Lib.hid hcl
        have hgN := hN.lt
        have HN := Lib.hid hN
        have HP2 := Lib.hid hp32
        have HNow := Lib.hid hnow
        unfold side at hside
        simp only [Bool.false_eq_true, if_false] at hside
        have HSide := Lib.hid hside
        clear hrange hi32 hcl hN hrev hbit hbr hgc hu hp32 hnow hside
        go_wp2_with (first
          | (refine wpList_load_mid rfl 24 (.tmp 38) rfl b (off + k * 32) rfl (bRow p).toList _ HRg.out Tryd.underlying24 rfl HI32.out ?_)
          | (refine wpList_store_named rfl 24 (.tmp 14) (.tmp 39) rfl wr.heap.size (bRow p) rfl rfl (bRow []) (Holds.new2 rfl rfl) (I24.out p HP2.out) (Hold.out p HP2.out) (bRow_one _) ?_; intro w6 hw6
             have h6p := (show Holds w6 wr.heap.size (bRow p) by rw [hw6]; exact (Holds.new2 rfl rfl).row _)
             have h6n := (show Holds w6 w3.heap.size (bRow now) by rw [hw6]; exact (HN.out.alloc _).rowFar (by omega) _)
             have hb6r := (show Below wr.heap.size wr w6 by rw [hw6]; exact below_setRow ((Below.refl _ _).alloc (Nat.le_refl _) _) (Nat.le_refl _) _)
             have hb6 := hb.trans (hb6r.mono hb.size)
             have hside := (hb6r.cell (p := ⟨g, m - 1 - k, none⟩) (Nat.lt_of_lt_of_le hglt hb.size)).trans HSide.out
             have hlt6 := h6p.lt
             have H6n := Lib.hid h6n
             obtain ⟨T6, hT6⟩ := h6p
             obtain ⟨T7, hT7⟩ := h6n
             have G6 := Lib.hid hT6
             have G7 := Lib.hid hT7
             clear hw6 hT6 hT7)
          | (refine wpList_load_row rfl 24 (.tmp 14) rfl wr.heap.size rfl T6 _ (0, 0) _ G6.out Tryd.underlying24 rfl (I24.out p HP2.out) ?_)
          | (refine wpList_load_row rfl 24 (.tmp 12) rfl w3.heap.size rfl T7 _ (0, 0) _ G7.out Tryd.underlying24 rfl (I24.out now HNow.out) ?_))
        clear hside
        refine (join_any now p w6 (HT.out.below (hb3.trans (hb6.mono hb3.size)) hpos) HNow.out HP2.out).mono ?_
        rw [← HCL.out]
        rintro e w8 ⟨rfl, hb8⟩
        have h8n := H6n.out.below hb8 H6n.out.lt
        have HNext : Hid (next.length = 32) := by rw [HCL.out]; exact Sha.sum_len _
        have hb8 := hb6.trans (hb8.mono hb6.size)
        have H8n := Lib.hid h8n
        clear h8n
        go_wp2_with (refine wpList_store_named rfl 24 (.tmp 12) (.tmp 54) rfl w3.heap.size (bRow next) rfl rfl _ H8n.out (I24.out next HNext.out) (by rw [bRow_size now (by rw [HNow.out]; omega), bRow_size next (by rw [HNext.out]; omega)]) (bRow_one _) ?_; intro w9 hw9
                     have H9 := Lib.hid (show Holds w9 w3.heap.size (bRow next) by rw [hw9]; exact H8n.out.row _)
                     have hb9 := (show Below w3.heap.size w3 w9 by rw [hw9]; exact below_setRow hb8 (Nat.le_refl _) _)
                     clear hw9)
        exact ⟨⟨k + 1, by omega, by go_num, by rw [HNX.out]; exact H9.out, hb9⟩, by simp [intOf]; omega⟩
      · rw [hbit] at hcl hside
        rw [if_pos rfl] at hcl
        have hu := Tryd.underlying24
        have hi32 : (Tryd.prog.info? 24).map (·.size) = some (bRow p).toList.length := by rw [Array.length_toList]; exact I24.out p hp32
        have HRg := Lib.hid hrange
        have HI32 := Lib.hid hi32
        have HCL := Lib.hid hcl
        have hgN := hN.lt
        have HN := Lib.hid hN
        have HP2 := Lib.hid hp32
        have HNow := Lib.hid hnow
        unfold side at hside
        simp only [if_true] at hside
        have HSide := Lib.hid hside
        clear hrange hi32 hcl hN hrev hbit hbr hgc hu hp32 hnow hside
        go_wp2_with (first
          | (refine wpList_load_mid rfl 24 (.tmp 38) rfl b (off + k * 32) rfl (bRow p).toList _ HRg.out Tryd.underlying24 rfl HI32.out ?_)
          | (refine wpList_store_named rfl 24 (.tmp 14) (.tmp 39) rfl wr.heap.size (bRow p) rfl rfl (bRow []) (Holds.new2 rfl rfl) (I24.out p HP2.out) (Hold.out p HP2.out) (bRow_one _) ?_; intro w6 hw6
             have h6p := (show Holds w6 wr.heap.size (bRow p) by rw [hw6]; exact (Holds.new2 rfl rfl).row _)
             have h6n := (show Holds w6 w3.heap.size (bRow now) by rw [hw6]; exact (HN.out.alloc _).rowFar (by omega) _)
             have hb6r := (show Below wr.heap.size wr w6 by rw [hw6]; exact below_setRow ((Below.refl _ _).alloc (Nat.le_refl _) _) (Nat.le_refl _) _)
             have hb6 := hb.trans (hb6r.mono hb.size)
             have hside := (hb6r.cell (p := ⟨g, m - 1 - k, none⟩) (Nat.lt_of_lt_of_le hglt hb.size)).trans HSide.out
             have hlt6 := h6p.lt
             have H6n := Lib.hid h6n
             obtain ⟨T6, hT6⟩ := h6p
             obtain ⟨T7, hT7⟩ := h6n
             have G6 := Lib.hid hT6
             have G7 := Lib.hid hT7
             clear hw6 hT6 hT7)
          | (refine wpList_load_row rfl 24 (.tmp 14) rfl wr.heap.size rfl T6 _ (0, 0) _ G6.out Tryd.underlying24 rfl (I24.out p HP2.out) ?_)
          | (refine wpList_load_row rfl 24 (.tmp 12) rfl w3.heap.size rfl T7 _ (0, 0) _ G7.out Tryd.underlying24 rfl (I24.out now HNow.out) ?_))
        clear hside
        refine (join_any p now w6 (HT.out.below (hb3.trans (hb6.mono hb3.size)) hpos) HP2.out HNow.out).mono ?_
        rw [← HCL.out]
        rintro e w8 ⟨rfl, hb8⟩
        have h8n := H6n.out.below hb8 H6n.out.lt
        have HNext : Hid (next.length = 32) := by rw [HCL.out]; exact Sha.sum_len _
        have hb8 := hb6.trans (hb8.mono hb6.size)
        have H8n := Lib.hid h8n
        clear h8n
        go_wp2_with (refine wpList_store_named rfl 24 (.tmp 12) (.tmp 51) rfl w3.heap.size (bRow next) rfl rfl _ H8n.out (I24.out next HNext.out) (by rw [bRow_size now (by rw [HNow.out]; omega), bRow_size next (by rw [HNext.out]; omega)]) (bRow_one _) ?_; intro w9 hw9
                     have H9 := Lib.hid (show Holds w9 w3.heap.size (bRow next) by rw [hw9]; exact H8n.out.row _)
                     have hb9 := (show Below w3.heap.size w3 w9 by rw [hw9]; exact below_setRow hb8 (Nat.le_refl _) _)
                     clear hw9)
        exact ⟨⟨k + 1, by omega, by go_num, by rw [HNX.out]; exact H9.out, hb9⟩, by simp [intOf]; omega⟩
    · have ekm : m - k = 0 := by omega
      rw [ekm, List.drop_zero, List.drop_zero] at hN
      have hnow := Sha.climb_len leaf HL.out W P.reverse
      have hR5 := HR3.out.below hb hgR
      generalize hnw : Sha.climb leaf W P.reverse = now at *
      have HNW := Lib.hid hnw
      clear hnw
      have heqs : ∀ W, (Op.equalIn 10000 24 (.agg (bRow now)) (.agg (bRow root))).run Tryd.prog W = .ok (decide (now = root)) W := fun W => hash_eq W now root hnow HRoot.out
      obtain ⟨T6, hT6⟩ := hN
      obtain ⟨T7, hT7⟩ := hR5
      have G6 := Lib.hid hT6
      have G7 := Lib.hid hT7
      have HNow := Lib.hid hnow
      clear hT6 hT7 hnow ekm
      go_wp2_with (first
        | (refine wpList_load_row rfl 24 (.tmp 12) rfl w3.heap.size rfl T6 _ (0, 0) _ G6.out Tryd.underlying24 rfl (I24.out now HNow.out) ?_)
        | (refine wpList_load_row rfl 24 (.tmp 5) rfl w.heap.size rfl T7 _ (0, 0) _ G7.out Tryd.underlying24 rfl (I24.out root HRoot.out) ?_))
      go_ret
      exact ⟨by rw [HNW.out]; rfl, hb3.trans (hb.mono hb3.size)⟩
theorem Proves_any (root : List UInt8) (n i : Int) (s : ByteArray) (A : Option Addr) (P : List (List UInt8)) (cap : Nat) (w : World) (hT : Tab w) (hroot : root.length = 32) (hP : Hashes w A P) (hP32 : ∀ p ∈ P, p.length = 32)
    (hn : n ≤ 9223372036854775807) (hs : s.size ≤ 1152921504606846000) :
    Calls Tryd.prog 24 #[.agg (bRow root), .int .i64 n, .int .i64 i, .string s, .slice A P.length cap] w fun e w' =>
      e = .returned (.bool (if i < 0 ∨ n ≤ i then false else Sha.proves root n.toNat i.toNat s.data.toList P)) ∧ Below w.heap.size w w' := by
  by_cases h : i < 0 ∨ n ≤ i
  · rw [if_pos h]; exact Proves_range root n i s A P.length cap w h
  · rw [if_neg h]
    obtain ⟨i', rfl⟩ : ∃ i' : Nat, i = i' := ⟨i.toNat, by omega⟩
    obtain ⟨n', rfl⟩ : ∃ n' : Nat, n = n' := ⟨n.toNat, by omega⟩
    rw [Int.toNat_natCast, Int.toNat_natCast]
    unfold Sha.proves
    by_cases hl : P.length = (Sha.path n' i').length
    · rw [decide_eq_true hl.symm, Bool.true_and]
      exact Proves_eq root n' i' s A P cap w hT hroot hP hP32 (by omega) (by omega) hl hs
    · rw [decide_eq_false (fun h => hl h.symm), Bool.false_and]
      exact Proves_short root n' i' s A P.length cap w (by omega) (by omega) hl
end Go.Proofs.YtdifbndpgbdkbaaDoor
