/- seal.Tag: what it returns. -/
import Derived.Test.YtdifbndpgbdkbaaDoorSealTag
namespace Go.Proofs.YtdifbndpgbdkbaaDoor
open Go.RowKit
set_option linter.unusedVariables false
set_option linter.unusedSimpArgs false

theorem HN_hz (e : Int) : HN Seal.hz e = HN [] e := by unfold HN; rw [bRow_hz]

set_option maxHeartbeats 1000000 in
set_option maxRecDepth 100000 in
theorem Tag_who (who dom : Int) (body : ByteArray) (w : World) (h : who < 0 ∨ 64 < who) :
    Calls Tryd.prog 29 #[.int .i64 who, .int .i64 dom, .string body] w fun e w' => e = .returned (HN Seal.hz 20) ∧ Below w.heap.size w w' := by
  have I24 := Lib.hid (i24_any [] (by simp))
  rw [HN_hz]
  go_enter Tryd.func29, Tryd.ntmps29
  go_wp2_with fail
  refine calls_named ?_
  intro w1 hw1
  have hH : Holds w1 w.heap.size (bRow []) := by rw [hw1]; exact Holds.new _ _ _
  have hb1 : Below w.heap.size w w1 := by rw [hw1]; exact (Below.refl _ _).alloc (Nat.le_refl _) _
  clear hw1
  have hk := key_no who w1 h
  rw [HN_hz] at hk
  refine hk.mono ?_
  rintro e w2 ⟨rfl, hb2⟩
  have HH2 := Lib.hid (hH.below hb2 hH.lt)
  have hb2 := hb1.trans (hb2.mono hb1.size)
  clear hk hH
  go_wp2_with (first
    | (refine wpList_store_named rfl 24 (.tmp 8) (.tmp 13) rfl w2.heap.size (bRow []) rfl rfl (bRow []) (Holds.new2 rfl rfl) I24.out rfl (bRow_one _) ?_; intro w5 hw5
       have H5 := Lib.hid (show Holds w5 w.heap.size (bRow []) by rw [hw5]; exact (HH2.out.alloc _).rowFar (by have := HH2.out.lt; omega) _)
       have hb5 := (show Below w.heap.size w w5 by rw [hw5]; exact below_setRow (hb2.alloc hb2.size _) hb2.size _)
       clear hw5)
    | (refine wpList_store_named rfl 24 (.tmp 6) (.tmp 17) rfl w.heap.size (bRow []) rfl rfl (bRow []) H5.out I24.out rfl (bRow_one _) ?_; intro w7 hw7; have Hw7 := Lib.hid hw7; clear hw7))
  have hR7 : Holds w7 w.heap.size (bRow []) := by rw [Hw7.out]; exact H5.out.row _
  exact bodyPost_ret (results_row_tmp rfl _ _ w.heap.size (bRow []) _ rfl hR7 Tryd.underlying24 rfl I24.out _ rfl) rfl ⟨rfl, by rw [Hw7.out]; exact below_setRow hb5 (Nat.le_refl _) _⟩

set_option maxHeartbeats 1000000 in
set_option maxRecDepth 100000 in
theorem Tag_dom (who dom : Int) (body : ByteArray) (w : World) (h0 : 0 ≤ who) (h1 : who ≤ 64) (hT : Tab w) (h : dom < 1 ∨ 4 < dom) :
    Calls Tryd.prog 29 #[.int .i64 who, .int .i64 dom, .string body] w fun e w' => e = .returned (HN Seal.hz 2) ∧ Below w.heap.size w w' := by
  obtain ⟨K, hK⟩ : ∃ K, K = Seal.keyL who.toNat := ⟨_, rfl⟩
  have hK32 : K.length ≤ 32 := by rw [hK, Seal.keyL_len]; omega
  have I24 := Lib.hid (i24_any [] (by simp))
  have I24k := Lib.hid (i24_any K hK32)
  have Hold := Lib.hid (bRow_same [] K (by simp) hK32)
  have key := fun (w1 : World) (hb1 : Below w.heap.size w w1) => key_yes who w1 (hT.below hb1 hT.pos) h0 h1
  rw [← hK] at key
  have KEY := Lib.hid key
  rw [HN_hz]
  clear hK hK32 key hT
  rcases h with h | h
  all_goals
    go_enter Tryd.func29, Tryd.ntmps29
    go_wp2_with fail
    refine calls_named ?_
    intro w1 hw1
    have hH : Holds w1 w.heap.size (bRow []) := by rw [hw1]; exact Holds.new _ _ _
    have hb1 : Below w.heap.size w w1 := by rw [hw1]; exact (Below.refl _ _).alloc (Nat.le_refl _) _
    clear hw1
    refine (KEY.out w1 hb1).mono ?_
    rintro e w2 ⟨rfl, hb2⟩
    have HH2 := Lib.hid (hH.below hb2 hH.lt)
    have hb2 := hb1.trans (hb2.mono hb1.size)
    clear hH
    go_wp2_with (first
      | (refine wpList_store_named rfl 24 (.tmp 8) (.tmp 13) rfl w2.heap.size (bRow K) rfl rfl (bRow []) (Holds.new2 rfl rfl) I24k.out Hold.out (bRow_one _) ?_; intro w5 hw5
         have H5 := Lib.hid (show Holds w5 w.heap.size (bRow []) by rw [hw5]; exact (HH2.out.alloc _).rowFar (by have := HH2.out.lt; omega) _)
         have hb5 := (show Below w.heap.size w w5 by rw [hw5]; exact below_setRow (hb2.alloc hb2.size _) hb2.size _)
         clear hw5)
      | (refine wpList_store_named rfl 24 (.tmp 6) (.tmp 25) rfl w.heap.size (bRow []) rfl rfl (bRow []) H5.out I24.out rfl (bRow_one _) ?_; intro w7 hw7; have Hw7 := Lib.hid hw7; clear hw7))
    have hR7 : Holds w7 w.heap.size (bRow []) := by rw [Hw7.out]; exact H5.out.row _
    exact bodyPost_ret (results_row_tmp rfl _ _ w.heap.size (bRow []) _ rfl hR7 Tryd.underlying24 rfl I24.out _ rfl) rfl ⟨rfl, by rw [Hw7.out]; exact below_setRow hb5 (Nat.le_refl _) _⟩

set_option maxHeartbeats 1000000 in
set_option maxRecDepth 100000 in
theorem Tag_yes (who dom : Int) (body : ByteArray) (w : World) (hT : Tab w) (h0 : 0 ≤ who) (h1 : who ≤ 64) (h2 : 1 ≤ dom) (h3 : dom ≤ 4) (hs : body.size ≤ 1152921504606846900) :
    Calls Tryd.prog 29 #[.int .i64 who, .int .i64 dom, .string body] w fun e w' => e = .returned (HN (Seal.tagL (Seal.keyL who.toNat) dom.toNat body.data.toList) 0) ∧ Below w.heap.size w w' := by
  have HT := Lib.hid hT
  have hpos := hT.pos
  obtain ⟨K, hK⟩ : ∃ K, K = Seal.keyL who.toNat := ⟨_, rfl⟩
  have hK32 : K.length ≤ 32 := by rw [hK, Seal.keyL_len]; omega
  have hKl : K.length = 32 := by rw [hK, Seal.keyL_len]
  have I24k := Lib.hid (i24_any K hK32)
  have Hold := Lib.hid (bRow_same [] K (by simp) hK32)
  have key := fun (w1 : World) (hb1 : Below w.heap.size w w1) => key_yes who w1 (hT.below hb1 hT.pos) h0 h1
  rw [← hK] at key
  have KEY := Lib.hid key
  have HKl := Lib.hid hKl
  rw [← hK]
  clear hK hK32 key hT hKl
  obtain ⟨R, hR⟩ : ∃ R, R = Seal.tagL K dom.toNat body.data.toList := ⟨_, rfl⟩
  have hR32 : R.length ≤ 32 := by rw [hR, Seal.tagL_len]; omega
  have I24 := Lib.hid (i24_any R hR32)
  have HoldR := Lib.hid (bRow_same [] R (by simp) hR32)
  have hut : IntKind.u8.wrap dom = dom := by rw [IntKind.wrap_u8]; omega
  rw [← hR]
  have HR := Lib.hid hR
  clear hR hR32
  go_enter Tryd.func29, Tryd.ntmps29
  go_wp2_with fail
  refine calls_named ?_
  intro w1 hw1
  have hH : Holds w1 w.heap.size (bRow []) := by rw [hw1]; exact Holds.new _ _ _
  have hb1 : Below w.heap.size w w1 := by rw [hw1]; exact (Below.refl _ _).alloc (Nat.le_refl _) _
  clear hw1
  refine (KEY.out w1 hb1).mono ?_
  rintro e w2 ⟨rfl, hb2⟩
  have HH2 := Lib.hid (hH.below hb2 hH.lt)
  have hb2 := hb1.trans (hb2.mono hb1.size)
  clear hH
  go_wp2_with (first
    | (refine wpList_store_named rfl 24 (.tmp 8) (.tmp 13) rfl w2.heap.size (bRow K) rfl rfl (bRow []) (Holds.new2 rfl rfl) I24k.out Hold.out (bRow_one _) ?_; intro w5 hw5
       have H5 := Lib.hid (show Holds w5 w.heap.size (bRow []) by rw [hw5]; exact (HH2.out.alloc _).rowFar (by have := HH2.out.lt; omega) _)
       have hb5 := (show Below w.heap.size w w5 by rw [hw5]; exact below_setRow (hb2.alloc hb2.size _) hb2.size _)
       obtain ⟨T5, hT5⟩ := (show Holds w5 w2.heap.size (bRow K) by rw [hw5]; exact (Holds.new2 rfl rfl).row _)
       have G5 := Lib.hid hT5
       clear hw5 hT5)
    | (refine wpList_load_row rfl 24 (.tmp 8) rfl w2.heap.size rfl T5 _ (0, 0) _ G5.out Tryd.underlying24 rfl I24k.out ?_))
  refine (tag_any K dom body w5 (HT.out.below hb5 hpos) HKl.out (by omega) (by omega) hs).mono ?_
  rw [← HR.out]
  rintro e w6 ⟨rfl, hb6⟩
  have H6 := Lib.hid (H5.out.below hb6 H5.out.lt)
  have hb6 := hb5.trans (hb6.mono hb5.size)
  go_wp2_with (refine wpList_store_named rfl 24 (.tmp 6) (.tmp 30) rfl w.heap.size (bRow R) rfl rfl (bRow []) H6.out I24.out HoldR.out (bRow_one _) ?_; intro w7 hw7; have Hw7 := Lib.hid hw7; clear hw7)
  have hR7 : Holds w7 w.heap.size (bRow R) := by rw [Hw7.out]; exact H6.out.row _
  exact bodyPost_ret (results_row_tmp rfl _ _ w.heap.size (bRow R) _ rfl hR7 Tryd.underlying24 rfl I24.out _ rfl) rfl ⟨rfl, by rw [Hw7.out]; exact below_setRow hb6 (Nat.le_refl _) _⟩
theorem Tag_any (who dom : Int) (body : ByteArray) (w : World) (hT : Tab w) (hs : body.size ≤ 1152921504606846900) :
    Calls Tryd.prog 29 #[.int .i64 who, .int .i64 dom, .string body] w fun e w' => e = .returned (HN (Seal.tag who dom body.data.toList).1 (Seal.tag who dom body.data.toList).2) ∧ Below w.heap.size w w' := by
  unfold Seal.tag
  by_cases h : who < 0 ∨ 64 < who
  · rw [if_pos h]; exact Tag_who who dom body w h
  · rw [if_neg h]
    by_cases h2 : dom < 1 ∨ 4 < dom
    · rw [if_pos h2]; exact Tag_dom who dom body w (by omega) (by omega) hT h2
    · rw [if_neg h2]; exact Tag_yes who dom body w hT (by omega) (by omega) (by omega) (by omega) hs
end Go.Proofs.YtdifbndpgbdkbaaDoor
