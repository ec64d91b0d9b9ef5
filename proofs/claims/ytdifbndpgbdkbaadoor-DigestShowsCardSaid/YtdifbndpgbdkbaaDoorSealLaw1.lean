/- The laws SealKeys, SealTags: what their functions return. -/
import Derived.Test.YtdifbndpgbdkbaaDoorSealAwk
namespace Go.Proofs.YtdifbndpgbdkbaaDoor
open Go.RowKit
set_option linter.unusedVariables false
set_option linter.unusedSimpArgs false

set_option maxHeartbeats 2000000 in
set_option maxRecDepth 100000 in
theorem sealKeys_any (hRS : RefSum) (who : Int) (w : World) (hT : Tab w) :
    Calls Tryd.prog 9 #[.int .i64 who] w fun e w' => e = .returned (.bool true) ∧ Below w.heap.size w w' := by
  have HT := Lib.hid hT
  have hpos := hT.pos
  have c1 := key_any who w hT
  have c2 := fun (w1 : World) => refKey_any hRS who w1
  have hlen : (Seal.key who).1.length = 32 := by first | exact Seal.key_len _ | exact Seal.tag_len _ _ _
  generalize (Seal.key who).1 = R at *
  generalize (Seal.key who).2 = e0 at *
  have heqs : ∀ W, (Op.equalIn 10000 24 (.agg (bRow R)) (.agg (bRow R))).run Tryd.prog W = .ok true W := fun W => (hash_eq W R R hlen hlen).trans (by rw [decide_eq_true rfl])
  have I24 := Lib.hid (i24_any R (by omega))
  have Hold := Lib.hid (bRow_same [] R (by simp) (by omega))
  have C1 := Lib.hid c1
  have C2 := Lib.hid c2
  clear hT c1 c2 hlen hRS
  go_enter Tryd.func9, Tryd.ntmps9
  go_wp2_with fail
  refine C1.out.mono ?_
  rintro e w1 ⟨rfl, hb1⟩
  go_wp2_with (refine wpList_store_named rfl 24 (.tmp 3) (.tmp 10) rfl w1.heap.size (bRow R) rfl rfl (bRow []) (Holds.new2 rfl rfl) I24.out Hold.out (bRow_one _) ?_; intro w5 hw5
               have H5 := Lib.hid (show Holds w5 w1.heap.size (bRow R) by rw [hw5]; exact (Holds.new2 rfl rfl).row _)
               have hb5 := (show Below w.heap.size w w5 by rw [hw5]; exact below_setRow (hb1.alloc hb1.size _) hb1.size _)
               clear hw5)
  refine (C2.out w5).mono ?_
  rintro e w6 ⟨rfl, hb6⟩
  have h6 := H5.out.below hb6 H5.out.lt
  have hlt6 := h6.lt
  have H6 := Lib.hid h6
  have hb6 := hb5.trans (hb6.mono hb5.size)
  clear h6
  go_wp2_with (refine wpList_store_named rfl 24 (.tmp 5) (.tmp 15) rfl w6.heap.size (bRow R) rfl rfl (bRow []) (Holds.new2 rfl rfl) I24.out Hold.out (bRow_one _) ?_; intro w7 hw7
               have H7 := Lib.hid (show Holds w7 w6.heap.size (bRow R) by rw [hw7]; exact (Holds.new2 rfl rfl).row _)
               have H7b := Lib.hid (show Holds w7 w1.heap.size (bRow R) by rw [hw7]; exact (H6.out.alloc _).rowFar (by omega) _)
               have hb7 := (show Below w.heap.size w w7 by rw [hw7]; exact below_setRow (hb6.alloc hb6.size _) hb6.size _)
               clear hw7)
  refine (awake3_any w7 (HT.out.below hb7 hpos)).mono ?_
  rintro e w8 ⟨rfl, hb8⟩
  obtain ⟨T8, hT8⟩ := H7.out.below hb8 H7.out.lt
  obtain ⟨T9, hT9⟩ := H7b.out.below hb8 H7b.out.lt
  have G8 := Lib.hid hT8
  have G9 := Lib.hid hT9
  have hb8 := hb7.trans (hb8.mono hb7.size)
  clear hT8 hT9
  go_wp2_with (first
    | (refine wpList_load_wanted rfl 24 (.tmp 3) rfl w1.heap.size rfl T9 _ (0, 0) _ G9.out Tryd.underlying24 rfl I24.out ?_)
    | (refine wpList_load_wanted rfl 24 (.tmp 5) rfl w6.heap.size rfl T8 _ (0, 0) _ G8.out Tryd.underlying24 rfl I24.out ?_))
  go_ret
  exact ⟨rfl, hb8⟩

set_option maxHeartbeats 2000000 in
set_option maxRecDepth 100000 in
theorem sealTags_any (hRS : RefSum) (who dom : Int) (body : ByteArray) (w : World) (hT : Tab w) (hs : body.size ≤ 140737488354900) :
    Calls Tryd.prog 10 #[.int .i64 who, .int .i64 dom, .string body] w fun e w' => e = .returned (.bool true) ∧ Below w.heap.size w w' := by
  have HT := Lib.hid hT
  have hpos := hT.pos
  have c1 := Tag_any who dom body w hT (by omega)
  have c2 := fun (w1 : World) => refTag_any hRS who dom body w1 hs
  have hlen : (Seal.tag who dom body.data.toList).1.length = 32 := by first | exact Seal.key_len _ | exact Seal.tag_len _ _ _
  generalize (Seal.tag who dom body.data.toList).1 = R at *
  generalize (Seal.tag who dom body.data.toList).2 = e0 at *
  have heqs : ∀ W, (Op.equalIn 10000 24 (.agg (bRow R)) (.agg (bRow R))).run Tryd.prog W = .ok true W := fun W => (hash_eq W R R hlen hlen).trans (by rw [decide_eq_true rfl])
  have I24 := Lib.hid (i24_any R (by omega))
  have Hold := Lib.hid (bRow_same [] R (by simp) (by omega))
  have C1 := Lib.hid c1
  have C2 := Lib.hid c2
  clear hT c1 c2 hlen hRS
  go_enter Tryd.func10, Tryd.ntmps10
  go_wp2_with fail
  refine C1.out.mono ?_
  rintro e w1 ⟨rfl, hb1⟩
  go_wp2_with (refine wpList_store_named rfl 24 (.tmp 7) (.tmp 16) rfl w1.heap.size (bRow R) rfl rfl (bRow []) (Holds.new2 rfl rfl) I24.out Hold.out (bRow_one _) ?_; intro w5 hw5
               have H5 := Lib.hid (show Holds w5 w1.heap.size (bRow R) by rw [hw5]; exact (Holds.new2 rfl rfl).row _)
               have hb5 := (show Below w.heap.size w w5 by rw [hw5]; exact below_setRow (hb1.alloc hb1.size _) hb1.size _)
               clear hw5)
  refine (C2.out w5).mono ?_
  rintro e w6 ⟨rfl, hb6⟩
  have h6 := H5.out.below hb6 H5.out.lt
  have hlt6 := h6.lt
  have H6 := Lib.hid h6
  have hb6 := hb5.trans (hb6.mono hb5.size)
  clear h6
  go_wp2_with (refine wpList_store_named rfl 24 (.tmp 9) (.tmp 23) rfl w6.heap.size (bRow R) rfl rfl (bRow []) (Holds.new2 rfl rfl) I24.out Hold.out (bRow_one _) ?_; intro w7 hw7
               have H7 := Lib.hid (show Holds w7 w6.heap.size (bRow R) by rw [hw7]; exact (Holds.new2 rfl rfl).row _)
               have H7b := Lib.hid (show Holds w7 w1.heap.size (bRow R) by rw [hw7]; exact (H6.out.alloc _).rowFar (by omega) _)
               have hb7 := (show Below w.heap.size w w7 by rw [hw7]; exact below_setRow (hb6.alloc hb6.size _) hb6.size _)
               clear hw7)
  refine (awake3_any w7 (HT.out.below hb7 hpos)).mono ?_
  rintro e w8 ⟨rfl, hb8⟩
  obtain ⟨T8, hT8⟩ := H7.out.below hb8 H7.out.lt
  obtain ⟨T9, hT9⟩ := H7b.out.below hb8 H7b.out.lt
  have G8 := Lib.hid hT8
  have G9 := Lib.hid hT9
  have hb8 := hb7.trans (hb8.mono hb7.size)
  clear hT8 hT9
  go_wp2_with (first
    | (refine wpList_load_wanted rfl 24 (.tmp 7) rfl w1.heap.size rfl T9 _ (0, 0) _ G9.out Tryd.underlying24 rfl I24.out ?_)
    | (refine wpList_load_wanted rfl 24 (.tmp 9) rfl w6.heap.size rfl T8 _ (0, 0) _ G8.out Tryd.underlying24 rfl I24.out ?_))
  go_ret
  exact ⟨rfl, hb8⟩
end Go.Proofs.YtdifbndpgbdkbaaDoor
