/- seal.Check and the reference's: what they return. -/
import Derived.Test.YtdifbndpgbdkbaaDoorSealTag3
import Derived.Test.YtdifbndpgbdkbaaDoorHashEq
namespace Go.Proofs.YtdifbndpgbdkbaaDoor
open Go.RowKit
set_option linter.unusedVariables false
set_option linter.unusedSimpArgs false

namespace Seal
def check2 (who dom : Int) (body t : List UInt8) : Int := if (tag who dom body).2 ≠ 0 then (tag who dom body).2 else if (tag who dom body).1 ≠ t then 21 else 0
end Seal

set_option maxHeartbeats 1000000 in
set_option maxRecDepth 100000 in
theorem Check_any (who dom : Int) (body : ByteArray) (t : List UInt8) (w : World) (hT : Tab w) (ht : t.length = 32) (hs : body.size ≤ 140737488354900) :
    Calls Tryd.prog 31 #[.int .i64 who, .int .i64 dom, .string body, .agg (bRow t)] w fun e w' => e = .returned (.int .i64 (Seal.check2 who dom body.data.toList t)) ∧ Below w.heap.size w w' := by
  have hlen := Seal.tag_len who dom body.data.toList
  have tagc := fun (w1 : World) (hb : Below w.heap.size w w1) => Tag_any who dom body w1 (hT.below hb hT.pos) (by omega)
  unfold Seal.check2
  generalize (Seal.tag who dom body.data.toList).1 = R at *
  generalize (Seal.tag who dom body.data.toList).2 = e0 at *
  have heqs : ∀ W, (Op.equalIn 10000 24 (.agg (bRow R)) (.agg (bRow t))).run Tryd.prog W = .ok (decide (R = t)) W := fun W => hash_eq W R t hlen ht
  have I24 := Lib.hid (i24_any R (by omega))
  have I24t := Lib.hid (i24_any t (by omega))
  have Hold := Lib.hid (bRow_same [] R (by simp) (by omega))
  have TAG := Lib.hid tagc
  clear tagc hlen ht hT
  by_cases he : e0 = 0
  · have hb : (e0 != 0) = false := by simp [he]
    by_cases hR : R = t
    · have hd : decide (R = t) = true := by simp [hR]
      rw [if_neg (by simpa using he), if_neg (by simpa using hR)]
      have HE := Lib.hid he
      have HR := Lib.hid hR
      clear he hR
      go_enter Tryd.func31, Tryd.ntmps31
      go_wp2_with fail
      refine calls_named ?_
      intro w1 hw1
      have hH : Holds w1 w.heap.size (bRow t) := by rw [hw1]; exact Holds.new _ _ _
      have hb1 : Below w.heap.size w w1 := by rw [hw1]; exact (Below.refl _ _).alloc (Nat.le_refl _) _
      clear hw1
      refine (TAG.out w1 hb1).mono ?_
      rintro e w2 ⟨rfl, hb2⟩
      have hH2 := hH.below hb2 hH.lt
      have HH2 := Lib.hid hH2
      have hb2 := hb1.trans (hb2.mono hb1.size)
      have hlt := hH2.lt
      clear hH hH2
      go_wp2_with (first
        | (refine wpList_store_named rfl 24 (.tmp 9) (.tmp 16) rfl w2.heap.size (bRow R) rfl rfl (bRow []) (Holds.new2 rfl rfl) I24.out Hold.out (bRow_one _) ?_; intro w5 hw5
           obtain ⟨T5, hT5⟩ := (show Holds w5 w2.heap.size (bRow R) by rw [hw5]; exact (Holds.new2 rfl rfl).row _)
           obtain ⟨T6, hT6⟩ := (show Holds w5 w.heap.size (bRow t) by rw [hw5]; exact (HH2.out.alloc _).rowFar (by omega) _)
           have G5 := Lib.hid hT5
           have G6 := Lib.hid hT6
           have hb5 := (show Below w.heap.size w w5 by rw [hw5]; exact below_setRow (hb2.alloc hb2.size _) hb2.size _)
           clear hw5 hT5 hT6)
        | (refine wpList_load_row rfl 24 (.tmp 9) rfl w2.heap.size rfl T5 _ (0, 0) _ G5.out Tryd.underlying24 rfl I24.out ?_)
        | (refine wpList_load_row rfl 24 (.tmp 7) rfl w.heap.size rfl T6 _ (0, 0) _ G6.out Tryd.underlying24 rfl I24t.out ?_))
      go_ret
      exact ⟨rfl, hb5⟩
    · have hd : decide (R = t) = false := by simp [hR]
      rw [if_neg (by simpa using he), if_pos hR]
      have HE := Lib.hid he
      have HR := Lib.hid hR
      clear he hR
      go_enter Tryd.func31, Tryd.ntmps31
      go_wp2_with fail
      refine calls_named ?_
      intro w1 hw1
      have hH : Holds w1 w.heap.size (bRow t) := by rw [hw1]; exact Holds.new _ _ _
      have hb1 : Below w.heap.size w w1 := by rw [hw1]; exact (Below.refl _ _).alloc (Nat.le_refl _) _
      clear hw1
      refine (TAG.out w1 hb1).mono ?_
      rintro e w2 ⟨rfl, hb2⟩
      have hH2 := hH.below hb2 hH.lt
      have HH2 := Lib.hid hH2
      have hb2 := hb1.trans (hb2.mono hb1.size)
      have hlt := hH2.lt
      clear hH hH2
      go_wp2_with (first
        | (refine wpList_store_named rfl 24 (.tmp 9) (.tmp 16) rfl w2.heap.size (bRow R) rfl rfl (bRow []) (Holds.new2 rfl rfl) I24.out Hold.out (bRow_one _) ?_; intro w5 hw5
           obtain ⟨T5, hT5⟩ := (show Holds w5 w2.heap.size (bRow R) by rw [hw5]; exact (Holds.new2 rfl rfl).row _)
           obtain ⟨T6, hT6⟩ := (show Holds w5 w.heap.size (bRow t) by rw [hw5]; exact (HH2.out.alloc _).rowFar (by omega) _)
           have G5 := Lib.hid hT5
           have G6 := Lib.hid hT6
           have hb5 := (show Below w.heap.size w w5 by rw [hw5]; exact below_setRow (hb2.alloc hb2.size _) hb2.size _)
           clear hw5 hT5 hT6)
        | (refine wpList_load_row rfl 24 (.tmp 9) rfl w2.heap.size rfl T5 _ (0, 0) _ G5.out Tryd.underlying24 rfl I24.out ?_)
        | (refine wpList_load_row rfl 24 (.tmp 7) rfl w.heap.size rfl T6 _ (0, 0) _ G6.out Tryd.underlying24 rfl I24t.out ?_))
      go_ret
      exact ⟨rfl, hb5⟩
  · have hb : (e0 != 0) = true := by simpa using he
    rw [if_pos he]
    have HE := Lib.hid he
    clear he
    go_enter Tryd.func31, Tryd.ntmps31
    go_wp2_with fail
    refine calls_named ?_
    intro w1 hw1
    have hH : Holds w1 w.heap.size (bRow t) := by rw [hw1]; exact Holds.new _ _ _
    have hb1 : Below w.heap.size w w1 := by rw [hw1]; exact (Below.refl _ _).alloc (Nat.le_refl _) _
    clear hw1
    refine (TAG.out w1 hb1).mono ?_
    rintro e w2 ⟨rfl, hb2⟩
    have hH2 := hH.below hb2 hH.lt
    have HH2 := Lib.hid hH2
    have hb2 := hb1.trans (hb2.mono hb1.size)
    have hlt := hH2.lt
    clear hH hH2
    go_wp2_with (first
      | (refine wpList_store_named rfl 24 (.tmp 9) (.tmp 16) rfl w2.heap.size (bRow R) rfl rfl (bRow []) (Holds.new2 rfl rfl) I24.out Hold.out (bRow_one _) ?_; intro w5 hw5
         obtain ⟨T5, hT5⟩ := (show Holds w5 w2.heap.size (bRow R) by rw [hw5]; exact (Holds.new2 rfl rfl).row _)
         obtain ⟨T6, hT6⟩ := (show Holds w5 w.heap.size (bRow t) by rw [hw5]; exact (HH2.out.alloc _).rowFar (by omega) _)
         have G5 := Lib.hid hT5
         have G6 := Lib.hid hT6
         have hb5 := (show Below w.heap.size w w5 by rw [hw5]; exact below_setRow (hb2.alloc hb2.size _) hb2.size _)
         clear hw5 hT5 hT6)
      | (refine wpList_load_row rfl 24 (.tmp 9) rfl w2.heap.size rfl T5 _ (0, 0) _ G5.out Tryd.underlying24 rfl I24.out ?_)
      | (refine wpList_load_row rfl 24 (.tmp 7) rfl w.heap.size rfl T6 _ (0, 0) _ G6.out Tryd.underlying24 rfl I24t.out ?_))
    go_ret
    exact ⟨rfl, hb5⟩

set_option maxHeartbeats 1000000 in
set_option maxRecDepth 100000 in
theorem refCheck_any (hRS : RefSum) (who dom : Int) (body : ByteArray) (t : List UInt8) (w : World) (ht : t.length = 32) (hs : body.size ≤ 140737488354900) :
    Calls Tryd.prog 32 #[.int .i64 who, .int .i64 dom, .string body, .agg (bRow t)] w fun e w' => e = .returned (.int .i64 (Seal.check2 who dom body.data.toList t)) ∧ Below w.heap.size w w' := by
  have hlen := Seal.tag_len who dom body.data.toList
  have tagc := fun (w1 : World) (hb : Below w.heap.size w w1) => refTag_any hRS who dom body w1 hs
  unfold Seal.check2
  generalize (Seal.tag who dom body.data.toList).1 = R at *
  generalize (Seal.tag who dom body.data.toList).2 = e0 at *
  have heqs : ∀ W, (Op.equalIn 10000 24 (.agg (bRow R)) (.agg (bRow t))).run Tryd.prog W = .ok (decide (R = t)) W := fun W => hash_eq W R t hlen ht
  have I24 := Lib.hid (i24_any R (by omega))
  have I24t := Lib.hid (i24_any t (by omega))
  have Hold := Lib.hid (bRow_same [] R (by simp) (by omega))
  have TAG := Lib.hid tagc
  clear tagc hlen ht hRS
  by_cases he : e0 = 0
  · have hb : (e0 != 0) = false := by simp [he]
    by_cases hR : R = t
    · have hd : decide (R = t) = true := by simp [hR]
      rw [if_neg (by simpa using he), if_neg (by simpa using hR)]
      have HE := Lib.hid he
      have HR := Lib.hid hR
      clear he hR
      go_enter Tryd.func32, Tryd.ntmps32
      go_wp2_with fail
      refine calls_named ?_
      intro w1 hw1
      have hH : Holds w1 w.heap.size (bRow t) := by rw [hw1]; exact Holds.new _ _ _
      have hb1 : Below w.heap.size w w1 := by rw [hw1]; exact (Below.refl _ _).alloc (Nat.le_refl _) _
      clear hw1
      refine (TAG.out w1 hb1).mono ?_
      rintro e w2 ⟨rfl, hb2⟩
      have hH2 := hH.below hb2 hH.lt
      have HH2 := Lib.hid hH2
      have hb2 := hb1.trans (hb2.mono hb1.size)
      have hlt := hH2.lt
      clear hH hH2
      go_wp2_with (first
        | (refine wpList_store_named rfl 24 (.tmp 9) (.tmp 16) rfl w2.heap.size (bRow R) rfl rfl (bRow []) (Holds.new2 rfl rfl) I24.out Hold.out (bRow_one _) ?_; intro w5 hw5
           obtain ⟨T5, hT5⟩ := (show Holds w5 w2.heap.size (bRow R) by rw [hw5]; exact (Holds.new2 rfl rfl).row _)
           obtain ⟨T6, hT6⟩ := (show Holds w5 w.heap.size (bRow t) by rw [hw5]; exact (HH2.out.alloc _).rowFar (by omega) _)
           have G5 := Lib.hid hT5
           have G6 := Lib.hid hT6
           have hb5 := (show Below w.heap.size w w5 by rw [hw5]; exact below_setRow (hb2.alloc hb2.size _) hb2.size _)
           clear hw5 hT5 hT6)
        | (refine wpList_load_row rfl 24 (.tmp 9) rfl w2.heap.size rfl T5 _ (0, 0) _ G5.out Tryd.underlying24 rfl I24.out ?_)
        | (refine wpList_load_row rfl 24 (.tmp 7) rfl w.heap.size rfl T6 _ (0, 0) _ G6.out Tryd.underlying24 rfl I24t.out ?_))
      go_ret
      exact ⟨rfl, hb5⟩
    · have hd : decide (R = t) = false := by simp [hR]
      rw [if_neg (by simpa using he), if_pos hR]
      have HE := Lib.hid he
      have HR := Lib.hid hR
      clear he hR
      go_enter Tryd.func32, Tryd.ntmps32
      go_wp2_with fail
      refine calls_named ?_
      intro w1 hw1
      have hH : Holds w1 w.heap.size (bRow t) := by rw [hw1]; exact Holds.new _ _ _
      have hb1 : Below w.heap.size w w1 := by rw [hw1]; exact (Below.refl _ _).alloc (Nat.le_refl _) _
      clear hw1
      refine (TAG.out w1 hb1).mono ?_
      rintro e w2 ⟨rfl, hb2⟩
      have hH2 := hH.below hb2 hH.lt
      have HH2 := Lib.hid hH2
      have hb2 := hb1.trans (hb2.mono hb1.size)
      have hlt := hH2.lt
      clear hH hH2
      go_wp2_with (first
        | (refine wpList_store_named rfl 24 (.tmp 9) (.tmp 16) rfl w2.heap.size (bRow R) rfl rfl (bRow []) (Holds.new2 rfl rfl) I24.out Hold.out (bRow_one _) ?_; intro w5 hw5
           obtain ⟨T5, hT5⟩ := (show Holds w5 w2.heap.size (bRow R) by rw [hw5]; exact (Holds.new2 rfl rfl).row _)
           obtain ⟨T6, hT6⟩ := (show Holds w5 w.heap.size (bRow t) by rw [hw5]; exact (HH2.out.alloc _).rowFar (by omega) _)
           have G5 := Lib.hid hT5
           have G6 := Lib.hid hT6
           have hb5 := (show Below w.heap.size w w5 by rw [hw5]; exact below_setRow (hb2.alloc hb2.size _) hb2.size _)
           clear hw5 hT5 hT6)
        | (refine wpList_load_row rfl 24 (.tmp 9) rfl w2.heap.size rfl T5 _ (0, 0) _ G5.out Tryd.underlying24 rfl I24.out ?_)
        | (refine wpList_load_row rfl 24 (.tmp 7) rfl w.heap.size rfl T6 _ (0, 0) _ G6.out Tryd.underlying24 rfl I24t.out ?_))
      go_ret
      exact ⟨rfl, hb5⟩
  · have hb : (e0 != 0) = true := by simpa using he
    rw [if_pos he]
    have HE := Lib.hid he
    clear he
    go_enter Tryd.func32, Tryd.ntmps32
    go_wp2_with fail
    refine calls_named ?_
    intro w1 hw1
    have hH : Holds w1 w.heap.size (bRow t) := by rw [hw1]; exact Holds.new _ _ _
    have hb1 : Below w.heap.size w w1 := by rw [hw1]; exact (Below.refl _ _).alloc (Nat.le_refl _) _
    clear hw1
    refine (TAG.out w1 hb1).mono ?_
    rintro e w2 ⟨rfl, hb2⟩
    have hH2 := hH.below hb2 hH.lt
    have HH2 := Lib.hid hH2
    have hb2 := hb1.trans (hb2.mono hb1.size)
    have hlt := hH2.lt
    clear hH hH2
    go_wp2_with (first
      | (refine wpList_store_named rfl 24 (.tmp 9) (.tmp 16) rfl w2.heap.size (bRow R) rfl rfl (bRow []) (Holds.new2 rfl rfl) I24.out Hold.out (bRow_one _) ?_; intro w5 hw5
         obtain ⟨T5, hT5⟩ := (show Holds w5 w2.heap.size (bRow R) by rw [hw5]; exact (Holds.new2 rfl rfl).row _)
         obtain ⟨T6, hT6⟩ := (show Holds w5 w.heap.size (bRow t) by rw [hw5]; exact (HH2.out.alloc _).rowFar (by omega) _)
         have G5 := Lib.hid hT5
         have G6 := Lib.hid hT6
         have hb5 := (show Below w.heap.size w w5 by rw [hw5]; exact below_setRow (hb2.alloc hb2.size _) hb2.size _)
         clear hw5 hT5 hT6)
      | (refine wpList_load_row rfl 24 (.tmp 9) rfl w2.heap.size rfl T5 _ (0, 0) _ G5.out Tryd.underlying24 rfl I24.out ?_)
      | (refine wpList_load_row rfl 24 (.tmp 7) rfl w.heap.size rfl T6 _ (0, 0) _ G6.out Tryd.underlying24 rfl I24t.out ?_))
    go_ret
    exact ⟨rfl, hb5⟩
end Go.Proofs.YtdifbndpgbdkbaaDoor
