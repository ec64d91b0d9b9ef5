/- Layer 1's laws: what they return. -/
import Derived.Test.YtkbgeafkdeddjaaOctRef3
namespace Go.Proofs.Ytkbgeafkdeddjaa
open Go.RowKit
set_option linter.unusedVariables false

theorem awake1_any (w : World) :
    Calls Try.prog 13 #[] w fun e w' => e = .returned (.bool true) ∧ Below w.heap.size w w' := by
  have e1 : Oct.numE 300 = ([2, 1, 44], 0) := by decide
  have e2 : rdNumV ⟨#[2, 1, 44]⟩ 0 = three 300 3 0 := by
    have h : Oct.rdNum [2, 1, 44] 0 = (300, 3, 0) := by decide
    unfold rdNumV
    rw [show (⟨#[2, 1, 44]⟩ : ByteArray).data.toList = [2, 1, 44] from rfl, h]
  have e3 : Oct.textE [97, 98] = ([1, 2, 97, 98], 0) := by decide
  have E1 := Lib.hid e1
  have E2 := Lib.hid e2
  have E3 := Lib.hid e3
  clear e1 e2 e3
  go_enter Try.func13, Try.ntmps13
  go_wp2_with fail
  refine (Number_any _ _ (by omega)).mono ?_
  rintro e w1 ⟨rfl, hb1⟩
  rw [E1.out]
  unfold two
  go_wp2_with fail
  refine (readNumber_any ⟨#[2, 1, 44]⟩ 0 _ (by decide)).mono ?_
  rintro e w2 ⟨rfl, rfl⟩
  rw [E2.out]
  unfold three
  go_wp2_with fail
  refine (Text_any ⟨#[97, 98]⟩ _ (by decide)).mono ?_
  rintro e w2 ⟨rfl, hb2⟩
  rw [show (⟨#[97, 98]⟩ : ByteArray).data.toList = [97, 98] from rfl, E3.out]
  unfold two
  go_wp2_with fail
  go_ret
  exact ⟨rfl, hb1.trans (hb2.mono hb1.size)⟩

theorem octetsLays_any (n : Int) (s : ByteArray) (w : World) (hn : n ≤ 9223372036854775807) (hs : s.size ≤ 9223372036854775807) :
    Calls Try.prog 3 #[.int .i64 n, .string s] w fun e w' => e = .returned (.bool true) ∧ Below w.heap.size w w' := by
  rcases hx : Oct.numE n with ⟨a, ea⟩
  rcases hy : Oct.textE s.data.toList with ⟨c, ec⟩
  have Hx := Lib.hid hx
  have Hy := Lib.hid hy
  clear hx hy
  go_enter Try.func3, Try.ntmps3
  go_wp2_with fail
  refine (Number_any _ _ hn).mono ?_
  rintro e w1 ⟨rfl, hb1⟩
  rw [Hx.out]
  unfold two
  go_wp2_with fail
  refine (refNumber_any _ _ hn).mono ?_
  rintro e w2 ⟨rfl, hb2⟩
  rw [Hx.out]
  unfold two
  go_wp2_with fail
  refine (Text_any _ _ hs).mono ?_
  rintro e w3 ⟨rfl, hb3⟩
  rw [Hy.out]
  unfold two
  go_wp2_with fail
  refine (refText_any _ _).mono ?_
  rintro e w4 ⟨rfl, hb4⟩
  rw [Hy.out]
  unfold two
  go_wp2_with fail
  refine (awake1_any _).mono ?_
  rintro e w5 ⟨rfl, hb5⟩
  go_wp2_with fail
  go_ret
  have h2 := hb1.trans (hb2.mono hb1.size)
  have h3 := h2.trans (hb3.mono h2.size)
  have h4 := h3.trans (hb4.mono h3.size)
  exact ⟨rfl, h4.trans (hb5.mono h4.size)⟩
end Go.Proofs.Ytkbgeafkdeddjaa
