/- lane: New, Round, seat, Holder, Turn, Set. -/
import Derived.Test.YtlapmdgkcidhnaaDoorLnRef
namespace Go.Proofs.YtlapmdgkcidhnaaDoor
open Go.RowKit Go.Maps
set_option linter.unusedVariables false
set_option linter.unusedSimpArgs false

theorem laneNew_ok (n : Int) (w : World) (h1 : 1 ≤ n) (h2 : n ≤ 1099511627776) :
    Calls Tryd.prog 32 #[.int .i64 n] w fun e w' => e = .returned (.tuple #[.pointer (some ⟨w.heap.size + 1, 0, none⟩), .int .i64 0]) ∧ LaneAt w' (w.heap.size + 1) w.heap.size n [] 0 ∧ Below w.heap.size w w' := by
  have d1 : decide (n < 1) = false := by simp only [decide_eq_false_iff_not]; omega
  have d2 : decide (1099511627776 < n) = false := by simp only [decide_eq_false_iff_not]; omega
  have hmm := @run_makeMap Tryd.prog
  go_enter Tryd.func32, Tryd.ntmps32
  go_wp2_with fail
  go_ret2
  have hm := World.ownsMap_made (H := Value) w Tryd.prog 3 held16
  have e1 : (w.alloc (.map #[] 0)).heap.size = w.heap.size + 1 := by simp
  have hr := Row.new (w.alloc (.map #[] 0)) 115 [.int .i64 n, .map (some w.heap.size)]
  rw [e1] at hr
  exact ⟨rfl, ⟨hr, ⟨_, 0, Nat.le_refl _, hm.kept (grownBy_alloc _ _ none) (by simp), Reads16.empty⟩, ⟨Nat.le_refl _, by simp⟩, ⟨h1, h2⟩⟩, ((Below.refl _ _).alloc (Nat.le_refl _) _).alloc (by simp) _⟩
theorem laneNew_no (n : Int) (w : World) (h : n < 1 ∨ 1099511627776 < n) :
    Calls Tryd.prog 32 #[.int .i64 n] w fun e w' => e = .returned (.tuple #[.pointer none, .int .i64 2]) ∧ w = w' := by
  rcases Int.lt_or_le n 1 with h1 | h1
  · have d1 : decide (n < 1) = true := by simpa using h1
    go_enter Tryd.func32, Tryd.ntmps32
    go_wp2_with fail
    go_ret2
    exact ⟨rfl, rfl⟩
  · have d1 : decide (n < 1) = false := by simp only [decide_eq_false_iff_not]; omega
    have d2 : decide (1099511627776 < n) = true := by simp only [decide_eq_true_eq]; omega
    go_enter Tryd.func32, Tryd.ntmps32
    go_wp2_with fail
    go_ret2
    exact ⟨rfl, rfl⟩
theorem somebody16 (n : Int) (w : World) : Calls Tryd.prog 69 #[.int .i64 n] w fun e w' => e = .returned (.bool (Ln.okW n)) ∧ w = w' := by
  unfold Ln.okW
  by_cases h : 0 ≤ n
  · have d1 : decide (0 ≤ n) = true := by simpa using h
    rw [d1, Bool.true_and]
    by_cases h2 : n < 64
    · have d2 : decide (n < 64) = true := by simpa using h2
      have d3 : decide (n ≤ 63) = true := by simp; omega
      rw [d3]
      go_enter Tryd.func69, Tryd.ntmps69
      go_wp2_with fail
      go_ret
      exact ⟨rfl, rfl⟩
    · have d2 : decide (n < 64) = false := by simpa using h2
      have d3 : decide (n ≤ 63) = false := by simp; omega
      rw [d3]
      go_enter Tryd.func69, Tryd.ntmps69
      go_wp2_with fail
      go_ret
      exact ⟨rfl, rfl⟩
  · have d1 : decide (0 ≤ n) = false := by simpa using h
    rw [d1, Bool.false_and]
    go_enter Tryd.func69, Tryd.ntmps69
    go_wp2_with fail
    go_ret
    exact ⟨rfl, rfl⟩
theorem round_nil (now : Int) (w : World) : Calls Tryd.prog 36 #[.pointer none, .int .i64 now] w fun e w' => e = .returned (.int .i64 0) ∧ w = w' := by
  go_enter Tryd.func36, Tryd.ntmps36
  go_wp2_with fail
  go_ret
  exact ⟨rfl, rfl⟩
theorem round_any {w : World} {B M n : Nat} {len : Int} {L : List Ln.H} (now : Int) (h : LaneAt w B M len L n) (hn : now ≤ 9223372036854775807) :
    Calls Tryd.prog 36 #[.pointer (some ⟨B, 0, none⟩), .int .i64 now] w fun e w' => e = .returned (.int .i64 (Ln.rnd len now)) ∧ w = w' := by
  have c0 := h.c0
  obtain ⟨h1, h2⟩ := h.len
  unfold Ln.rnd
  clear h
  by_cases h0 : now < 0
  · have d1 : decide (now < 0) = true := by simpa using h0
    rw [if_pos h0]
    go_enter Tryd.func36, Tryd.ntmps36
    go_wp2_with fail
    go_ret
    exact ⟨rfl, rfl⟩
  · have d1 : decide (now < 0) = false := by simpa using h0
    rw [if_neg h0]
    have hz : ¬ len = 0 := by omega
    have hzb : (len == 0) = false := by simpa using hz
    have hq0 : 0 ≤ now / len := Int.ediv_nonneg (by omega) (by omega)
    have hq1 : now / len ≤ now := Int.ediv_le_self _ (by omega)
    have et : now.tdiv len = now / len := Int.tdiv_eq_ediv_of_nonneg (by omega)
    generalize now / len = q at *
    have ew : IntKind.i64.wrap q = q := IntWalk.i64_in _ (by omega)
    go_enter Tryd.func36, Tryd.ntmps36
    go_wp2_with fail
    go_ret
    refine ⟨?_, rfl⟩
    first | rfl | (rw [et]; done) | (rw [et, ew]) | (simp only [et, ew])
/-- what a look at a round allots -/
def seatW (w : World) : World := w.alloc (.cells #[.int .i64 0, .int .i64 0] 119)
theorem seat_nil (r : Int) (w : World) : Calls Tryd.prog 67 #[.pointer none, .int .i64 r] w fun e w' => e = .returned (.tuple #[seatV 0 0, .bool false]) ∧ Below w.heap.size w w' := by
  have hr := Row.new w 119 [.int .i64 0, .int .i64 0]
  have hb : Below w.heap.size w (w.alloc (.cells #[.int .i64 0, .int .i64 0] 119)) := (Below.refl _ _).alloc (Nat.le_refl _) _
  have Hr := Lib.hid hr
  have Hb := Lib.hid hb
  clear hr hb
  have hz := seat_zero
  go_enter Tryd.func67, Tryd.ntmps67
  go_wp2_with fail
  refine bodyPost_ret (results_rowL rfl _ _ (w.heap.size) 119 _ _ rfl Hr.out Tryd.underlying119 rfl (by kernel_rfl) _ rfl) rfl ⟨rfl, Hb.out⟩
theorem seat_any {w : World} {B M n : Nat} {len : Int} {L : List Ln.H} (r : Int) (h : LaneAt w B M len L n) (hr : Ln.fits r) :
    Calls Tryd.prog 67 #[.pointer (some ⟨B, 0, none⟩), .int .i64 r] w fun e w' => e = .returned (.tuple #[seatV (Ln.whoOf L r) (Ln.turnOf L r), .bool (Ln.look L r).isSome]) ∧ Below w.heap.size w w' := by
  have hb : Below w.heap.size w (w.alloc (.cells #[.int .i64 0, .int .i64 0] 119)) := (Below.refl _ _).alloc (Nat.le_refl _) _
  have h1 := h.below hb
  have c1 := h1.c1
  obtain ⟨D, N, hN, hD, hV⟩ := h1.map
  have hne : B ≠ w.heap.size := by have := h.ltB; omega
  have hz := seat_zero
  have HD := Lib.hid hD
  have HV := Lib.hid hV
  obtain ⟨wh, ew⟩ : ∃ wh, Ln.whoOf L r = wh := ⟨_, rfl⟩
  obtain ⟨tn, et⟩ : ∃ tn, Ln.turnOf L r = tn := ⟨_, rfl⟩
  obtain ⟨bb, eb⟩ : ∃ bb, (Ln.look L r).isSome = bb := ⟨_, rfl⟩
  rw [ew, et, eb]
  have Hw := Lib.hid ew
  have Ht := Lib.hid et
  have He := Lib.hid eb
  clear h h1 hD hV hb ew et eb hN
  go_enter Tryd.func67, Tryd.ntmps67
  go_wp2_with (at_lookup; refine wpList_look16 _ rfl _ _ true rfl r rfl HD.out HV.out rfl hr wh tn bb Hw.out Ht.out He.out ?_)
  refine bodyPost_ret (results_rowL rfl _ _ (w.heap.size) 119 [.int .i64 wh, .int .i64 tn] _ rfl ((Row.new w 119 [.int .i64 wh, .int .i64 tn]).below ((Below.refl _ _).alloc (Nat.le_refl _) _)) Tryd.underlying119 rfl (by kernel_rfl) _ rfl) rfl ⟨rfl, ((Below.refl _ _).alloc (Nat.le_refl _) _).alloc (by simp) _⟩
theorem holder_nil (r : Int) (w : World) : Calls Tryd.prog 38 #[.pointer none, .int .i64 r] w fun e w' => e = .returned (.tuple #[.int .i64 0, .bool false]) ∧ Below w.heap.size w w' := by
  go_enter Tryd.func38, Tryd.ntmps38
  go_wp2_with fail
  refine (seat_nil r w).mono ?_
  rintro _ w1 ⟨rfl, hb1⟩
  have HB1 := Lib.hid (hb1.alloc hb1.size (.cells #[.int .i64 0, .int .i64 0] 119))
  clear hb1
  go_wp2_with fail
  go_ret2
  exact ⟨rfl, HB1.out⟩
theorem turn_nil (r : Int) (w : World) : Calls Tryd.prog 40 #[.pointer none, .int .i64 r] w fun e w' => e = .returned (.int .i64 0) ∧ Below w.heap.size w w' := by
  go_enter Tryd.func40, Tryd.ntmps40
  go_wp2_with fail
  refine (seat_nil r w).mono ?_
  rintro _ w1 ⟨rfl, hb1⟩
  have HB1 := Lib.hid (hb1.alloc hb1.size (.cells #[.int .i64 0, .int .i64 0] 119))
  clear hb1
  go_wp2_with fail
  go_ret
  exact ⟨rfl, HB1.out⟩
theorem holder_any {w : World} {B M n : Nat} {len : Int} {L : List Ln.H} (r : Int) (h : LaneAt w B M len L n) (hr : Ln.fits r) :
    Calls Tryd.prog 38 #[.pointer (some ⟨B, 0, none⟩), .int .i64 r] w fun e w' => e = .returned (.tuple #[.int .i64 (Ln.whoOf L r), .bool (Ln.look L r).isSome]) ∧ Below w.heap.size w w' := by
  have HS := Lib.hid (seat_any r h hr)
  generalize Ln.whoOf L r = wh at *
  generalize Ln.turnOf L r = tn at *
  generalize (Ln.look L r).isSome = bb at *
  clear h
  go_enter Tryd.func38, Tryd.ntmps38
  go_wp2_with fail
  refine HS.out.mono ?_
  rintro _ w1 ⟨rfl, hb1⟩
  have HB1 := Lib.hid (hb1.alloc hb1.size (.cells #[.int .i64 wh, .int .i64 tn] 119))
  clear hb1
  go_wp2_with fail
  go_ret2
  exact ⟨rfl, HB1.out⟩
theorem turn_any {w : World} {B M n : Nat} {len : Int} {L : List Ln.H} (r : Int) (h : LaneAt w B M len L n) (hr : Ln.fits r) :
    Calls Tryd.prog 40 #[.pointer (some ⟨B, 0, none⟩), .int .i64 r] w fun e w' => e = .returned (.int .i64 (Ln.turnOf L r)) ∧ Below w.heap.size w w' := by
  have HS := Lib.hid (seat_any r h hr)
  generalize Ln.whoOf L r = wh at *
  generalize Ln.turnOf L r = tn at *
  generalize (Ln.look L r).isSome = bb at *
  clear h
  go_enter Tryd.func40, Tryd.ntmps40
  go_wp2_with fail
  refine HS.out.mono ?_
  rintro _ w1 ⟨rfl, hb1⟩
  have HB1 := Lib.hid (hb1.alloc hb1.size (.cells #[.int .i64 wh, .int .i64 tn] 119))
  clear hb1
  go_wp2_with fail
  go_ret
  exact ⟨rfl, HB1.out⟩
end Go.Proofs.YtlapmdgkcidhnaaDoor
