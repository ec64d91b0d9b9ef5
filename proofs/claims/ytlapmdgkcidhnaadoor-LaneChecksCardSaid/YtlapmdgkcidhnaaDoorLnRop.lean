/- The reference's lane: New, who, Round, At. -/
import Derived.Test.YtlapmdgkcidhnaaDoorLnRef
namespace Go.Proofs.YtlapmdgkcidhnaaDoor
open Go.RowKit Go.Maps
set_option linter.unusedVariables false
set_option linter.unusedSimpArgs false

theorem rlaneNew_ok (n : Int) (w : World) (h1 : 1 ≤ n) (h2 : n ≤ 1099511627776) :
    Calls Tryd.prog 33 #[.int .i64 n] w fun e w' => e = .returned (.tuple #[.pointer (some ⟨w.heap.size, 0, none⟩), .int .i64 0]) ∧ RLaneAt w' w.heap.size w.heap.size (.slice none 0 0) n [] 0 ∧ Below w.heap.size w w' := by
  have d1 : decide (n < 1) = false := by simp only [decide_eq_false_iff_not]; omega
  have d2 : decide (1099511627776 < n) = false := by simp only [decide_eq_false_iff_not]; omega
  go_enter Tryd.func33, Tryd.ntmps33
  go_wp2_with fail
  go_ret2
  exact ⟨rfl, ⟨Row.new w 85 [.int .i64 n, .slice none 0 0], OwnL.nil _ _ _ _ _, ⟨Nat.le_refl _, by simp⟩, ⟨h1, h2⟩, Nat.le_refl _⟩, (Below.refl _ _).alloc (Nat.le_refl _) _⟩
theorem rlaneNew_no (n : Int) (w : World) (h : n < 1 ∨ 1099511627776 < n) :
    Calls Tryd.prog 33 #[.int .i64 n] w fun e w' => e = .returned (.tuple #[.pointer none, .int .i64 2]) ∧ w = w' := by
  rcases Int.lt_or_le n 1 with h1 | h1
  · have d1 : decide (n < 1) = true := by simpa using h1
    go_enter Tryd.func33, Tryd.ntmps33
    go_wp2_with fail
    go_ret2
    exact ⟨rfl, rfl⟩
  · have d1 : decide (n < 1) = false := by simp only [decide_eq_false_iff_not]; omega
    have d2 : decide (1099511627776 < n) = true := by simp only [decide_eq_true_eq]; omega
    go_enter Tryd.func33, Tryd.ntmps33
    go_wp2_with fail
    go_ret2
    exact ⟨rfl, rfl⟩
theorem rwho16 (n : Int) (w : World) : Calls Tryd.prog 87 #[.int .i64 n] w fun e w' => e = .returned (.bool (Ln.okW n)) ∧ w = w' := by
  unfold Ln.okW
  by_cases h : 0 ≤ n
  · have d1 : decide (0 ≤ n) = true := by simpa using h
    rw [d1, Bool.true_and]
    go_enter Tryd.func87, Tryd.ntmps87
    go_wp2_with fail
    go_ret
    exact ⟨rfl, rfl⟩
  · have d1 : decide (0 ≤ n) = false := by simpa using h
    rw [d1, Bool.false_and]
    go_enter Tryd.func87, Tryd.ntmps87
    go_wp2_with fail
    go_ret
    exact ⟨rfl, rfl⟩
theorem rround_any {w : World} {base B n : Nat} {v : Value} {len : Int} {L : List Ln.H} (now : Int) (h : RLaneAt w base B v len L n) (hn : now ≤ 9223372036854775807) :
    Calls Tryd.prog 37 #[.pointer (some ⟨B, 0, none⟩), .int .i64 now] w fun e w' => e = .returned (.int .i64 (Ln.rnd len now)) ∧ ∃ k, w' = w.drewN k := by
  have c0 := h.c0
  obtain ⟨h1, h2⟩ := h.len
  unfold Ln.rnd
  clear h
  by_cases h0 : now < 0
  · have d1 : decide (now < 0) = true := by simpa using h0
    rw [if_pos h0]
    go_enter Tryd.func37, Tryd.ntmps37
    go_wp2_with fail
    go_ret
    exact ⟨rfl, 0, rfl⟩
  · have d1 : decide (now < 0) = false := by simpa using h0
    rw [if_neg h0]
    have hz : ¬ len = 0 := by omega
    have hzb : (len == 0) = false := by simpa using hz
    have hm0 : 0 ≤ now % len := Int.emod_nonneg _ hz
    have hq00 : 0 ≤ len * (now / len) := Int.mul_nonneg (by omega) (Int.ediv_nonneg (by omega) (by omega))
    have hm1 : now % len ≤ now := by have := Int.mul_ediv_add_emod now len; omega
    have hq : (now - now % len) / len = now / len := by
      have e : now - now % len = len * (now / len) := by have := Int.mul_ediv_add_emod now len; omega
      rw [e, Int.mul_ediv_cancel_left _ hz]
    have hq0 : 0 ≤ now / len := Int.ediv_nonneg (by omega) (by omega)
    have hq1 : now / len ≤ now := Int.ediv_le_self _ (by omega)
    have em : now.tmod len = now % len := Int.tmod_eq_emod_of_nonneg (by omega)
    have et : (now - now % len).tdiv len = now / len := by rw [Int.tdiv_eq_ediv_of_nonneg (by omega), hq]
    have ew1 : IntKind.i64.wrap (now % len) = now % len := IntWalk.i64_in _ (by omega)
    have ew2 : IntKind.i64.wrap (now - now % len) = now - now % len := IntWalk.i64_in _ (by omega)
    have ew3 : IntKind.i64.wrap (now / len) = now / len := IntWalk.i64_in _ (by omega)
    clear hq hq00
    go_enter Tryd.func37, Tryd.ntmps37
    go_wp2_with fail
    go_quiet (fail)
    go_wp2_with fail
    go_ret
    refine ⟨rfl, _, rfl⟩
set_option maxRecDepth 20000 in
set_option maxHeartbeats 800000 in
theorem rat_any {w : World} {base B n : Nat} {v : Value} {len : Int} {L : List Ln.H} (r : Int) (h : RLaneAt w base B v len L n) (hn : n ≤ 1000) :
    Calls Tryd.prog 39 #[.pointer (some ⟨B, 0, none⟩), .int .i64 r] w fun e w' => e = .returned (.int .i64 (Ln.atI L r)) ∧ w = w' := by
  obtain ⟨A, c, rfl, _, _⟩ := h.own.form
  obtain ⟨R, hR⟩ : ∃ R, R = Ln.atI L r := ⟨_, rfl⟩
  rw [← hR]
  rw [Ln.atI_eq] at hR
  have HO := Lib.hid h.own
  have c1 := h.c1
  have hl := h.ok.1
  obtain ⟨m, hm⟩ : ∃ m, m = L.length := ⟨_, rfl⟩
  rw [← hm] at c1 hl
  have HM := Lib.hid hm
  have HR := Lib.hid hR
  clear h hm hR
  go_enter Tryd.func39, Tryd.ntmps39
  go_wp2_with fail
  go_loopw [5] (fun i wr => ∃ k : Nat, k ≤ m ∧ i = .int .i64 k ∧ R = Ln.atFrom r k (L.drop k) ∧ w = wr) (fun i _ => m - (intOf i).toNat)
  case atStart => exact ⟨0, Nat.zero_le _, rfl, by rw [HR.out, List.drop_zero], by trivial⟩
  case round =>
    obtain ⟨k, hk, rfl, hRk, rfl⟩ := hrel
    have HRk := Lib.hid hRk
    clear hRk
    by_cases hkn : k < m
    · have hki : (k : Int) < (m : Int) := by omega
      have hkl : k < L.length := by rw [← HM.out]; exact hkn
      obtain ⟨g, c', e, _, hg⟩ := HO.out.ne (by intro e; rw [e] at hkl; simp at hkl)
      injection e with e1 _ e2
      subst e1 e2
      have c2 := HO.out.cell (Ln.hc_len L) k hkl 0 _ rfl
      rw [Nat.add_zero] at c2
      have hnx : R = if (L[k]).round = r then (k : Int) else Ln.atFrom r (k + 1) (L.drop (k + 1)) := by
        rw [HRk.out, List.drop_eq_getElem_cons hkl, Ln.atFrom]
      have Hnx := Lib.hid hnx
      generalize (L[k]).round = x at *
      clear hnx
      by_cases he : x = r
      · have HRe : Hid (R = (k : Int)) := Lib.hid (by rw [Hnx.out, if_pos he])
        subst he
        go_wp2_with fail
        go_ret
        exact ⟨by rw [HRe.out]; rfl, rfl⟩
      · have HRe : Hid (R = Ln.atFrom r (k + 1) (L.drop (k + 1))) := Lib.hid (by rw [Hnx.out, if_neg he])
        have heb : (x == r) = false := by simpa using he
        clear Hnx
        go_wp2_with fail
        exact ⟨⟨k + 1, hkn, by go_num, HRe.out, by trivial⟩, by simp [intOf]; omega⟩
    · have hki : (m : Int) ≤ (k : Int) := by omega
      obtain rfl : k = m := by omega
      have HRe : Hid (R = -1) := Lib.hid (by rw [HRk.out, List.drop_of_length_le (by rw [← HM.out]; exact Nat.le_refl _), Ln.atFrom])
      go_wp2_with fail
      go_ret
      exact ⟨by rw [HRe.out]; rfl, rfl⟩
end Go.Proofs.YtlapmdgkcidhnaaDoor
