/- bank: who is somebody, and what is wrong with a call. -/
import Derived.Test.YtfkejndiobafeaaRow
import Derived.Test.YtfkejndiobafeaaBankMath
namespace Go.Proofs.Ytfkejndiobafeaa
open Go.RowKit
set_option linter.unusedVariables false
set_option linter.unusedSimpArgs false

theorem somebody_any (a : Int) (w : World) :
    Calls Try.prog 24 #[.int .i64 a] w fun e w' => e = .returned (.bool (Bank.okW a)) ∧ w = w' := by
  unfold Bank.okW
  by_cases h : 0 ≤ a
  · have hd : decide (0 ≤ a) = true := by simpa using h
    go_enter Try.func24, Try.ntmps24
    have Hd := Lib.hid hd
    go_wp2
    go_ret
    rw [Hd.out]
    exact ⟨rfl, rfl⟩
  · have hd : decide (0 ≤ a) = false := by simpa using h
    go_enter Try.func24, Try.ntmps24
    go_wp2
    go_ret
    exact ⟨rfl, rfl⟩
theorem who_any (a : Int) (w : World) :
    Calls Try.prog 22 #[.int .i64 a] w fun e w' => e = .returned (.bool (Bank.okW a)) ∧ w = w' := by
  unfold Bank.okW
  by_cases h : 0 ≤ a
  · have hd : decide (0 ≤ a) = true := by simpa using h
    go_enter Try.func22, Try.ntmps22
    have Hd := Lib.hid hd
    go_wp2
    go_ret
    rw [Hd.out]
    exact ⟨rfl, rfl⟩
  · have hd : decide (0 ≤ a) = false := by simpa using h
    go_enter Try.func22, Try.ntmps22
    go_wp2
    go_ret
    exact ⟨rfl, rfl⟩
theorem amount_any (a : Int) (w : World) :
    Calls Try.prog 23 #[.int .i64 a] w fun e w' => e = .returned (.bool (Bank.okN a)) ∧ w = w' := by
  unfold Bank.okN
  by_cases h : 0 ≤ a
  · have hd : decide (0 ≤ a) = true := by simpa using h
    go_enter Try.func23, Try.ntmps23
    have Hd := Lib.hid hd
    go_wp2
    go_ret
    rw [Hd.out]
    exact ⟨rfl, rfl⟩
  · have hd : decide (0 ≤ a) = false := by simpa using h
    go_enter Try.func23, Try.ntmps23
    go_wp2
    go_ret
    exact ⟨rfl, rfl⟩

def wrongE (n : Int) (L : List Int) : Int := if L.all Bank.okW = false then 20 else if Bank.okN n = false then 2 else 0

theorem wrong_nil (n : Int) (v : Value) (w : World) :
    Calls Try.prog 25 #[.pointer none, .int .i64 n, v] w fun e w' => e = .returned (.int .i64 1) ∧ w = w' := by
  go_enter Try.func25, Try.ntmps25
  go_wp2
  go_ret
  exact ⟨rfl, rfl⟩

theorem wrong_any (a : Addr) (n : Int) (B c : Nat) (L : List Int) (w : World) (hL : L.length < 1000)
    (hc : ∀ k, k < L.length → w.cell? ⟨B, k, none⟩ = some (.int .i64 (L.getD k 0))) :
    Calls Try.prog 25 #[.pointer (some a), .int .i64 n, .slice (some ⟨B, 0, none⟩) L.length c] w fun e w' => e = .returned (.int .i64 (wrongE n L)) ∧ w = w' := by
  have Hc := Lib.hid hc
  clear hc
  go_enter Try.func25, Try.ntmps25
  go_wp2_with fail
  go_loop [13] (fun i => ∃ k : Nat, k ≤ L.length ∧ i = .int .i64 k ∧ (L.take k).all Bank.okW = true) (fun i => L.length - (intOf i).toNat)
  case atStart => exact ⟨0, Nat.zero_le _, rfl, by simp⟩
  case round =>
    obtain ⟨k, hk, rfl, hall⟩ := hrel
    have Hall := Lib.hid hall
    clear hall
    by_cases hlt : k < L.length
    · have hlt' : (k : Int) < L.length := by omega
      have hcell := Hc.out k hlt
      have hx2 : L.getD k 0 = L[k] := by simp [List.getD, hlt]
      rw [hx2] at hcell
      obtain ⟨x, hx⟩ : ∃ x, x = L[k] := ⟨_, rfl⟩
      rw [← hx] at hcell
      have Hx := Lib.hid hx
      clear hx hx2
      by_cases hw : Bank.okW x = true
      · have Hw := Lib.hid hw
        clear hw
        go_wp2_with fail
        refine (somebody_any _ _).mono ?_
        rintro e w1 ⟨rfl, rfl⟩
        rw [Hw.out]
        go_wp2_with fail
        refine ⟨⟨k + 1, hlt, by go_num, ?_⟩, by simp [intOf]; omega⟩
        rw [List.take_succ_eq_append_getElem hlt, List.all_append, Hall.out]
        have := Hw.out
        rw [Hx.out] at this
        simp [this]
      · rw [Bool.not_eq_true] at hw
        have he : wrongE n L = 20 := by
          unfold wrongE
          rw [if_pos]
          rw [List.all_eq_false]
          exact ⟨L[k], List.getElem_mem hlt, by rw [← Hx.out]; simpa using hw⟩
        have Hw := Lib.hid hw
        have He := Lib.hid he
        clear hw he
        go_wp2_with fail
        refine (somebody_any _ _).mono ?_
        rintro e w1 ⟨rfl, rfl⟩
        rw [Hw.out]
        go_wp2_with fail
        go_ret
        rw [He.out]
        exact ⟨rfl, rfl⟩
    · obtain rfl : k = L.length := by omega
      have ha : L.all Bank.okW = true := by simpa using Hall.out
      have he : wrongE n L = if Bank.okN n = false then 2 else 0 := by unfold wrongE; rw [ha]; rfl
      have He := Lib.hid he
      clear he ha
      by_cases h0 : 0 ≤ n
      · by_cases h1 : n ≤ 1099511627776
        · have hd : decide (n < 0) = false := by simp only [decide_eq_false_iff_not]; omega
          have hd' : decide (1099511627776 < n) = false := by simp only [decide_eq_false_iff_not]; omega
          have he2 : wrongE n L = 0 := by rw [He.out, if_neg]; simp only [Bool.not_eq_false, Bank.okN_iff]; omega
          have He2 := Lib.hid he2
          clear he2
          go_wp2_with fail
          go_ret
          rw [He2.out]
          exact ⟨rfl, rfl⟩
        · have hd : decide (n < 0) = false := by simp only [decide_eq_false_iff_not]; omega
          have hd' : decide (1099511627776 < n) = true := by simp only [decide_eq_true_eq]; omega
          have he2 : wrongE n L = 2 := by rw [He.out, if_pos]; rw [← Bool.not_eq_true, Bank.okN_iff]; omega
          have He2 := Lib.hid he2
          clear he2
          go_wp2_with fail
          go_ret
          rw [He2.out]
          exact ⟨rfl, rfl⟩
      · have hd : decide (n < 0) = true := by simp only [decide_eq_true_eq]; omega
        have he2 : wrongE n L = 2 := by rw [He.out, if_pos]; rw [← Bool.not_eq_true, Bank.okN_iff]; omega
        have He2 := Lib.hid he2
        clear he2
        go_wp2_with fail
        go_ret
        rw [He2.out]
        exact ⟨rfl, rfl⟩
end Go.Proofs.Ytfkejndiobafeaa
