/- cut: within, Check, old; the reference's Check, old. -/
import Derived.Test.YtncahgjmdeepeaaRow
import Derived.Test.YtncahgjmdeepeaaCutMath
namespace Go.Proofs.Ytncahgjmdeepeaa
open Go.RowKit
set_option linter.unusedVariables false
set_option linter.unusedSimpArgs false

def Cut.Rules.v (r : Cut.Rules) : Value := .agg #[.int .i64 r.parts, .int .i64 r.bytes, .int .i64 r.age, .int .i64 r.lag]
theorem within_any (n a b : Int) (w : World) :
    Calls Try.prog 18 #[.int .i64 n, .int .i64 a, .int .i64 b] w fun e w' => e = .returned (.bool (Cut.in_ n a b)) ∧ w = w' := by
  unfold Cut.in_
  by_cases h : a ≤ n
  · have hd : decide (a ≤ n) = true := by simpa using h
    have Hd := Lib.hid hd
    go_enter Try.func18, Try.ntmps18
    go_wp2
    go_ret
    first | exact ⟨rfl, rfl⟩ | (rw [Hd.out]; exact ⟨rfl, rfl⟩)
  · have hd : decide (a ≤ n) = false := by simpa using h
    have Hd := Lib.hid hd
    go_enter Try.func18, Try.ntmps18
    go_wp2
    go_ret
    first | exact ⟨rfl, rfl⟩ | (rw [Hd.out]; exact ⟨rfl, rfl⟩)
theorem old_any (t n a : Int) (w : World) (ha0 : 0 ≤ a) (ha1 : a ≤ 1099511627776) (hn1 : n ≤ 9223372036854775807) :
    Calls Try.prog 20 #[.int .i64 t, .int .i64 n, .int .i64 a] w fun e w' => e = .returned (.bool (Cut.old t n a)) ∧ w = w' := by
  unfold Cut.old
  by_cases h : -9223372036854775808 + a ≤ n
  · have hd : decide (-9223372036854775808 + a ≤ n) = true := by simpa using h
    have Hd := Lib.hid hd
    go_enter Try.func20, Try.ntmps20
    go_wp2
    go_ret
    first | exact ⟨rfl, rfl⟩ | (rw [Hd.out]; exact ⟨rfl, rfl⟩)
  · have hd : decide (-9223372036854775808 + a ≤ n) = false := by simpa using h
    have Hd := Lib.hid hd
    go_enter Try.func20, Try.ntmps20
    go_wp2
    go_ret
    first | exact ⟨rfl, rfl⟩ | (rw [Hd.out]; exact ⟨rfl, rfl⟩)
theorem refOld_any (t n a : Int) (w : World) (ha0 : 0 ≤ a) (ha1 : a ≤ 1099511627776) (hn1 : n ≤ 9223372036854775807) :
    Calls Try.prog 21 #[.int .i64 t, .int .i64 n, .int .i64 a] w fun e w' => e = .returned (.bool (Cut.old t n a)) ∧ w = w' := by
  unfold Cut.old
  by_cases h : -9223372036854775808 + a ≤ n
  · have hd : decide (-9223372036854775808 + a ≤ n) = true := by simpa using h
    have Hd := Lib.hid hd
    go_enter Try.func21, Try.ntmps21
    go_wp2
    go_ret
    first | exact ⟨rfl, rfl⟩ | (rw [Hd.out]; exact ⟨rfl, rfl⟩)
  · have hd : decide (-9223372036854775808 + a ≤ n) = false := by simpa using h
    have Hd := Lib.hid hd
    go_enter Try.func21, Try.ntmps21
    go_wp2
    go_ret
    first | exact ⟨rfl, rfl⟩ | (rw [Hd.out]; exact ⟨rfl, rfl⟩)

def checkE (r : Cut.Rules) : Int := if Cut.okR r = true then 0 else 2
theorem check_any (r : Cut.Rules) (w : World) :
    Calls Try.prog 9 #[r.v] w fun e w' => e = .returned (.int .i64 (checkE r)) ∧ w.grownBy w' none := by
  obtain ⟨p, b, a, l⟩ := r
  unfold Cut.Rules.v checkE Cut.okR
  simp only
  by_cases h1 : Cut.in_ p 1 64 = true
  · have H1 := Lib.hid h1
    rw [h1]
    by_cases h2 : Cut.in_ b 700 8192 = true
    · have H2 := Lib.hid h2
      rw [h2]
      by_cases h3 : Cut.in_ a 0 1099511627776 = true
      · have H3 := Lib.hid h3
        rw [h3]
        by_cases h4 : Cut.in_ l 0 1099511627776 = true
        · have H4 := Lib.hid h4
          rw [h4]
          clear h1 h2 h3 h4
          go_enter Try.func9, Try.ntmps9
          go_wp2_with fail
          refine (within_any _ _ _ _).mono ?_
          rintro _ w1 ⟨rfl, rfl⟩
          rw [H1.out]
          go_wp2_with fail
          refine (within_any _ _ _ _).mono ?_
          rintro _ w1 ⟨rfl, rfl⟩
          rw [H2.out]
          go_wp2_with fail
          refine (within_any _ _ _ _).mono ?_
          rintro _ w1 ⟨rfl, rfl⟩
          rw [H3.out]
          go_wp2_with fail
          refine (within_any _ _ _ _).mono ?_
          rintro _ w1 ⟨rfl, rfl⟩
          rw [H4.out]
          go_wp2_with fail
          go_ret
          exact ⟨rfl, grownBy_alloc _ _ _⟩
        · rw [Bool.not_eq_true] at h4
          have H4 := Lib.hid h4
          rw [h4]
          clear h1 h2 h3 h4
          go_enter Try.func9, Try.ntmps9
          go_wp2_with fail
          refine (within_any _ _ _ _).mono ?_
          rintro _ w1 ⟨rfl, rfl⟩
          rw [H1.out]
          go_wp2_with fail
          refine (within_any _ _ _ _).mono ?_
          rintro _ w1 ⟨rfl, rfl⟩
          rw [H2.out]
          go_wp2_with fail
          refine (within_any _ _ _ _).mono ?_
          rintro _ w1 ⟨rfl, rfl⟩
          rw [H3.out]
          go_wp2_with fail
          refine (within_any _ _ _ _).mono ?_
          rintro _ w1 ⟨rfl, rfl⟩
          rw [H4.out]
          go_wp2_with fail
          go_ret
          exact ⟨rfl, grownBy_alloc _ _ _⟩
      · rw [Bool.not_eq_true] at h3
        have H3 := Lib.hid h3
        rw [h3]
        clear h1 h2 h3
        go_enter Try.func9, Try.ntmps9
        go_wp2_with fail
        refine (within_any _ _ _ _).mono ?_
        rintro _ w1 ⟨rfl, rfl⟩
        rw [H1.out]
        go_wp2_with fail
        refine (within_any _ _ _ _).mono ?_
        rintro _ w1 ⟨rfl, rfl⟩
        rw [H2.out]
        go_wp2_with fail
        refine (within_any _ _ _ _).mono ?_
        rintro _ w1 ⟨rfl, rfl⟩
        rw [H3.out]
        go_wp2_with fail
        go_ret
        exact ⟨rfl, grownBy_alloc _ _ _⟩
    · rw [Bool.not_eq_true] at h2
      have H2 := Lib.hid h2
      rw [h2]
      clear h1 h2
      go_enter Try.func9, Try.ntmps9
      go_wp2_with fail
      refine (within_any _ _ _ _).mono ?_
      rintro _ w1 ⟨rfl, rfl⟩
      rw [H1.out]
      go_wp2_with fail
      refine (within_any _ _ _ _).mono ?_
      rintro _ w1 ⟨rfl, rfl⟩
      rw [H2.out]
      go_wp2_with fail
      go_ret
      exact ⟨rfl, grownBy_alloc _ _ _⟩
  · rw [Bool.not_eq_true] at h1
    have H1 := Lib.hid h1
    rw [h1]
    clear h1
    go_enter Try.func9, Try.ntmps9
    go_wp2_with fail
    refine (within_any _ _ _ _).mono ?_
    rintro _ w1 ⟨rfl, rfl⟩
    rw [H1.out]
    go_wp2_with fail
    go_ret
    exact ⟨rfl, grownBy_alloc _ _ _⟩

theorem refCheck_any (r : Cut.Rules) (w : World) :
    Calls Try.prog 10 #[r.v] w fun e w' => e = .returned (.int .i64 (checkE r)) ∧ w.grownBy w' none := by
  obtain ⟨p, b, a, l⟩ := r
  have hE : ∀ r : Cut.Rules, (Cut.okR r = true → checkE r = 0) ∧ (¬ Cut.okR r = true → checkE r = 2) := fun r => ⟨fun h => if_pos h, fun h => if_neg h⟩
  by_cases hok : Cut.okR ⟨p, b, a, l⟩ = true
  · rw [(hE _).1 hok]
    rw [Cut.okR_iff] at hok
    simp only at hok
    unfold Cut.Rules.v
    have c1 : decide (1 ≤ p) = true := by simp only [decide_eq_true_eq]; omega
    have c2 : decide (p ≤ 64) = true := by simp only [decide_eq_true_eq]; omega
    have c3 : decide (700 ≤ b) = true := by simp only [decide_eq_true_eq]; omega
    have c4 : decide (b ≤ 8192) = true := by simp only [decide_eq_true_eq]; omega
    have c5 : decide (a < 0) = false := by simp only [decide_eq_false_iff_not]; omega
    have c6 : decide (l < 0) = false := by simp only [decide_eq_false_iff_not]; omega
    have c7 : decide (1099511627776 < a) = false := by simp only [decide_eq_false_iff_not]; omega
    have c8 : decide (1099511627776 < l) = false := by simp only [decide_eq_false_iff_not]; omega
    clear hE hok
    go_enter Try.func10, Try.ntmps10
    go_wp2_with fail
    go_ret
    exact ⟨rfl, grownBy_alloc _ _ _⟩
  · rw [(hE _).2 hok]
    rw [Cut.okR_iff] at hok
    simp only at hok
    unfold Cut.Rules.v
    have hcs : p < 1 ∨ (1 ≤ p ∧ 64 < p) ∨ (1 ≤ p ∧ p ≤ 64 ∧ b < 700) ∨ (1 ≤ p ∧ p ≤ 64 ∧ 700 ≤ b ∧ 8192 < b) ∨ (1 ≤ p ∧ p ≤ 64 ∧ 700 ≤ b ∧ b ≤ 8192 ∧ a < 0) ∨
        (1 ≤ p ∧ p ≤ 64 ∧ 700 ≤ b ∧ b ≤ 8192 ∧ 0 ≤ a ∧ l < 0) ∨ (1 ≤ p ∧ p ≤ 64 ∧ 700 ≤ b ∧ b ≤ 8192 ∧ 0 ≤ a ∧ 0 ≤ l ∧ 1099511627776 < a) ∨ (1 ≤ p ∧ p ≤ 64 ∧ 700 ≤ b ∧ b ≤ 8192 ∧ 0 ≤ a ∧ 0 ≤ l ∧ a ≤ 1099511627776 ∧ 1099511627776 < l) := by omega
    clear hE hok
    rcases hcs with h | ⟨h1, h⟩ | ⟨h1, h2, h⟩ | ⟨h1, h2, h3, h⟩ | ⟨h1, h2, h3, h4, h⟩ | ⟨h1, h2, h3, h4, h5, h⟩ | ⟨h1, h2, h3, h4, h5, h6, h⟩ | ⟨h1, h2, h3, h4, h5, h6, h7, h⟩
    all_goals
      go_enter Try.func10, Try.ntmps10
      go_wp2_with fail
      go_ret
      exact ⟨rfl, grownBy_alloc _ _ _⟩
end Go.Proofs.Ytncahgjmdeepeaa
