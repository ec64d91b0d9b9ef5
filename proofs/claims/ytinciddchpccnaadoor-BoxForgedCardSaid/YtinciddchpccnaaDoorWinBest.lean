/- What later texts need of the earlier layers. -/
import Derived.Test.YtinciddchpccnaaDoorWinMath
import Derived.Test.YtinciddchpccnaaDoorWinNum
set_option maxRecDepth 100000
/- ---- WinBest ---- -/
/- Layer 7: the reference's best. -/
namespace Go.Proofs.YtinciddchpccnaaDoor
open Go.RowKit
set_option linter.unusedVariables false
set_option linter.unusedSimpArgs false

def twoV (p : Nat × Nat) : Value := .tuple #[.int .i64 (p.1 : Int), .int .i64 (p.2 : Int)]
set_option maxHeartbeats 400000 in
theorem best_any (s : ByteArray) (p : Nat) (w : World) (hs : s.size ≤ 140737488351232) (hp : p ≤ s.size) :
    Calls Tryd.prog 79 #[.string s, .int .i64 (p : Int)] w fun e w' => e = .returned (twoV (Win.best s.data.toList p)) ∧ ∃ n, w' = w.drewN n := by
  obtain ⟨D, hD⟩ : ∃ D, D = min p 32768 := ⟨_, rfl⟩
  have hb : Win.best s.data.toList p = Win.bestTo s.data.toList p D := by rw [hD]; rfl
  rw [hb]
  have Hb := Lib.hid hb
  clear hb
  go_enter Tryd.func79, Tryd.ntmps79
  go_wp2_with fail
  go_loopw [6, 7, 8] (fun x y i wr => ∃ (j n : Nat), j ≤ D ∧ x = .int .i64 ((Win.bestTo s.data.toList p j).1 : Int) ∧ y = .int .i64 ((Win.bestTo s.data.toList p j).2 : Int) ∧ i = .int .i64 ((j : Int) + 1) ∧ wr = w.drewN n) (fun _ _ i _ => D + 2 - (intOf i).toNat)
  case atStart => exact ⟨0, 0, by omega, rfl, rfl, rfl, rfl⟩
  case round =>
    obtain ⟨j, n, hj, rfl, rfl, rfl, rfl⟩ := hrel
    have hble := Win.bestTo_le s.data.toList p j
    obtain ⟨x, hx⟩ : ∃ x, (Win.bestTo s.data.toList p j).1 = x := ⟨_, rfl⟩
    obtain ⟨y, hy⟩ : ∃ y, (Win.bestTo s.data.toList p j).2 = y := ⟨_, rfl⟩
    rw [hx, hy]
    rw [hx, hy] at hble
    have hble1 := hble.1
    by_cases hlt : j < D
    · have e1 : decide ((j : Int) + 1 ≤ (p : Int)) = true := by simp only [decide_eq_true_eq]; omega
      have e1' : decide (j + 1 ≤ p) = true := by simp only [decide_eq_true_eq]; omega
      have e2 : decide ((j : Int) + 1 ≤ 32768) = true := by simp only [decide_eq_true_eq]; omega
      have e2' : decide (j + 1 ≤ 32768) = true := by simp only [decide_eq_true_eq]; omega
      have hsc := Win.bestTo_succ s.data.toList p j
      have hat := (Win.at_le s.data.toList p (j + 1)).1
      have hjp : j + 1 ≤ p := by omega
      have HD := Lib.hid hD
      have Hx := Lib.hid hx
      have Hy := Lib.hid hy
      clear hD hx hy
      obtain ⟨d, hd⟩ : ∃ d, d = j + 1 := ⟨_, rfl⟩
      have ed : (j : Int) + 1 = (d : Int) := by omega
      have hdp : d ≤ p := by omega
      rw [ed] at e1 e2
      rw [← hd] at e1' e2' hsc hat
      have hd1 : 1 ≤ d := by omega
      have Hd := Lib.hid hd
      have Hsc := Lib.hid hsc
      clear hd hsc
      go_wp2_with fail
      refine (match_any s p d _ hs hp hd1 hdp).mono ?_
      rintro e w2 ⟨rfl, n2, rfl⟩
      obtain ⟨m, hm⟩ : ∃ m, Win.at_ s.data.toList p d = m := ⟨_, rfl⟩
      have hsc := Hsc.out
      rw [hm] at hsc hat
      rw [hm]
      rw [Hx.out] at hsc
      have hdD : d ≤ D := by have := Hd.out; omega
      have hd32 : d ≤ 32768 := by have := Hd.out; have := HD.out; omega
      clear Hsc hm
      by_cases hg : x < m
      · have e3 : decide ((m : Int) > (x : Int)) = true := by simp only [decide_eq_true_eq]; omega
        have e3' : decide ((x : Int) < (m : Int)) = true := by simp only [decide_eq_true_eq]; omega
        have e3'' : decide (x < m) = true := by simp only [decide_eq_true_eq]; omega
        rw [if_pos hg] at hsc
        have Hsc := Lib.hid hsc
        clear hsc
        go_wp2_with fail
        refine ⟨⟨d, _, hdD, by rw [Hsc.out], by rw [Hsc.out], by go_num, by first | rfl | exact World.drewN_drewN _ _ _⟩, by simp [intOf]; omega⟩
      · have e3 : decide ((m : Int) > (x : Int)) = false := by simp only [decide_eq_false_iff_not]; omega
        have e3' : decide ((x : Int) < (m : Int)) = false := by simp only [decide_eq_false_iff_not]; omega
        have e3'' : decide (x < m) = false := by simp only [decide_eq_false_iff_not]; omega
        rw [if_neg hg] at hsc
        have Hsc := Lib.hid hsc
        clear hsc
        go_wp2_with fail
        refine ⟨⟨d, _, hdD, by rw [Hsc.out, Hx.out], by rw [Hsc.out, Hy.out], by go_num, by first | rfl | exact World.drewN_drewN _ _ _⟩, by simp [intOf]; omega⟩
    · obtain rfl : j = D := by omega
      have hv : Win.bestTo s.data.toList p j = (x, y) := by rw [← hx, ← hy]
      have Hv := Lib.hid hv
      have HD := Lib.hid hD
      have Hx := Lib.hid hx
      have Hy := Lib.hid hy
      clear hv hD hx hy
      by_cases h1 : j + 1 ≤ p
      · have hj2 : j = 32768 := by have := HD.out; omega
        have e1 : decide ((j : Int) + 1 ≤ (p : Int)) = true := by simp only [decide_eq_true_eq]; omega
        have e1' : decide (j + 1 ≤ p) = true := by simp only [decide_eq_true_eq]; omega
        have e2 : decide ((j : Int) + 1 ≤ 32768) = false := by simp only [decide_eq_false_iff_not]; omega
        have e2' : decide (j + 1 ≤ 32768) = false := by simp only [decide_eq_false_iff_not]; omega
        have Hj := Lib.hid hj2
        clear hj2
        go_wp2_with fail
        go_ret2
        rw [Hv.out]
        exact ⟨rfl, _, rfl⟩
      · have e1 : decide ((j : Int) + 1 ≤ (p : Int)) = false := by simp only [decide_eq_false_iff_not]; omega
        have e1' : decide (j + 1 ≤ p) = false := by simp only [decide_eq_false_iff_not]; omega
        go_wp2_with fail
        go_ret2
        rw [Hv.out]
        exact ⟨rfl, _, rfl⟩
end Go.Proofs.YtinciddchpccnaaDoor
