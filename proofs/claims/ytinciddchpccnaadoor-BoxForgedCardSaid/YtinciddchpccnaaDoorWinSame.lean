/- What later texts need of the earlier layers. -/
import Derived.Test.YtinciddchpccnaaDoorWinMath
import Derived.Test.YtinciddchpccnaaDoorWinNum
set_option maxRecDepth 100000
/- ---- WinSame ---- -/
/- window: same. -/
namespace Go.Proofs.YtinciddchpccnaaDoor
open Go.RowKit
set_option linter.unusedVariables false
set_option linter.unusedSimpArgs false

/-- what 'same' tells: 0 where the byte after so many is another one -/
def Win.sameB (K : List UInt8) (f p b m : Nat) : Nat := if K[f + b]? = K[p + b]? then Win.same (K.drop p) (K.drop f) m else 0
set_option maxHeartbeats 800000 in
theorem same_any (s : ByteArray) (B f p b m : Nat) (w : World) (hcell : w.cell? ⟨B, 0, none⟩ = some (.string s)) (hs : s.size ≤ 140737488351232) (hf : f < p) (hb : b < m) (hm : p + m ≤ s.size) :
    Calls Tryd.prog 112 #[.pointer (some ⟨B, 0, none⟩), .int .i64 (f : Int), .int .i64 (p : Int), .int .i64 (b : Int), .int .i64 (m : Int)] w fun e w' => e = .returned (.int .i64 (Win.sameB s.data.toList f p b m : Int)) ∧ ∃ n, w' = w.drewN n := by
  have hlen : s.data.toList.length = s.size := rfl
  obtain ⟨a1, ha1⟩ : ∃ a, a = f + b := ⟨_, rfl⟩
  obtain ⟨a2, ha2⟩ : ∃ a, a = p + b := ⟨_, rfl⟩
  have e1 : (f : Int) + (b : Int) = (a1 : Int) := by omega
  have e2 : (p : Int) + (b : Int) = (a2 : Int) := by omega
  have l1 : a1 < s.size := by omega
  have l2 : a2 < s.size := by omega
  have l1' : (a1 : Int) < s.size := by omega
  have l2' : (a2 : Int) < s.size := by omega
  have g1 : s.data.toList[a1]? = some s[a1] := List.getElem?_eq_getElem (by rw [hlen]; exact l1)
  have g2 : s.data.toList[a2]? = some s[a2] := List.getElem?_eq_getElem (by rw [hlen]; exact l2)
  have hsB : Win.sameB s.data.toList f p b m = if s[a1] = s[a2] then Win.same (s.data.toList.drop p) (s.data.toList.drop f) m else 0 := by
    unfold Win.sameB
    rw [← ha1, ← ha2, g1, g2]
    simp
  rw [hsB]
  have Ha1 := Lib.hid ha1
  have Ha2 := Lib.hid ha2
  clear ha1 ha2 g1 g2 hsB
  by_cases he : s[a1] = s[a2]
  · have he1 := u8_beq s[a1] s[a2]
    rw [he] at he1
    rw [if_pos he]
    have hle := Win.same_le (s.data.toList.drop p) (s.data.toList.drop f) m
    have hnext : ∀ k, k ≤ Win.same (s.data.toList.drop p) (s.data.toList.drop f) m → ∀ (h1 : p + k < s.size) (h2 : f + k < s.size), k < m → (s[p + k] = s[f + k] → k + 1 ≤ Win.same (s.data.toList.drop p) (s.data.toList.drop f) m) ∧ (s[p + k] ≠ s[f + k] → Win.same (s.data.toList.drop p) (s.data.toList.drop f) m = k) := by
      intro k hk h1 h2 h3
      have ha : k < (s.data.toList.drop p).length := by rw [List.length_drop, hlen]; omega
      have hb : k < (s.data.toList.drop f).length := by rw [List.length_drop, hlen]; omega
      have h := Win.same_next (s.data.toList.drop p) (s.data.toList.drop f) m k hk ha hb h3
      rw [List.getElem_drop, List.getElem_drop] at h
      exact h
    generalize Win.same (s.data.toList.drop p) (s.data.toList.drop f) m = N at *
    have hNm := hle.1
    have Hnext := Lib.hid hnext
    clear hnext hle hlen
    go_enter Tryd.func112, Tryd.ntmps112
    go_wp2_with fail
    go_quiet (fail)
    go_wp2_with fail
    go_loopw [11] (fun i wr => ∃ (k n : Nat), k ≤ N ∧ i = .int .i64 k ∧ wr = w.drewN n) (fun i _ => m - (intOf i).toNat)
    case atStart => exact ⟨0, _, by omega, rfl, rfl⟩
    case round =>
      obtain ⟨k, n, hk, rfl, rfl⟩ := hrel
      by_cases hkm : k < m
      · have d1 : decide ((k : Int) < (m : Int)) = true := by simp only [decide_eq_true_eq]; omega
        have d1' : decide (k < m) = true := by simp only [decide_eq_true_eq]; omega
        obtain ⟨c1, hc1⟩ : ∃ a, a = f + k := ⟨_, rfl⟩
        obtain ⟨c2, hc2⟩ : ∃ a, a = p + k := ⟨_, rfl⟩
        have f1 : (f : Int) + (k : Int) = (c1 : Int) := by omega
        have f2 : (p : Int) + (k : Int) = (c2 : Int) := by omega
        have m1 : c1 < s.size := by omega
        have m2 : c2 < s.size := by omega
        have m1' : (c1 : Int) < s.size := by omega
        have m2' : (c2 : Int) < s.size := by omega
        have hnx := Hnext.out k hk (by omega) (by omega) hkm
        by_cases hq : s[c1] = s[c2]
        · have hq1 := u8_beq s[c1] s[c2]
          rw [hq] at hq1
          have hn : k + 1 ≤ N := hnx.1 (by subst hc1 hc2; exact hq.symm)
          have Hc1 := Lib.hid hc1
          have Hc2 := Lib.hid hc2
          clear hc1 hc2 hnx
          go_wp2_with fail
          go_quiet (fail)
          go_wp2_with fail
          exact ⟨⟨k + 1, _, hn, by go_num, rfl⟩, by simp [intOf]; omega⟩
        · have hq1 := u8_beq s[c1] s[c2]
          have hn : N = k := hnx.2 (by subst hc1 hc2; exact fun e => hq e.symm)
          rw [show (s[c1] == s[c2]) = false by simpa using hq] at hq1
          have Hc1 := Lib.hid hc1
          have Hc2 := Lib.hid hc2
          clear hc1 hc2 hnx
          subst hn
          go_wp2_with fail
          go_quiet (fail)
          go_wp2_with fail
          go_ret
          exact ⟨rfl, _, World.drewN_drewN _ _ _⟩
      · have d1 : decide ((k : Int) < (m : Int)) = false := by simp only [decide_eq_false_iff_not]; omega
        have d1' : decide (k < m) = false := by simp only [decide_eq_false_iff_not]; omega
        obtain rfl : k = N := by omega
        go_wp2_with fail
        go_quiet (fail)
        go_wp2_with fail
        go_ret
        exact ⟨rfl, _, World.drewN_drewN _ _ _⟩
  · have he1 := u8_beq s[a1] s[a2]
    rw [show (s[a1] == s[a2]) = false by simpa using he] at he1
    rw [if_neg he]
    go_enter Tryd.func112, Tryd.ntmps112
    go_wp2_with fail
    go_quiet (fail)
    go_wp2_with fail
    go_ret
    exact ⟨rfl, _, rfl⟩
end Go.Proofs.YtinciddchpccnaaDoor
