/- What later texts need of the earlier layers. -/
import Derived.Test.YtinciddchpccnaaDoorWinMath
import Derived.Test.YtinciddchpccnaaDoorChecked
import Derived.WalkKit
import Derived.Below
import Derived.Lib.Hide
import Derived.LoopTactic
import Derived.Outline
import Derived.BigQuiet
import Derived.Deep.QuietTactic
set_option maxRecDepth 100000
/- ---- WinNum ---- -/
/- Layer 7: piece, and the reference's match. -/
namespace Go.Proofs.YtinciddchpccnaaDoor
open Go.RowKit
set_option linter.unusedVariables false
set_option linter.unusedSimpArgs false

theorem u8_beq (a b : UInt8) : (((a.toNat : Int) == (b.toNat : Int)) : Bool) = (a == b) := by
  rw [Bool.eq_iff_iff]
  simp [← UInt8.toNat_inj]; omega
def pieceV (c : UInt8) : Value := if c.toNat < 128 then .tuple #[.int .i64 ((c.toNat : Int) + 1), .int .i64 ((c.toNat : Int) + 2)] else .tuple #[.int .i64 ((c.toNat : Int) - 124), .int .i64 3]
set_option maxHeartbeats 400000 in
theorem piece_any (c : UInt8) (w : World) :
    Calls Tryd.prog 108 #[.int .u8 (c.toNat : Int)] w fun e w' => e = .returned (pieceV c) ∧ w = w' := by
  have hlt := c.toNat_lt
  unfold pieceV
  by_cases h : c.toNat < 128
  · have hd : decide ((c.toNat : Int) < 128) = true := by simp only [decide_eq_true_eq]; omega
    have hd' : decide (c.toNat < 128) = true := by simp only [decide_eq_true_eq]; omega
    rw [if_pos h]
    go_enter Tryd.func108, Tryd.ntmps108
    go_wp2
    go_ret2
    exact ⟨rfl, rfl⟩
  · have hd : decide ((c.toNat : Int) < 128) = false := by simp only [decide_eq_false_iff_not]; omega
    have hd' : decide (c.toNat < 128) = false := by simp only [decide_eq_false_iff_not]; omega
    rw [if_neg h]
    have ec : (c.toNat : Int) - 128 + 4 = (c.toNat : Int) - 124 := by omega
    go_enter Tryd.func108, Tryd.ntmps108
    go_wp2
    go_ret2
    exact ⟨by simp [ec], rfl⟩
set_option maxHeartbeats 400000 in
theorem match_any (s : ByteArray) (p d : Nat) (w : World) (hs : s.size ≤ 140737488351232) (hp : p ≤ s.size) (hd1 : 1 ≤ d) (hd2 : d ≤ p) :
    Calls Tryd.prog 95 #[.string s, .int .i64 (p : Int), .int .i64 (d : Int)] w fun e w' => e = .returned (.int .i64 (Win.at_ s.data.toList p d : Int)) ∧ ∃ n, w' = w.drewN n := by
  have hle := Win.at_le s.data.toList p d
  have hlen : s.data.toList.length = s.size := rfl
  rw [hlen] at hle
  have hnext : ∀ k, k ≤ Win.at_ s.data.toList p d → ∀ (h1 : p + k < s.size) (h2 : p - d + k < s.size), k < 130 → (s[p + k] = s[p - d + k] → k + 1 ≤ Win.at_ s.data.toList p d) ∧ (s[p + k] ≠ s[p - d + k] → Win.at_ s.data.toList p d = k) := by
    intro k hk h1 h2 h3
    have ha : k < (s.data.toList.drop p).length := by rw [List.length_drop, hlen]; omega
    have hb : k < (s.data.toList.drop (p - d)).length := by rw [List.length_drop, hlen]; omega
    have h := Win.same_next (s.data.toList.drop p) (s.data.toList.drop (p - d)) 130 k hk ha hb h3
    rw [List.getElem_drop, List.getElem_drop] at h
    exact h
  generalize hN : Win.at_ s.data.toList p d = N at *
  have Hnext := Lib.hid hnext
  clear hnext hN hlen
  go_enter Tryd.func95, Tryd.ntmps95
  go_wp2_with fail
  go_loopw [7] (fun i wr => ∃ (k n : Nat), k ≤ N ∧ i = .int .i64 k ∧ wr = w.drewN n) (fun i _ => 130 - (intOf i).toNat)
  case atStart => exact ⟨0, 0, by omega, rfl, rfl⟩
  case round =>
    obtain ⟨k, n, hk, rfl, rfl⟩ := hrel
    by_cases h130 : k < 130
    · have e130 : decide ((k : Int) < 130) = true := by simp only [decide_eq_true_eq]; omega
      have e130' : decide (k < 130) = true := by simp only [decide_eq_true_eq]; omega
      obtain ⟨a, ha⟩ : ∃ a, a = p + k := ⟨_, rfl⟩
      have ea : (p : Int) + (k : Int) = (a : Int) := by omega
      by_cases hlt : a < s.size
      · have hlt' : (a : Int) < s.size := by omega
        have elt : decide ((a : Int) < (s.size : Int)) = true := by simp only [decide_eq_true_eq]; omega
        have elt' : decide (a < s.size) = true := by simp only [decide_eq_true_eq]; omega
        obtain ⟨b, hb⟩ : ∃ b, b = p - d + k := ⟨_, rfl⟩
        have eb : (a : Int) - (d : Int) = (b : Int) := by omega
        have hblt : b < s.size := by omega
        have hblt' : (b : Int) < s.size := by omega
        have hnx := Hnext.out k hk (by omega) (by omega) h130
        by_cases he : s[a] = s[b]
        · have he1 := u8_beq s[a] s[b]
          rw [he] at he1
          have hn : k + 1 ≤ N := hnx.1 (by subst ha hb; exact he)
          have Ha := Lib.hid ha
          have Hb := Lib.hid hb
          clear ha hb hnx
          go_wp2_with fail
          go_quiet (fail)
          go_wp2_with fail
          exact ⟨⟨k + 1, _, hn, by go_num, rfl⟩, by simp [intOf]; omega⟩
        · have he1 := u8_beq s[a] s[b]
          have hn : N = k := hnx.2 (by subst ha hb; exact he)
          rw [show (s[a] == s[b]) = false by simpa using he] at he1
          have Ha := Lib.hid ha
          have Hb := Lib.hid hb
          clear ha hb hnx
          subst hn
          go_wp2_with fail
          go_quiet (fail)
          go_wp2_with fail
          go_ret
          exact ⟨rfl, _, World.drewN_drewN _ _ _⟩
      · have elt : decide ((a : Int) < (s.size : Int)) = false := by simp only [decide_eq_false_iff_not]; omega
        have elt' : decide (a < s.size) = false := by simp only [decide_eq_false_iff_not]; omega
        obtain rfl : k = N := by omega
        have Ha := Lib.hid ha
        clear ha
        go_wp2_with fail
        go_quiet (fail)
        go_wp2_with fail
        go_ret
        exact ⟨rfl, _, World.drewN_drewN _ _ _⟩
    · have e130 : decide ((k : Int) < 130) = false := by simp only [decide_eq_false_iff_not]; omega
      have e130' : decide (k < 130) = false := by simp only [decide_eq_false_iff_not]; omega
      obtain rfl : k = N := by omega
      go_wp2_with fail
      go_quiet (fail)
      go_wp2_with fail
      go_ret
      exact ⟨rfl, _, World.drewN_drewN _ _ _⟩
end Go.Proofs.YtinciddchpccnaaDoor
