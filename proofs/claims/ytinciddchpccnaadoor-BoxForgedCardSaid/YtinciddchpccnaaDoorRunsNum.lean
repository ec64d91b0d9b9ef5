/- What later texts need of the earlier layers. -/
import Derived.Test.YtinciddchpccnaaDoorRunsMath
import Derived.Test.YtinciddchpccnaaDoorChecked
import Derived.WalkKit
import Derived.Below
import Derived.Lib.Hide
import Derived.LoopTactic
import Derived.Outline
import Derived.BigQuiet
import Derived.Deep.QuietTactic
set_option maxRecDepth 100000
/- ---- RunsNum ---- -/
/- runs.runs: what it returns. -/
namespace Go.Proofs.YtinciddchpccnaaDoor.Rn
open Go.RowKit
set_option linter.unusedVariables false
set_option linter.unusedSimpArgs false

theorem isRun_short (s : ByteArray) (h : s.size < 3) : Runs.isRun s.data.toList = false := by
  have hl : s.data.toList.length < 3 := h
  generalize s.data.toList = l at hl
  match l, hl with
  | [], _ => rfl
  | [_], _ => rfl
  | [_, _], _ => rfl
theorem isRun_long (s : ByteArray) (h : 3 ≤ s.size) : Runs.isRun s.data.toList = (s[0] == s[1] && s[1] == s[2]) := by
  obtain ⟨⟨l⟩⟩ := s
  have hl : 3 ≤ l.length := h
  match l, hl with
  | a :: b :: c :: r, _ => rfl
theorem u8_beq (a b : UInt8) : (((a.toNat : Int) == (b.toNat : Int)) : Bool) = (a == b) := by
  rw [Bool.eq_iff_iff]
  simp [← UInt8.toNat_inj]; omega
set_option maxHeartbeats 400000 in
theorem runs_any (s : ByteArray) (w : World) (hs : s.size ≤ 9223372036854775807) :
    Calls Tryd.prog 110 #[.string s] w fun e w' => e = .returned (.bool (Runs.isRun s.data.toList)) ∧ ∃ n, w' = w.drewN n := by
  by_cases h : 3 ≤ s.size
  · have hd : decide ((3 : Int) ≤ s.size) = true := by simp; omega
    have hd' : decide (3 ≤ s.size) = true := by simp; omega
    have h0 : 0 < s.size := by omega
    have h1 : 1 < s.size := by omega
    have h2 : 2 < s.size := by omega
    have h1' : (1 : Int) < s.size := by omega
    have h2' : (2 : Int) < s.size := by omega
    have h0' : (0 : Int) < s.size := by omega
    rw [isRun_long s h]
    by_cases he : s[0] == s[1]
    · have he1 := u8_beq s[0] s[1]
      rw [he] at he1
      by_cases hf : s[1] == s[2]
      · have he2 := u8_beq s[1] s[2]
        rw [hf] at he2
        rw [he, hf]
        clear he hf
        go_enter Tryd.func110, Tryd.ntmps110
        go_wp2
        go_quiet (fail)
        go_wp2
        go_ret
        exact ⟨rfl, _, rfl⟩
      · have he2 := u8_beq s[1] s[2]
        rw [Bool.not_eq_true] at hf
        rw [hf] at he2
        rw [he, hf]
        clear he hf
        go_enter Tryd.func110, Tryd.ntmps110
        go_wp2
        go_quiet (fail)
        go_wp2
        go_ret
        exact ⟨rfl, _, rfl⟩
    · have he1 := u8_beq s[0] s[1]
      rw [Bool.not_eq_true] at he
      rw [he] at he1
      rw [he]
      clear he
      go_enter Tryd.func110, Tryd.ntmps110
      go_wp2
      go_quiet (fail)
      go_wp2
      go_ret
      exact ⟨rfl, _, rfl⟩
  · rw [isRun_short s (by omega)]
    have hd : decide ((3 : Int) ≤ s.size) = false := by simp; omega
    have hd' : decide (3 ≤ s.size) = false := by simp; omega
    go_enter Tryd.func110, Tryd.ntmps110
    go_wp2
    go_quiet (fail)
    go_wp2
    go_ret
    exact ⟨rfl, _, rfl⟩
end Go.Proofs.YtinciddchpccnaaDoor.Rn
