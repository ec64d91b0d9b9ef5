/- The reference of layer 6: three. -/
import Derived.Test.YtmcdanodacbpbaaChecked
import Derived.Test.YtmcdanodacbpbaaRunsPk
import Derived.IntWalk
namespace Go.Proofs.Ytmcdanodacbpbaa.Rn
open Go.RowKit
set_option linter.unusedVariables false
set_option linter.unusedSimpArgs false

theorem isRun_short_at (l : List UInt8) (h : l.length < 3) : Runs.isRun l = false := by
  match l, h with
  | [], _ => rfl
  | [_], _ => rfl
  | [_, _], _ => rfl
theorem isRun_at (s : ByteArray) (k : Nat) (h : k + 2 < s.size) : Runs.isRun (s.data.toList.drop k) = (s[k] == s[k + 1] && s[k] == s[k + 2]) := by
  have hl : k + 2 < s.data.toList.length := h
  rw [List.drop_eq_getElem_cons (by omega : k < s.data.toList.length), List.drop_eq_getElem_cons (by omega : k + 1 < s.data.toList.length), List.drop_eq_getElem_cons hl]
  have e0 : s.data.toList[k] = s[k] := rfl
  have e1 : s.data.toList[k + 1] = s[k + 1] := rfl
  have e2 : s.data.toList[k + 2] = s[k + 2] := rfl
  rw [e0, e1, e2]
  simp only [Runs.isRun]
  generalize s[k] = a
  generalize s[k + 1] = b
  generalize s[k + 2] = c
  rw [Bool.eq_iff_iff]
  simp
  rintro rfl
  exact Iff.rfl

set_option maxHeartbeats 400000 in
theorem three_any (s : ByteArray) (k : Nat) (w : World) (hs : s.size ≤ 140737488351232) (hk : k ≤ s.size) :
    Calls Try.prog 37 #[.string s, .int .i64 (k : Int)] w fun e w' => e = .returned (.bool (Runs.isRun (s.data.toList.drop k))) ∧ ∃ n, w' = w.drewN n := by
  have w1 : IntKind.i64.wrap ((k : Int) + 1) = (k : Int) + 1 := IntWalk.i64_in _ (by omega)
  have w2 : IntKind.i64.wrap ((k : Int) + 2) = (k : Int) + 2 := IntWalk.i64_in _ (by omega)
  have p1 : 0 ≤ (k : Int) + 1 := by omega
  have p2 : 0 ≤ (k : Int) + 2 := by omega
  have t1 : ((k : Int) + 1).toNat = k + 1 := by omega
  have t2 : ((k : Int) + 2).toNat = k + 2 := by omega
  have W1 := Lib.hid w1
  have W2 := Lib.hid w2
  have T1 := Lib.hid t1
  have T2 := Lib.hid t2
  clear w1 w2 t1 t2
  by_cases h : k + 2 < s.size
  · have h0 : k < s.size := by omega
    have h1 : k + 1 < s.size := by omega
    have h0' : (k : Int) < s.size := by omega
    have h1' : (k : Int) + 1 < s.size := by omega
    have h2' : (k : Int) + 2 < s.size := by omega
    rw [isRun_at s k h]
    by_cases he : s[k] == s[k + 1]
    · have he1 := u8_beq s[k] s[k + 1]
      rw [he] at he1
      by_cases hf : s[k] == s[k + 2]
      · have he2 := u8_beq s[k] s[k + 2]
        rw [hf] at he2
        rw [he, hf]
        clear he hf
        go_enter Try.func37, Try.ntmps37
        go_wp2
        have w1 := W1.out; have w2 := W2.out; have t1 := T1.out; have t2 := T2.out
        go_quiet (fail)
        go_wp2
        go_ret
        exact ⟨rfl, _, rfl⟩
      · have he2 := u8_beq s[k] s[k + 2]
        rw [Bool.not_eq_true] at hf
        rw [hf] at he2
        rw [he, hf]
        clear he hf
        go_enter Try.func37, Try.ntmps37
        go_wp2
        have w1 := W1.out; have w2 := W2.out; have t1 := T1.out; have t2 := T2.out
        go_quiet (fail)
        go_wp2
        go_ret
        exact ⟨rfl, _, rfl⟩
    · have he1 := u8_beq s[k] s[k + 1]
      rw [Bool.not_eq_true] at he
      rw [he] at he1
      rw [he]
      clear he
      go_enter Try.func37, Try.ntmps37
      go_wp2
      have w1 := W1.out; have w2 := W2.out; have t1 := T1.out; have t2 := T2.out
      go_quiet (fail)
      go_wp2
      go_ret
      exact ⟨rfl, _, rfl⟩
  · rw [isRun_short_at _ (by rw [List.length_drop]; show s.size - k < 3; omega)]
    have hd : decide ((k : Int) + 2 < s.size) = false := by simp only [decide_eq_false_iff_not]; omega
    have hd' : decide (k + 2 < s.size) = false := by simp only [decide_eq_false_iff_not]; omega
    go_enter Try.func37, Try.ntmps37
    go_wp2
    have w1 := W1.out; have w2 := W2.out; have t1 := T1.out; have t2 := T2.out
    go_quiet (fail)
    go_wp2
    go_ret
    exact ⟨rfl, _, rfl⟩
end Go.Proofs.Ytmcdanodacbpbaa.Rn
