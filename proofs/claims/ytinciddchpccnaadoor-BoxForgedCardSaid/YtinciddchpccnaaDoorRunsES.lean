/- What later texts need of the earlier layers. -/
/- What later texts need of the earlier layers. -/
import Derived.Test.YtinciddchpccnaaDoorRunsMath
import Derived.Test.YtinciddchpccnaaDoorRunsNum
import Derived.Test.YtinciddchpccnaaDoorChecked
set_option maxRecDepth 100000
/- ---- RunsEq ---- -/
/- runs.equal: what it returns. -/
namespace Go.Proofs.YtinciddchpccnaaDoor.Rn
open Go.RowKit
set_option linter.unusedVariables false
set_option linter.unusedSimpArgs false

theorem lead_next (c : UInt8) (l : List UInt8) (m k : Nat) (h : k ≤ Runs.lead c l m) (hk : k < l.length) (hm : k < m) :
    (l[k] = c → k + 1 ≤ Runs.lead c l m) ∧ (l[k] ≠ c → Runs.lead c l m = k) := by
  induction l generalizing m k with
  | nil => simp at hk
  | cons x r ih =>
    cases m with
    | zero => omega
    | succ m =>
      unfold Runs.lead at h ⊢
      cases k with
      | zero =>
        exact ⟨fun e => by rw [if_pos (show x = c from e)]; omega, fun e => by rw [if_neg (show ¬ x = c from e)]⟩
      | succ k =>
        by_cases hx : x = c
        · rw [if_pos hx] at h ⊢
          have hk' : k < r.length := by simpa using hk
          have := ih m k (by omega) hk' (by omega)
          simp only [List.getElem_cons_succ]
          exact ⟨fun e => by have := this.1 e; omega, fun e => by have := this.2 e; omega⟩
        · rw [if_neg hx] at h; omega
set_option maxHeartbeats 400000 in
theorem equal_any (s : ByteArray) (w : World) (hs : s.size ≤ 9223372036854775807) (h0 : 0 < s.size) :
    Calls Tryd.prog 97 #[.string s] w fun e w' => e = .returned (.int .i64 (Runs.lead s[0] s.data.toList 130)) ∧ ∃ n, w' = w.drewN n := by
  have hle := Runs.lead_le s[0] s.data.toList 130
  have hlen : s.data.toList.length = s.size := rfl
  have hfirst : 1 ≤ Runs.lead s[0] s.data.toList 130 := (lead_next s[0] s.data.toList 130 0 (by omega) (by rw [hlen]; exact h0) (by omega)).1 rfl
  have hnext := fun k => lead_next s[0] s.data.toList 130 k
  obtain ⟨M, hM⟩ : ∃ M : Nat, M = min s.size 130 := ⟨_, rfl⟩
  have hmin : (if (130 : Int) < s.size then (130 : Int) else (s.size : Int)) = (M : Int) := by split <;> omega
  generalize hN : Runs.lead s[0] s.data.toList 130 = N at *
  have Hnext := Lib.hid hnext
  clear hnext hN
  go_enter Tryd.func97, Tryd.ntmps97
  go_wp2_with fail
  go_loopw [3] (fun i wr => ∃ (k n : Nat), 1 ≤ k ∧ k ≤ N ∧ i = .int .i64 k ∧ wr = w.drewN n) (fun i _ => s.size - (intOf i).toNat)
  case atStart => exact ⟨1, 0, by omega, hfirst, rfl, rfl⟩
  case round =>
    obtain ⟨k, n, hk1, hk, rfl, rfl⟩ := hrel
    rw [hlen] at hle
    have h0' : (0 : Int) < s.size := by omega
    by_cases hlt : k < s.size ∧ k < 130
    · obtain ⟨hlt, hlt2⟩ := hlt
      have hlt' : (k : Int) < s.size := by omega
      have hd : decide ((k : Int) < (M : Int)) = true := by simp only [decide_eq_true_eq]; omega
      have hd' : decide (k < M) = true := by simp only [decide_eq_true_eq]; omega
      have HM := Lib.hid hM
      clear hM
      by_cases he : s[k] = s[0]
      · have he1 := u8_beq s[k] s[0]
        rw [he] at he1
        have hn := (Hnext.out k hk hlt hlt2).1 he
        go_wp2_with fail
        go_quiet (fail)
        go_wp2_with fail
        exact ⟨⟨k + 1, _, by omega, hn, by go_num, rfl⟩, by simp [intOf]; omega⟩
      · have he1 := u8_beq s[k] s[0]
        have hn := (Hnext.out k hk hlt hlt2).2 he
        rw [show (s[k] == s[0]) = false by simpa using he] at he1
        subst hn
        go_wp2_with fail
        go_quiet (fail)
        go_wp2_with fail
        go_ret
        exact ⟨rfl, _, World.drewN_drewN _ _ _⟩
    · have hd : decide ((k : Int) < (M : Int)) = false := by simp only [decide_eq_false_iff_not]; omega
      have hd' : decide (k < M) = false := by simp only [decide_eq_false_iff_not]; omega
      obtain rfl : k = N := by omega
      have HM := Lib.hid hM
      clear hM
      go_wp2_with fail
      go_quiet (fail)
      go_wp2_with fail
      go_ret
      exact ⟨rfl, _, World.drewN_drewN _ _ _⟩
end Go.Proofs.YtinciddchpccnaaDoor.Rn
set_option maxRecDepth 100000
/- ---- RunsSt ---- -/
/- runs.stretch: what it returns. -/
namespace Go.Proofs.YtinciddchpccnaaDoor.Rn
open Go.RowKit
set_option linter.unusedVariables false
set_option linter.unusedSimpArgs false

theorem still_next (l : List UInt8) (m k : Nat) (h : k ≤ Runs.still l m) (hk : k < l.length) (hm : k < m) :
    (Runs.isRun (l.drop k) = false → k + 1 ≤ Runs.still l m) ∧ (Runs.isRun (l.drop k) = true → Runs.still l m = k) := by
  induction l generalizing m k with
  | nil => simp at hk
  | cons x r ih =>
    cases m with
    | zero => omega
    | succ m =>
      unfold Runs.still at h ⊢
      cases k with
      | zero =>
        rw [List.drop_zero]
        exact ⟨fun e => by rw [if_neg (by rw [e]; exact Bool.false_ne_true)]; omega, fun e => by rw [if_pos e]⟩
      | succ k =>
        by_cases hx : Runs.isRun (x :: r) = true
        · rw [if_pos hx] at h; omega
        · rw [if_neg hx] at h ⊢
          have hk' : k < r.length := by simpa using hk
          have := ih m k (by omega) hk' (by omega)
          rw [List.drop_succ_cons]
          exact ⟨fun e => by have := this.1 e; omega, fun e => by have := this.2 e; omega⟩
theorem drop_str (s : ByteArray) (k : Nat) (h : k ≤ s.size) : (s.extract k s.size).data.toList = s.data.toList.drop k := by
  simp
  rw [List.take_of_length_le (by simp)]
theorem drop_size (s : ByteArray) (k : Nat) (h : k ≤ s.size) : (s.extract k s.size).size = s.size - k := by
  simp
set_option maxHeartbeats 400000 in
theorem stretch_any (s : ByteArray) (w : World) (hs : s.size ≤ 9223372036854775807) (h0 : 0 < s.size) (hr : Runs.isRun s.data.toList = false) :
    Calls Tryd.prog 98 #[.string s] w fun e w' => e = .returned (.int .i64 (Runs.still s.data.toList 128)) ∧ ∃ n, w' = w.drewN n := by
  have hle := Runs.still_le s.data.toList 128
  have hlen : s.data.toList.length = s.size := rfl
  have hfirst : 1 ≤ Runs.still s.data.toList 128 := (still_next s.data.toList 128 0 (by omega) (by rw [hlen]; exact h0) (by omega)).1 hr
  have hnext := fun k => still_next s.data.toList 128 k
  obtain ⟨M, hM⟩ : ∃ M : Nat, M = min s.size 128 := ⟨_, rfl⟩
  have hmin : (if (128 : Int) < s.size then (128 : Int) else (s.size : Int)) = (M : Int) := by split <;> omega
  generalize hN : Runs.still s.data.toList 128 = N at *
  have Hnext := Lib.hid hnext
  have Hr := Lib.hid hr
  clear hnext hN hr
  go_enter Tryd.func98, Tryd.ntmps98
  go_wp2_with fail
  go_loopw [3] (fun i wr => ∃ (k n : Nat), 1 ≤ k ∧ k ≤ N ∧ i = .int .i64 k ∧ wr = w.drewN n) (fun i _ => s.size - (intOf i).toNat)
  case atStart => exact ⟨1, 0, by omega, hfirst, rfl, rfl⟩
  case round =>
    obtain ⟨k, n, hk1, hk, rfl, rfl⟩ := hrel
    rw [hlen] at hle
    by_cases hlt : k < s.size ∧ k < 128
    · obtain ⟨hlt, hlt2⟩ := hlt
      have hlt' : (k : Int) ≤ s.size := by omega
      have hd : decide ((k : Int) < (M : Int)) = true := by simp only [decide_eq_true_eq]; omega
      have hd' : decide (k < M) = true := by simp only [decide_eq_true_eq]; omega
      have HM := Lib.hid hM
      have hle' : k ≤ s.size := by omega
      have hds := drop_str s k hle'
      have hdz := drop_size s k hle'
      have Hds := Lib.hid hds
      have Hdz := Lib.hid hdz
      clear hM hds hdz
      by_cases he : Runs.isRun (s.data.toList.drop k) = true
      · have hn := (Hnext.out k hk hlt hlt2).2 he
        subst hn
        have He := Lib.hid he
        clear he
        go_wp2_with fail
        refine (runs_any _ _ (by rw [Hdz.out]; omega)).mono ?_
        rintro e w1 ⟨rfl, n1, rfl⟩
        rw [Hds.out, He.out]
        go_wp2_with fail
        go_ret
        exact ⟨rfl, _, rfl⟩
      · rw [Bool.not_eq_true] at he
        have hn := (Hnext.out k hk hlt hlt2).1 he
        have He := Lib.hid he
        clear he
        go_wp2_with fail
        refine (runs_any _ _ (by rw [Hdz.out]; omega)).mono ?_
        rintro e w1 ⟨rfl, n1, rfl⟩
        rw [Hds.out, He.out]
        go_wp2_with fail
        exact ⟨⟨k + 1, _, by omega, hn, by go_num, rfl⟩, by simp [intOf]; omega⟩
    · have hd : decide ((k : Int) < (M : Int)) = false := by simp only [decide_eq_false_iff_not]; omega
      have hd' : decide (k < M) = false := by simp only [decide_eq_false_iff_not]; omega
      obtain rfl : k = N := by omega
      have HM := Lib.hid hM
      clear hM
      go_wp2_with fail
      go_ret
      exact ⟨rfl, _, rfl⟩
end Go.Proofs.YtinciddchpccnaaDoor.Rn
