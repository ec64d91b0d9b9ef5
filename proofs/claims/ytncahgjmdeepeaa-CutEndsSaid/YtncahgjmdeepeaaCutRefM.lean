/- The reference of layer 21: Make. -/
import Derived.Test.YtncahgjmdeepeaaCutMakeB
import Derived.Deep.DeepAppendWide
namespace Go.Proofs.Ytncahgjmdeepeaa
open Go.RowKit
set_option linter.unusedVariables false
set_option linter.unusedSimpArgs false

set_option maxRecDepth 20000 in
set_option maxHeartbeats 800000 in
theorem refMake_no (A : Option Addr) (c : Nat) (l : List Rc) (sq first before count : Int) (w : World) (hl : RcsAt w A l) (hlen : l.length ≤ 9223372036854775807) (hno : Cut.okM first count l = false) :
    Calls Try.prog 16 #[.agg #[.int .i64 sq, .int .i64 first, .int .i64 before, .int .i64 count], .slice A l.length c] w fun e w' =>
      e = .returned (.tuple #[.agg #[.int .i64 0, .int .i64 0, .int .i64 0, .slice none 0 0], .int .i64 2]) ∧ Below w.heap.size w w' := by
  have fin2 : ∀ (nq : Nat) (O1 : Obj) (a b c d : Value), Row ((((((((w.alloc O1).alloc (.cells #[a, b, c, d] 36)).drewN nq).setCell ⟨w.heap.size + 1, 0, none⟩ (.int .i64 0)).setCell ⟨w.heap.size + 1, 1, none⟩ (.int .i64 0)).setCell ⟨w.heap.size + 1, 2, none⟩ (.int .i64 0)).setCell ⟨w.heap.size + 1, 3, none⟩ (.slice none 0 0))) (w.heap.size + 1) 36 [.int .i64 0, .int .i64 0, .int .i64 0, .slice none 0 0] ∧
      Below w.heap.size w ((((((((w.alloc O1).alloc (.cells #[a, b, c, d] 36)).drewN nq).setCell ⟨w.heap.size + 1, 0, none⟩ (.int .i64 0)).setCell ⟨w.heap.size + 1, 1, none⟩ (.int .i64 0)).setCell ⟨w.heap.size + 1, 2, none⟩ (.int .i64 0)).setCell ⟨w.heap.size + 1, 3, none⟩ (.slice none 0 0))) := by
    intro nq O1 a b c d
    have hrow := Row.new (w.alloc O1) 36 [a, b, c, d]
    rw [show (w.alloc O1).heap.size = w.heap.size + 1 by simp] at hrow
    exact four_set (hrow.kept (grownBy_drewN _ nq none) (by simp)) (below_drewN' (((Below.refl w.heap.size w).alloc (Nat.le_refl _) _).alloc (by simp) _) _) (by omega) _ _ _ _
  have Fin2 := Lib.hid fin2
  clear fin2
  match l with
  | [] =>
    clear hl hno
    go_enter Try.func16, Try.ntmps16
    go_wp2_with fail
    go_quiet (fail)
    go_wp2_with fail
    obtain ⟨h1, h2⟩ := Fin2.out nq _ _ _ _ _
    exact bodyPost_ret (results_rowL rfl _ _ (w.heap.size + 1) 36 _ _ rfl h1 Try.underlying36 rfl rfl _ rfl) rfl ⟨rfl, h2⟩
  | x :: l' =>
    obtain ⟨n, hn⟩ : ∃ n, n = (x :: l').length := ⟨_, rfl⟩
    have hn0 : (1 : Int) ≤ (n : Int) := by rw [hn]; simp; omega
    have hn1 : 0 < n := by rw [hn]; simp
    obtain ⟨b, off, rfl, hblt, hc⟩ := hl (by simp)
    have c0 : w.cell? ⟨b, off, none⟩ = some (.int .i64 x.idx) := by
      have := (hc 0 (by simp)).1 0 (.int .i64 x.idx) rfl
      simpa using this
    rw [← hn] at hlen ⊢
    have hno' : (n : Int) = count → x.idx ≠ first := by
      intro h h'
      have e : Cut.okM first count (x :: l') = true := by
        show (decide (((x :: l').length : Int) = count) && decide (x.idx = first)) = true
        rw [← hn, decide_eq_true h, decide_eq_true h']; rfl
      rw [e] at hno
      cases hno
    by_cases hcn : (n : Int) = count
    · have hix := hno' hcn
      have d1 : (count != (n : Int)) = false := by simp [hcn]
      have d2 : (first != x.idx) = true := by simpa using fun h => hix h.symm
      clear hcn hix hno hno' hc hl hn
      go_enter Try.func16, Try.ntmps16
      go_wp2_with fail
      go_quiet (fail)
      go_wp2_with fail
      obtain ⟨h1, h2⟩ := Fin2.out nq _ _ _ _ _
      exact bodyPost_ret (results_rowL rfl _ _ (w.heap.size + 1) 36 _ _ rfl h1 Try.underlying36 rfl rfl _ rfl) rfl ⟨rfl, h2⟩
    · have d1 : (count != (n : Int)) = true := by simpa using fun h => hcn h.symm
      clear hcn hno hno' hc hl hn
      go_enter Try.func16, Try.ntmps16
      go_wp2_with fail
      go_quiet (fail)
      go_wp2_with fail
      obtain ⟨h1, h2⟩ := Fin2.out nq _ _ _ _ _
      exact bodyPost_ret (results_rowL rfl _ _ (w.heap.size + 1) 36 _ _ rfl h1 Try.underlying36 rfl rfl _ rfl) rfl ⟨rfl, h2⟩
end Go.Proofs.Ytncahgjmdeepeaa
