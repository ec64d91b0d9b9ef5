/- cavalcaderef05.Batches, over two batches that are the same. -/
import Derived.Test.YtncahgjmdeepeaaCutMake
import Derived.Laws.StructEq
namespace Go.Proofs.Ytncahgjmdeepeaa
open Go.RowKit
set_option linter.unusedVariables false
set_option linter.unusedSimpArgs false

theorem neq_part (d : Bool) (s : ByteArray) (W : World) : (binOp .neq 46 (.agg #[.bool d, .string s]) (.agg #[.bool d, .string s])).run Try.prog W = .ok (.bool false) W := by
  simp [go_sem, run_neq_struct]

set_option maxRecDepth 20000 in
set_option maxHeartbeats 800000 in
theorem batches_none (sq first before : Int) (w : World) :
    Calls Try.prog 17 #[.agg #[.int .i64 sq, .int .i64 first, .int .i64 before, .slice none 0 0], .agg #[.int .i64 sq, .int .i64 first, .int .i64 before, .slice none 0 0]] w fun e w' =>
      e = .returned (.bool true) ∧ Below w.heap.size w w' := by
  have e1 : (sq != sq) = false := by simp
  have e2 : (first != first) = false := by simp
  have e3 : (before != before) = false := by simp
  go_enter Try.func17, Try.ntmps17
  go_wp2_with fail
  go_loopw [5] (fun i wr => i = .int .i64 0 ∧ Row wr (w.heap.size) 36 [.int .i64 sq, .int .i64 first, .int .i64 before, .slice none 0 0] ∧ Below w.heap.size w wr) (fun i _ => 0)
  case atStart =>
    refine ⟨rfl, (Row.new w _ _).kept (grownBy_alloc _ _ none) (by simp), ((Below.refl w.heap.size w).alloc (Nat.le_refl _) _).alloc (by simp) _⟩
  case round =>
    obtain ⟨rfl, hr, hb⟩ := hrel
    have c3 := hr.cell 3 (by simp)
    simp only [List.getElem_cons_zero, List.getElem_cons_succ] at c3
    have Hb := Lib.hid hb
    clear hr hb
    go_wp2_with fail
    go_ret
    exact ⟨rfl, Hb.out⟩

set_option maxRecDepth 20000 in
set_option maxHeartbeats 1600000 in
theorem batches_same (sq first before : Int) (B C n c1 c2 : Nat) (ps : List (Bool × ByteArray)) (w : World) (hn : n = ps.length) (hn1 : n ≤ 9223372036854775807) (hB : B < w.heap.size) (hC : C < w.heap.size)
    (hp : ∀ k (h : k < ps.length), w.cell? ⟨B, k * 2, none⟩ = some (.bool ps[k].1) ∧ w.cell? ⟨B, k * 2 + 1, none⟩ = some (.string ps[k].2) ∧ w.cell? ⟨C, k * 2, none⟩ = some (.bool ps[k].1) ∧ w.cell? ⟨C, k * 2 + 1, none⟩ = some (.string ps[k].2)) :
    Calls Try.prog 17 #[.agg #[.int .i64 sq, .int .i64 first, .int .i64 before, .slice (some ⟨B, 0, none⟩) n c1], .agg #[.int .i64 sq, .int .i64 first, .int .i64 before, .slice (some ⟨C, 0, none⟩) n c2]] w fun e w' =>
      e = .returned (.bool true) ∧ Below w.heap.size w w' := by
  have e1 : (sq != sq) = false := by simp
  have e2 : (first != first) = false := by simp
  have e3 : (before != before) = false := by simp
  have e4 : ((n : Int) != (n : Int)) = false := by simp
  have Hp := Lib.hid hp
  have Hn := Lib.hid hn
  clear hp hn
  go_enter Try.func17, Try.ntmps17
  go_wp2_with fail
  go_loopw [5] (fun i wr => ∃ k : Nat, k ≤ n ∧ i = .int .i64 k ∧ Row wr (w.heap.size) 36 [.int .i64 sq, .int .i64 first, .int .i64 before, .slice (some ⟨B, 0, none⟩) n c1] ∧ Row wr (w.heap.size + 1) 36 [.int .i64 sq, .int .i64 first, .int .i64 before, .slice (some ⟨C, 0, none⟩) n c2] ∧ Below w.heap.size w wr) (fun i _ => n - (intOf i).toNat)
  case atStart =>
    have r2 := Row.new (w.alloc (.cells #[.int .i64 sq, .int .i64 first, .int .i64 before, .slice (some ⟨B, 0, none⟩) n c1] 36)) 36 [.int .i64 sq, .int .i64 first, .int .i64 before, .slice (some ⟨C, 0, none⟩) n c2]
    rw [show ∀ (W : World) (o : Obj), (W.alloc o).heap.size = W.heap.size + 1 from fun W o => by simp] at r2
    exact ⟨0, Nat.zero_le _, rfl, (Row.new w _ _).kept (grownBy_alloc _ _ none) (by simp), r2, ((Below.refl w.heap.size w).alloc (Nat.le_refl _) _).alloc (by simp) _⟩
  case round =>
    obtain ⟨k, hk, rfl, hr, hr2, hb⟩ := hrel
    have c3 := hr.cell 3 (by simp)
    have d3 := hr2.cell 3 (by simp)
    simp only [List.getElem_cons_zero, List.getElem_cons_succ] at c3 d3
    have Hb := Lib.hid hb
    have Hr := Lib.hid hr
    have Hr2 := Lib.hid hr2
    clear hr hr2 hb e1 e2 e3 e4
    by_cases hlt : k < n
    · have hki : (k : Int) < (n : Int) := by omega
      obtain ⟨p0, p1, p2, p3⟩ := Hp.out k (by rw [← Hn.out]; exact hlt)
      obtain ⟨d, hd⟩ : ∃ d, d = (ps[k]'(by rw [← Hn.out]; exact hlt)).1 := ⟨_, rfl⟩
      obtain ⟨s, hs⟩ : ∃ s, s = (ps[k]'(by rw [← Hn.out]; exact hlt)).2 := ⟨_, rfl⟩
      rw [← hd] at p0 p2
      rw [← hs] at p1 p3
      clear hd hs
      have b0 := (Hb.out.cell (p := ⟨B, k * 2, none⟩) hB).trans p0
      have b1 := (Hb.out.cell (p := ⟨B, k * 2 + 1, none⟩) hB).trans p1
      have b2 := (Hb.out.cell (p := ⟨C, k * 2, none⟩) hC).trans p2
      have b3 := (Hb.out.cell (p := ⟨C, k * 2 + 1, none⟩) hC).trans p3
      have hneq := neq_part d s
      clear p0 p1 p2 p3
      go_wp2_with fail
      go_quiet (fail)
      go_wp2_with fail
      refine ⟨⟨k + 1, hlt, by go_num, Hr.out.kept (grownBy_drewN _ nq none) (by simp), Hr2.out.kept (grownBy_drewN _ nq none) (by simp), below_drewN' Hb.out _⟩, by simp [intOf]; omega⟩
    · have hki : (n : Int) ≤ (k : Int) := by omega
      go_wp2_with fail
      go_ret
      exact ⟨rfl, Hb.out⟩
end Go.Proofs.Ytncahgjmdeepeaa
