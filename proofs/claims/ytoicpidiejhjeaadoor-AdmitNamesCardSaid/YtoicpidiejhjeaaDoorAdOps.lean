/- admit: New, Next, In. -/
import Derived.Test.YtoicpidiejhjeaaDoorAdGate
namespace Go.Proofs.YtoicpidiejhjeaaDoor
open Go.RowKit Go.Maps
set_option linter.unusedVariables false
set_option linter.unusedSimpArgs false
set_option maxRecDepth 100000

abbrev Ad.new (fl : Int) : Ad.G := ⟨fl, List.replicate 64 0, []⟩
theorem gate_built (fl : Int) (M : Nat) : Tryd.prog.built 53 [(0, .int .i64 fl), (2, .map (some M))] = some (Ad.cells (Ad.new fl) M).toArray := by kernel_rfl
theorem gateNew_ok (n : Int) (w : World) (h1 : 0 ≤ n) (h2 : n ≤ 1099511627776) :
    Calls Tryd.prog 6 #[.int .i64 n] w fun e w' => e = .returned (.tuple #[.pointer (some ⟨w.heap.size + 1, 0, none⟩), .int .i64 0]) ∧ GTo w w' (w.heap.size + 1) w.heap.size (Ad.new n) 0 := by
  have d1 : decide (n < 0) = false := by simp only [decide_eq_false_iff_not]; omega
  have d2 : decide (1099511627776 < n) = false := by simp only [decide_eq_false_iff_not]; omega
  have hmm := @run_makeMap Tryd.prog
  have HBt := Lib.hid (gate_built n w.heap.size)
  have HOk : Hid (Ad.Ok 0 (Ad.new n)) := Lib.hid ⟨by simp, by intro v hv; rw [List.eq_of_mem_replicate hv]; decide, h1, h2⟩
  obtain ⟨C, hC⟩ : ∃ C, Ad.cells (Ad.new n) w.heap.size = C := ⟨_, rfl⟩
  rw [hC] at HBt
  have HCe := Lib.hid hC
  clear hC h1 h2
  go_enter Tryd.func6, Tryd.ntmps6
  go_wp2_with ((with_reducible show wpList _ _ _ (⟨_, .build 53 _, _, _, _, _⟩ :: _) _ _); refine wpList_buildL rfl 53 [(0, .tmp 10), (2, .tmp 11)] rfl (some 12) rfl _ rfl _ HBt.out ?_)
  go_ret2
  have hm := World.ownsMap_made (H := Unit) w Tryd.prog 33 unitElem
  have e1 : (w.alloc (.map #[] 0)).heap.size = w.heap.size + 1 := by simp
  have hr := Row.new (w.alloc (.map #[] 0)) 53 C
  rw [e1, ← HCe.out] at hr
  rw [HCe.out] at hr
  refine ⟨rfl, ((Below.refl _ _).alloc (Nat.le_refl _) _).alloc (by simp) _, ⟨by rw [HCe.out]; exact hr, ⟨_, 0, Nat.le_refl _, hm.kept (grownBy_alloc _ _ none) (by simp), ReadsS.empty⟩, HOk.out⟩, Nat.le_succ _, Nat.le_refl _⟩
theorem next_nil (i : Int) (w : World) : Calls Tryd.prog 17 #[.pointer none, .int .i64 i] w fun e w' => e = .returned (.int .i64 0) ∧ w = w' := by
  go_enter Tryd.func17, Tryd.ntmps17
  go_wp2_with fail
  go_ret
  exact ⟨rfl, rfl⟩
theorem in_nil (w : World) : Calls Tryd.prog 10 #[.pointer none] w fun e w' => e = .returned (.int .i64 0) ∧ w = w' := by
  go_enter Tryd.func10, Tryd.ntmps10
  go_wp2_with fail
  go_ret
  exact ⟨rfl, rfl⟩
theorem in_any {w : World} {B M n : Nat} {g : Ad.G} (h : GateAt w B M g n) : Calls Tryd.prog 10 #[.pointer (some ⟨B, 0, none⟩)] w fun e w' => e = .returned (.int .i64 g.nm.length) ∧ w = w' := by
  have c := h.c65
  obtain ⟨D, N, hN, hD, hR⟩ := h.map
  rw [← hR.size]
  have HD := Lib.hid hD
  clear h hD hR
  go_enter Tryd.func10, Tryd.ntmps10
  go_wp2_with (at_len; refine wpList_len_own _ rfl _ 50 rfl 33 61 Tryd.underlying50 _ M N D rfl HD.out ?_)
  go_ret
  exact ⟨rfl, rfl⟩
theorem next_any {w : World} {B M n : Nat} {g : Ad.G} (h : GateAt w B M g n) (i : Int) (hi : 0 ≤ i ∧ i ≤ 63) : Calls Tryd.prog 17 #[.pointer (some ⟨B, 0, none⟩), .int .i64 i] w fun e w' => e = .returned (.int .i64 (Ad.nxt g i)) ∧ w = w' := by
  have c := h.c1 i hi
  generalize Ad.nxt g i = v at *
  obtain ⟨k, rfl⟩ : ∃ k : Nat, i = k := ⟨i.toNat, by omega⟩
  rw [Int.toNat_natCast] at c
  have d1 : decide ((k : Int) < 0) = false := by simp
  have d2 : decide (64 ≤ (k : Int)) = false := by simp; omega
  have hk0 : (0 : Int) ≤ (k : Int) := by omega
  have hk1 : (k : Int) < 64 := by omega
  clear h hi
  go_enter Tryd.func17, Tryd.ntmps17
  go_wp2_with fail
  go_ret
  exact ⟨rfl, rfl⟩
end Go.Proofs.YtoicpidiejhjeaaDoor
