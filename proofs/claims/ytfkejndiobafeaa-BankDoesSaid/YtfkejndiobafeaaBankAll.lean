/- bank: All, Total. -/
import Derived.Test.YtfkejndiobafeaaBankMove
namespace Go.Proofs.Ytfkejndiobafeaa
open Go.RowKit
set_option linter.unusedVariables false
set_option linter.unusedSimpArgs false

/-- the first k numbers are there -/
def part (L : List Int) (k : Nat) : List Int := L.take k ++ List.replicate (64 - k) 0
theorem part_zero (L : List Int) : part L 0 = Bank.none_ := rfl
theorem part_len (L : List Int) (k : Nat) (hL : L.length = 64) (hk : k ≤ 64) : (part L k).length = 64 := by
  unfold part
  rw [List.length_append, List.length_take, List.length_replicate]; omega
theorem part_all (L : List Int) (hL : L.length = 64) : part L 64 = L := by
  unfold part
  rw [List.take_of_length_le (by omega)]; simp
theorem part_set (L : List Int) (k : Nat) (hL : L.length = 64) (hk : k < 64) : (part L k).set k (L.getD k 0) = part L (k + 1) := by
  have hl : (L.take k).length = k := by rw [List.length_take]; omega
  unfold part
  rw [List.set_append_right _ _ (by omega), hl, Nat.sub_self, List.take_succ_eq_append_getElem (by omega), List.append_assoc]
  congr 1
  rw [show 64 - k = (64 - (k + 1)) + 1 by omega, List.replicate_succ, List.set_cons_zero]
  simp [List.getD, show k < L.length by omega]

/-- 64 zeros -/
def zeros : Array Value := (Is Bank.none_).toArray
theorem make_zeros (u : World) : (Instr.makeSlice 35 (.int .i64 64) (.int .i64 64)).run Try.prog u = .ok (.slice (some ⟨u.heap.size, 0, none⟩) 64 64) (u.alloc (.cells zeros 3)) := by kernel_rfl
theorem bankAll_nil (w : World) : Calls Try.prog 16 #[.pointer none] w fun e w' => e = .returned (.slice none 0 0) ∧ w = w' := by
  go_enter Try.func16, Try.ntmps16
  go_wp2_with fail
  go_ret
  exact ⟨rfl, rfl⟩
set_option maxRecDepth 20000 in
set_option maxHeartbeats 400000 in
theorem bankAll_any (w : World) (B : Nat) (L : List Int) (hB : BankAt w B L) :
    Calls Try.prog 16 #[.pointer (some ⟨B, 0, none⟩)] w fun e w' =>
      e = .returned (.slice (some ⟨w.heap.size, 0, none⟩) 64 64) ∧ Row w' w.heap.size 3 (Is L) ∧ w.grownBy w' none := by
  have hL := hB.2.1
  have HL := Lib.hid hL
  have HB := Lib.hid hB
  clear hL hB
  have hmk := make_zeros
  have hst : Row (w.alloc (.cells zeros 3)) w.heap.size 3 (Is (part L 0)) := Row.new w 3 (Is Bank.none_)
  have Hst := Lib.hid hst
  clear hst
  go_enter Try.func16, Try.ntmps16
  go_wp2_with fail
  go_loopw [8] (fun i wr => ∃ k : Nat, k ≤ 64 ∧ i = .int .i64 k ∧ Row wr w.heap.size 3 (Is (part L k)) ∧ w.grownBy wr none) (fun i _ => 64 - (intOf i).toNat)
  case atStart => exact ⟨0, Nat.zero_le _, rfl, Hst.out, grownBy_alloc _ _ _⟩
  case round =>
    obtain ⟨k, hk, rfl, hrow, hg⟩ := hrel
    by_cases hlt : k < 64
    · have hlt' : (k : Int) < 64 := by omega
      have hBr := HB.out.kept hg (by simp)
      have hcell := hBr.1.num k (by rw [HL.out]; exact hlt)
      have hpl := part_len L k HL.out hk
      have hcell2 := hrow.num k (by rw [hpl]; exact hlt)
      have hfree := hrow.free k
      have hset := hrow.setNum k (L.getD k 0) (by rw [hpl]; exact hlt)
      rw [part_set L k HL.out hlt] at hset
      generalize L.getD k 0 = x at *
      generalize (part L k).getD k 0 = y at *
      have Hset := Lib.hid hset
      have hgk : w.grownBy (wr.setCell ⟨w.heap.size, k, none⟩ (.int .i64 x)) none :=
        ⟨rfl |>.trans hg.os, hg.tape, hg.output, Nat.le_trans hg.size (by simp [World.setCell]), fun q hq hne => (Below.heap_setCell _ _ _ _ (by show q ≠ w.heap.size; omega)).trans (hg.block q hq hne)⟩
      have Hgk := Lib.hid hgk
      clear hset hBr hrow hpl hg hgk
      go_wp2_with fail
      refine ⟨⟨k + 1, hlt, by go_num, Hset.out, Hgk.out⟩, by simp [intOf]; omega⟩
    · obtain rfl : k = 64 := by omega
      rw [part_all L HL.out] at hrow
      have Hrow := Lib.hid hrow
      have Hg := Lib.hid hg
      clear hrow hg
      go_wp2_with fail
      go_ret
      exact ⟨rfl, Hrow.out, Hg.out⟩

theorem bankTotal_nil (w : World) : Calls Try.prog 18 #[.pointer none] w fun e w' => e = .returned (.int .i64 0) ∧ w = w' := by
  go_enter Try.func18, Try.ntmps18
  go_wp2_with fail
  go_loop [3, 5] (fun s i => ∃ k : Nat, k ≤ 64 ∧ i = .int .i64 k ∧ s = .int .i64 0) (fun _ i => 64 - (intOf i).toNat)
  case atStart => exact ⟨0, Nat.zero_le _, rfl, rfl⟩
  case round =>
    obtain ⟨k, hk, rfl, rfl⟩ := hrel
    by_cases hlt : k < 64
    · have hlt' : (k : Int) < 64 := by omega
      go_wp2_with fail
      refine (bankOf_nil _ _).mono ?_
      rintro e w1 ⟨rfl, rfl⟩
      go_wp2_with fail
      refine ⟨⟨k + 1, hlt, by go_num, rfl⟩, by simp [intOf]; omega⟩
    · obtain rfl : k = 64 := by omega
      go_wp2_with fail
      go_ret
      exact ⟨rfl, rfl⟩
theorem bankTotal_any (w : World) (B : Nat) (L : List Int) (hB : BankAt w B L) :
    Calls Try.prog 18 #[.pointer (some ⟨B, 0, none⟩)] w fun e w' => e = .returned (.int .i64 (Bank.sum L)) ∧ w = w' := by
  have HB := Lib.hid hB
  have hok := hB.2
  have Hok := Lib.hid hok
  clear hB hok
  go_enter Try.func18, Try.ntmps18
  go_wp2_with fail
  go_loop [3, 5] (fun s i => ∃ k : Nat, k ≤ 64 ∧ i = .int .i64 k ∧ s = .int .i64 (Bank.sum (L.take k))) (fun _ i => 64 - (intOf i).toNat)
  case atStart => exact ⟨0, Nat.zero_le _, rfl, rfl⟩
  case round =>
    obtain ⟨k, hk, rfl, rfl⟩ := hrel
    by_cases hlt : k < 64
    · have hlt' : (k : Int) < 64 := by omega
      have hb := Bank.sum_bound Hok.out k hk
      have hx := Hok.out.2 k hlt
      have hs := Bank.sum_take_succ L k (by rw [Hok.out.1]; exact hlt)
      have ho : ofV L (k : Int) = L.getD k 0 := by
        unfold ofV
        rw [if_pos (Bank.okW_iff.2 (by omega))]; rfl
      generalize Bank.sum (L.take k) = x at *
      generalize L.getD k 0 = y at *
      have Hs := Lib.hid hs
      have Ho := Lib.hid ho
      clear hs ho
      have hxy : x ≤ 70368744177664 := by omega
      go_wp2_with fail
      refine (bankOf_any _ _ _ _ HB.out).mono ?_
      rintro e w1 ⟨rfl, rfl⟩
      rw [Ho.out]
      go_wp2_with fail
      refine ⟨⟨k + 1, hlt, by go_num, by rw [Hs.out]⟩, by simp [intOf]; omega⟩
    · obtain rfl : k = 64 := by omega
      have he : Bank.sum (L.take 64) = Bank.sum L := by rw [List.take_of_length_le (by rw [Hok.out.1]; omega)]
      rw [he]
      go_wp2_with fail
      go_ret
      exact ⟨rfl, rfl⟩
end Go.Proofs.Ytfkejndiobafeaa
