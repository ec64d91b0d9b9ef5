/- bank: Move. -/
import Derived.Test.YtfkejndiobafeaaBankOps
namespace Go.Proofs.Ytfkejndiobafeaa
open Go.RowKit
set_option linter.unusedVariables false
set_option linter.unusedSimpArgs false

theorem wrong_two (a : Addr) (n x y : Int) (w : World) :
    Calls Try.prog 25 #[.pointer (some a), .int .i64 n, .slice (some ⟨w.heap.size, 0, none⟩) 2 2] (w.alloc (.cells #[.int .i64 x, .int .i64 y] 3)) fun e w' =>
      e = .returned (.int .i64 (if Bank.okW x = false ∨ Bank.okW y = false then 20 else if Bank.okN n = false then 2 else 0)) ∧ w.alloc (.cells #[.int .i64 x, .int .i64 y] 3) = w' := by
  have h := wrong_any a n w.heap.size 2 [x, y] (w.alloc (.cells #[.int .i64 x, .int .i64 y] 3)) (by simp) (fun k hk => by
    have hk : k < 2 := hk
    obtain rfl | rfl : k = 0 ∨ k = 1 := by omega
    · simp [List.getD]
    · simp [List.getD])
  refine h.mono ?_
  rintro e w' ⟨rfl, rfl⟩
  refine ⟨?_, rfl⟩
  unfold wrongE
  have : ([x, y].all Bank.okW = false) = (Bank.okW x = false ∨ Bank.okW y = false) := by
    simp only [List.all_cons, List.all_nil, Bool.and_true, Bool.and_eq_false_iff]
  simp only [this]
theorem bankMove_nil (a b n : Int) (w : World) : Calls Try.prog 21 #[.pointer none, .int .i64 a, .int .i64 b, .int .i64 n] w fun e w' => e = .returned (.int .i64 1) ∧ w.grownBy w' none := by
  go_enter Try.func21, Try.ntmps21
  go_wp2_with fail
  refine (wrong_nil _ _ _).mono ?_
  rintro e w1 ⟨rfl, rfl⟩
  go_wp2_with fail
  go_ret
  exact ⟨rfl, grownBy_alloc _ _ _⟩
theorem bankMove_wrong (a b n : Int) (w : World) (B : Nat) (L : List Int) (hB : BankAt w B L) (hab : Bank.okW a = false ∨ Bank.okW b = false) :
    Calls Try.prog 21 #[.pointer (some ⟨B, 0, none⟩), .int .i64 a, .int .i64 b, .int .i64 n] w fun e w' =>
      e = .returned (.int .i64 (Bank.move L a b n).1) ∧ BankAt w' B (Bank.move L a b n).2 ∧ w.grownBy w' (some B) := by
  have hp : Bank.move L a b n = (20, L) := by
    unfold Bank.move
    rw [if_pos hab]
  rw [hp]
  have he : (if Bank.okW a = false ∨ Bank.okW b = false then (20 : Int) else if Bank.okN n = false then 2 else 0) = 20 := if_pos hab
  have HB := Lib.hid hB
  have He := Lib.hid he
  clear hab hp hB he
  go_enter Try.func21, Try.ntmps21
  go_wp2_with fail
  refine (wrong_two _ _ _ _ _).mono ?_
  rintro e w1 ⟨rfl, rfl⟩
  rw [He.out]
  go_wp2_with fail
  go_ret
  exact ⟨rfl, HB.out.kept (grownBy_alloc _ _ none) (by simp), grownBy_alloc _ _ _⟩
theorem bankMove_amount (a b n : Int) (w : World) (B : Nat) (L : List Int) (hB : BankAt w B L) (hab : ¬ (Bank.okW a = false ∨ Bank.okW b = false)) (hn : Bank.okN n = false) :
    Calls Try.prog 21 #[.pointer (some ⟨B, 0, none⟩), .int .i64 a, .int .i64 b, .int .i64 n] w fun e w' =>
      e = .returned (.int .i64 (Bank.move L a b n).1) ∧ BankAt w' B (Bank.move L a b n).2 ∧ w.grownBy w' (some B) := by
  have hp : Bank.move L a b n = (2, L) := by
    unfold Bank.move
    rw [if_neg hab, if_pos hn]
  rw [hp]
  have he : (if Bank.okW a = false ∨ Bank.okW b = false then (20 : Int) else if Bank.okN n = false then 2 else 0) = 2 := by rw [if_neg hab, if_pos hn]
  have HB := Lib.hid hB
  have He := Lib.hid he
  clear hab hp hB he hn
  go_enter Try.func21, Try.ntmps21
  go_wp2_with fail
  refine (wrong_two _ _ _ _ _).mono ?_
  rintro e w1 ⟨rfl, rfl⟩
  rw [He.out]
  go_wp2_with fail
  go_ret
  exact ⟨rfl, HB.out.kept (grownBy_alloc _ _ none) (by simp), grownBy_alloc _ _ _⟩

set_option maxHeartbeats 800000 in
theorem bankMove_any (a b n : Int) (w : World) (B : Nat) (L : List Int) (hB : BankAt w B L) :
    Calls Try.prog 21 #[.pointer (some ⟨B, 0, none⟩), .int .i64 a, .int .i64 b, .int .i64 n] w fun e w' =>
      e = .returned (.int .i64 (Bank.move L a b n).1) ∧ BankAt w' B (Bank.move L a b n).2 ∧ w.grownBy w' (some B) := by
  have hlt := hB.1.lt
  by_cases hab : Bank.okW a = false ∨ Bank.okW b = false
  · exact bankMove_wrong a b n w B L hB hab
  by_cases hn : Bank.okN n = true
  · have ha : Bank.okW a = true := by
      rcases Bool.eq_false_or_eq_true (Bank.okW a) with e | e
      · exact e
      · exact absurd (Or.inl e) hab
    have hb : Bank.okW b = true := by
      rcases Bool.eq_false_or_eq_true (Bank.okW b) with e | e
      · exact e
      · exact absurd (Or.inr e) hab
    have he : (if Bank.okW a = false ∨ Bank.okW b = false then (20 : Int) else if Bank.okN n = false then 2 else 0) = 0 := by rw [if_neg hab, if_neg (by rw [hn]; decide)]
    rw [Bank.okW_iff] at ha hb
    have hn' := hn
    rw [Bank.okN_iff] at hn'
    obtain ⟨k, rfl⟩ : ∃ k : Nat, a = (k : Int) := ⟨a.toNat, by omega⟩
    obtain ⟨j, rfl⟩ : ∃ j : Nat, b = (j : Int) := ⟨b.toNat, by omega⟩
    have hk : k < 64 := by omega
    have hj : j < 64 := by omega
    have hki : (k : Int) < 64 := by omega
    have hji : (j : Int) < 64 := by omega
    have hkL : k < L.length := by rw [hB.2.1]; exact hk
    have hjL : j < L.length := by rw [hB.2.1]; exact hj
    have hcell := hB.1.num k hkL
    have hcell2 := hB.1.num j hjL
    have hx0 := hB.2.2 k hk
    have hy0 := hB.2.2 j hj
    have hpo := Bank.move_ok (a := (k : Int)) (b := (j : Int)) (n := n) hB.2
    have hp : Bank.move L (k : Int) (j : Int) n = if L.getD k 0 < n then (28, L) else if (k : Int) = (j : Int) then (0, L) else
        if 1099511627776 < L.getD j 0 + n then (3, L) else (0, (L.set k (L.getD k 0 - n)).set j (L.getD j 0 + n)) := by
      unfold Bank.move
      rw [if_neg hab, if_neg (by rw [hn]; decide)]
      rfl
    rw [hp] at hpo ⊢
    have HB := Lib.hid hB
    generalize hxx : L.getD k 0 = x at *
    generalize hyy : L.getD j 0 = y at *
    have He := Lib.hid he
    have Hxx := Lib.hid hxx
    have Hyy := Lib.hid hyy
    clear ha hb hn hp hB hxx hyy he hab
    by_cases hless : x < n
    · have hd : decide (x < n) = true := by simpa using hless
      rw [if_pos hless]
      clear hpo
      go_enter Try.func21, Try.ntmps21
      go_wp2_with fail
      refine (wrong_two _ _ _ _ _).mono ?_
      rintro e w1 ⟨rfl, rfl⟩
      rw [He.out]
      go_wp2_with fail
      go_ret
      exact ⟨rfl, HB.out.kept (grownBy_alloc _ _ none) (by simp), grownBy_alloc _ _ _⟩
    · have hd : decide (x < n) = false := by simpa using hless
      rw [if_neg hless] at hpo ⊢
      by_cases hkj : k = j
      · subst hkj
        rw [if_pos rfl] at hpo ⊢
        clear hcell2 hpo hy0 hjL hj
        have hxy := Hxx.out
        rw [Hyy.out] at hxy
        subst hxy
        go_enter Try.func21, Try.ntmps21
        go_wp2_with fail
        refine (wrong_two _ _ _ _ _).mono ?_
        rintro e w1 ⟨rfl, rfl⟩
        rw [He.out]
        go_wp2_with fail
        refine region_named 11 (by kernel_rfl) (by kernel_rfl) ?_
        intro w3 hw3
        have hg3 : w.grownBy w3 (some B) := by rw [hw3]; exact (grownBy_alloc _ _ _).trans (grownBy_drew _ _)
        have hB3 : BankAt w3 B L := by rw [hw3]; exact HB.out.kept ((grownBy_alloc w _ none).trans (grownBy_drew _ _)) (by simp)
        have hcell := hB3.1.num k hkL
        have hfree := hB3.1.free k
        rw [Hxx.out] at hcell
        have HB3 := Lib.hid hB3
        have Hg3 := Lib.hid hg3
        clear hw3 hB3 hg3
        simp only [List.take_succ_cons, List.take_zero, List.drop_succ_cons, List.drop_zero]
        repeat still_step
        refine wpStill_nil ?_
        go_wp2_with fail
        refine region_named 11 (by kernel_rfl) (by kernel_rfl) ?_
        intro w4 hw4
        have hB4 : Row w4 B 47 (Is (L.set k (y - n))) := by rw [hw4]; exact (HB3.out.1.setNum k _ hkL).kept (grownBy_drew _ none) (by simp)
        have hg4 : w.grownBy w4 (some B) := by rw [hw4]; exact (Hg3.out.trans (grownBy_set _ _ _ _)).trans (grownBy_drew _ _)
        have hcell4 := hB4.num k (by rw [List.length_set]; exact hkL)
        rw [Bank.getD_set_same hkL] at hcell4
        have hfree4 := hB4.free k
        have HB4 := Lib.hid hB4
        have Hg4 := Lib.hid hg4
        clear hw4 hB4 hg4 hcell hfree
        simp only [List.take_succ_cons, List.take_zero, List.drop_succ_cons, List.drop_zero]
        repeat still_step
        refine wpStill_nil ?_
        go_wp2_with fail
        go_ret
        have hB5 := HB4.out.setNum k (y - n + n) (by rw [List.length_set]; exact hkL)
        have eL : (L.set k (y - n)).set k (y - n + n) = L := by
          rw [List.set_set, Int.sub_add_cancel]
          have := Hxx.out
          apply List.ext_getElem
          · rw [List.length_set]
          · intro i h1 h2
            rw [List.getElem_set]
            split
            · next e => subst e; simpa [List.getD, h2] using this.symm
            · rfl
        rw [eL] at hB5
        have ey : y - n + n = y := Int.sub_add_cancel _ _
        first
          | exact ⟨rfl, ⟨hB5, HB.out.2⟩, Hg4.out.trans (grownBy_set _ _ _ _)⟩
          | (rw [ey] at hB5; exact ⟨rfl, ⟨hB5, HB.out.2⟩, Hg4.out.trans (grownBy_set _ _ _ _)⟩)
      · have hkj' : ¬ ((k : Int) = (j : Int)) := by omega
        rw [if_neg hkj'] at hpo ⊢
        have hdk : ((k : Int) == (j : Int)) = false := by simpa using hkj'
        have hdk2 : ((k : Int) != (j : Int)) = true := by simpa using hkj'
        have Hkj := Lib.hid hkj
        have Hkj' := Lib.hid hkj'
        clear hkj'
        by_cases hbig : 1099511627776 < y + n
        · have hd2 : decide (1099511627776 < y + n) = true := by simpa using hbig
          rw [if_pos hbig]
          clear hpo
          go_enter Try.func21, Try.ntmps21
          go_wp2_with fail
          refine (wrong_two _ _ _ _ _).mono ?_
          rintro e w1 ⟨rfl, rfl⟩
          rw [He.out]
          go_wp2_with fail
          go_ret
          exact ⟨rfl, HB.out.kept (grownBy_alloc _ _ none) (by simp), grownBy_alloc _ _ _⟩
        · have hd2 : decide (1099511627776 < y + n) = false := by simpa using hbig
          rw [if_neg hbig] at hpo ⊢
          have Hpo := Lib.hid hpo
          clear hpo
          go_enter Try.func21, Try.ntmps21
          go_wp2_with fail
          refine (wrong_two _ _ _ _ _).mono ?_
          rintro e w1 ⟨rfl, rfl⟩
          rw [He.out]
          go_wp2_with fail
          refine region_named 11 (by kernel_rfl) (by kernel_rfl) ?_
          intro w3 hw3
          have hg3 : w.grownBy w3 (some B) := by rw [hw3]; exact (grownBy_alloc _ _ _).trans (grownBy_drew _ _)
          have hB3 : BankAt w3 B L := by rw [hw3]; exact HB.out.kept ((grownBy_alloc w _ none).trans (grownBy_drew _ _)) (by simp)
          have hcell := hB3.1.num k hkL
          have hfree := hB3.1.free k
          rw [Hxx.out] at hcell
          have HB3 := Lib.hid hB3
          have Hg3 := Lib.hid hg3
          clear hw3 hB3 hg3
          simp only [List.take_succ_cons, List.take_zero, List.drop_succ_cons, List.drop_zero]
          repeat still_step
          refine wpStill_nil ?_
          go_wp2_with fail
          refine region_named 11 (by kernel_rfl) (by kernel_rfl) ?_
          intro w4 hw4
          have hB4 : Row w4 B 47 (Is (L.set k (x - n))) := by rw [hw4]; exact (HB3.out.1.setNum k _ hkL).kept (grownBy_drew _ none) (by simp)
          have hg4 : w.grownBy w4 (some B) := by rw [hw4]; exact (Hg3.out.trans (grownBy_set _ _ _ _)).trans (grownBy_drew _ _)
          have hcell4 := hB4.num j (by rw [List.length_set]; exact hjL)
          rw [Bank.getD_set_ne Hkj.out, Hyy.out] at hcell4
          have hfree4 := hB4.free j
          have HB4 := Lib.hid hB4
          have Hg4 := Lib.hid hg4
          clear hw4 hB4 hg4 hcell hfree
          simp only [List.take_succ_cons, List.take_zero, List.drop_succ_cons, List.drop_zero]
          repeat still_step
          refine wpStill_nil ?_
          go_wp2_with fail
          go_ret
          exact ⟨rfl, ⟨HB4.out.setNum j _ (by rw [List.length_set]; exact hjL), Hpo.out⟩, Hg4.out.trans (grownBy_set _ _ _ _)⟩
  · rw [Bool.not_eq_true] at hn
    exact bankMove_amount a b n w B L hB hab hn
end Go.Proofs.Ytfkejndiobafeaa
