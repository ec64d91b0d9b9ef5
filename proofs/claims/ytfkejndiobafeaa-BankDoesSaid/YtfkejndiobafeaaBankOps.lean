/- bank: New, Put, Take, Move, Of. -/
import Derived.Test.YtfkejndiobafeaaBankSome
namespace Go.Proofs.Ytfkejndiobafeaa
open Go.RowKit
set_option linter.unusedVariables false
set_option linter.unusedSimpArgs false

/-- at block B lies a bank that holds L -/
def BankAt (w : World) (B : Nat) (L : List Int) : Prop := Row w B 47 (Is L) ∧ Bank.Ok L
theorem BankAt.kept {w w' : World} {B : Nat} {r : Option Nat} {L : List Int} (h : BankAt w B L) (hg : w.grownBy w' r) (hne : some B ≠ r) : BankAt w' B L := ⟨h.1.kept hg hne, h.2⟩

theorem bankNew_any (w : World) : Calls Try.prog 8 #[] w fun e w' => e = .returned (.pointer (some ⟨w.heap.size, 0, none⟩)) ∧ BankAt w' w.heap.size Bank.none_ ∧ w.grownBy w' none := by
  go_enter Try.func8, Try.ntmps8
  go_wp2_with fail
  go_ret
  exact ⟨rfl, ⟨Row.new w 47 (Is Bank.none_), Bank.none_ok⟩, grownBy_alloc _ _ _⟩

theorem bankOf_nil (a : Int) (w : World) : Calls Try.prog 17 #[.pointer none, .int .i64 a] w fun e w' => e = .returned (.int .i64 0) ∧ w = w' := by
  go_enter Try.func17, Try.ntmps17
  go_wp2_with fail
  go_ret
  exact ⟨rfl, rfl⟩
def ofV (L : List Int) (a : Int) : Int := if Bank.okW a = true then Bank.at_ L a else 0
theorem bankOf_any (a : Int) (w : World) (B : Nat) (L : List Int) (hB : BankAt w B L) :
    Calls Try.prog 17 #[.pointer (some ⟨B, 0, none⟩), .int .i64 a] w fun e w' => e = .returned (.int .i64 (ofV L a)) ∧ w = w' := by
  unfold ofV
  by_cases ha : Bank.okW a = true
  · rw [if_pos ha]
    have ha' := ha
    rw [Bank.okW_iff] at ha'
    obtain ⟨k, rfl⟩ : ∃ k : Nat, a = (k : Int) := ⟨a.toNat, by omega⟩
    have hk : k < 64 := by omega
    have hcell := hB.1.num k (by rw [hB.2.1]; exact hk)
    have hx : Bank.at_ L (k : Int) = L.getD k 0 := rfl
    rw [hx]
    generalize L.getD k 0 = x at *
    have Ha := Lib.hid ha
    clear ha hx hB
    go_enter Try.func17, Try.ntmps17
    go_wp2_with fail
    refine (somebody_any _ _).mono ?_
    rintro e w1 ⟨rfl, rfl⟩
    rw [Ha.out]
    go_wp2_with fail
    go_ret
    exact ⟨rfl, rfl⟩
  · rw [Bool.not_eq_true] at ha
    rw [ha, if_neg Bool.false_ne_true]
    have Ha := Lib.hid ha
    clear ha hB
    go_enter Try.func17, Try.ntmps17
    go_wp2_with fail
    refine (somebody_any _ _).mono ?_
    rintro e w1 ⟨rfl, rfl⟩
    rw [Ha.out]
    go_wp2_with fail
    go_ret
    exact ⟨rfl, rfl⟩

theorem wrong_one (a : Addr) (n x : Int) (w : World) :
    Calls Try.prog 25 #[.pointer (some a), .int .i64 n, .slice (some ⟨w.heap.size, 0, none⟩) 1 1] (w.alloc (.cells #[.int .i64 x] 3)) fun e w' =>
      e = .returned (.int .i64 (if Bank.okW x = false then 20 else if Bank.okN n = false then 2 else 0)) ∧ w.alloc (.cells #[.int .i64 x] 3) = w' := by
  have h := wrong_any a n w.heap.size 1 [x] (w.alloc (.cells #[.int .i64 x] 3)) (by simp) (fun k hk => by
    have hk : k < 1 := hk
    obtain rfl : k = 0 := by omega
    simp [List.getD])
  refine h.mono ?_
  rintro e w' ⟨rfl, rfl⟩
  refine ⟨?_, rfl⟩
  unfold wrongE
  simp

theorem bankPut_nil (a n : Int) (w : World) : Calls Try.prog 19 #[.pointer none, .int .i64 a, .int .i64 n] w fun e w' => e = .returned (.int .i64 1) ∧ w.grownBy w' none := by
  go_enter Try.func19, Try.ntmps19
  go_wp2_with fail
  refine (wrong_nil _ _ _).mono ?_
  rintro e w1 ⟨rfl, rfl⟩
  go_wp2_with fail
  go_ret
  exact ⟨rfl, grownBy_alloc _ _ _⟩

set_option maxHeartbeats 800000 in
theorem bankPut_any (a n : Int) (w : World) (B : Nat) (L : List Int) (hB : BankAt w B L) :
    Calls Try.prog 19 #[.pointer (some ⟨B, 0, none⟩), .int .i64 a, .int .i64 n] w fun e w' =>
      e = .returned (.int .i64 (Bank.put L a n).1) ∧ BankAt w' B (Bank.put L a n).2 ∧ w.grownBy w' (some B) := by
  have hlt := hB.1.lt
  by_cases ha : Bank.okW a = true
  · by_cases hn : Bank.okN n = true
    · have ha' := ha
      rw [Bank.okW_iff] at ha'
      have hn' := hn
      rw [Bank.okN_iff] at hn'
      obtain ⟨k, rfl⟩ : ∃ k : Nat, a = (k : Int) := ⟨a.toNat, by omega⟩
      have hk : k < 64 := by omega
      have hkL : k < L.length := by rw [hB.2.1]; exact hk
      have hcell := hB.1.num k hkL
      have hfree := hB.1.free k
      have hx0 := hB.2.2 k hk
      have hpo := Bank.put_ok (a := (k : Int)) (n := n) hB.2
      have hp : Bank.put L (k : Int) n = if 1099511627776 < L.getD k 0 + n then (3, L) else (0, L.set k (L.getD k 0 + n)) := by
        unfold Bank.put
        rw [if_neg (by rw [ha]; decide), if_neg (by rw [hn]; decide)]
        rfl
      rw [hp] at hpo ⊢
      have HB := Lib.hid hB
      have Hpo := Lib.hid hpo
      generalize hxx : L.getD k 0 = x at *
      have Ha := Lib.hid ha
      have Hn := Lib.hid hn
      have Hxx := Lib.hid hxx
      clear ha hn hp hB hpo hxx
      by_cases hbig : 1099511627776 < x + n
      · have Hb : Hid (1099511627776 < x + n) := hbig
        have hd : decide (1099511627776 < x + n) = true := by simpa using hbig
        rw [if_pos hbig]
        go_enter Try.func19, Try.ntmps19
        go_wp2_with fail
        refine (wrong_one _ _ _ _).mono ?_
        rintro e w1 ⟨rfl, rfl⟩
        rw [Ha.out, Hn.out]
        go_wp2_with fail
        go_ret
        exact ⟨rfl, HB.out.kept (grownBy_alloc _ _ none) (by simp), grownBy_alloc _ _ _⟩
      · have hd : decide (1099511627776 < x + n) = false := by simpa using hbig
        rw [if_neg hbig] at Hpo ⊢
        go_enter Try.func19, Try.ntmps19
        go_wp2_with fail
        refine (wrong_one _ _ _ _).mono ?_
        rintro e w1 ⟨rfl, rfl⟩
        rw [Ha.out, Hn.out]
        go_wp2_with fail
        refine region_named 11 (by kernel_rfl) (by kernel_rfl) ?_
        intro w3 hw3
        have hg3 : w.grownBy w3 (some B) := by rw [hw3]; exact (grownBy_alloc _ _ _).trans (grownBy_drew _ _)
        have hB3 : BankAt w3 B L := by rw [hw3]; exact HB.out.kept ((grownBy_alloc w _ none).trans (grownBy_drew _ _)) (by simp)
        have hcell := hB3.1.num k hkL
        have hfree := hB3.1.free k
        rw [Hxx.out] at hcell
        have HB3 := Lib.hid hB3
        have Hg3 := Lib.hid hg3
        clear hw3 hB3 hg3
        simp only [List.take_succ_cons, List.take_zero, List.drop_succ_cons, List.drop_zero]
        repeat still_step
        refine wpStill_nil ?_
        go_wp2_with fail
        go_ret
        exact ⟨rfl, ⟨HB3.out.1.setNum k _ hkL, Hpo.out⟩, Hg3.out.trans (grownBy_set _ _ _ _)⟩
    · rw [Bool.not_eq_true] at hn
      have hp : Bank.put L a n = (2, L) := by
        unfold Bank.put
        rw [if_neg (by rw [ha]; decide), if_pos hn]
      rw [hp]
      have HB := Lib.hid hB
      have Ha := Lib.hid ha
      have Hn := Lib.hid hn
      clear ha hn hp hB
      go_enter Try.func19, Try.ntmps19
      go_wp2_with fail
      refine (wrong_one _ _ _ _).mono ?_
      rintro e w1 ⟨rfl, rfl⟩
      rw [Ha.out, Hn.out]
      go_wp2_with fail
      go_ret
      exact ⟨rfl, HB.out.kept (grownBy_alloc _ _ none) (by simp), grownBy_alloc _ _ _⟩
  · rw [Bool.not_eq_true] at ha
    have hp : Bank.put L a n = (20, L) := by
      unfold Bank.put
      rw [if_pos ha]
    rw [hp]
    have HB := Lib.hid hB
    have Ha := Lib.hid ha
    clear ha hp hB
    go_enter Try.func19, Try.ntmps19
    go_wp2_with fail
    refine (wrong_one _ _ _ _).mono ?_
    rintro e w1 ⟨rfl, rfl⟩
    rw [Ha.out]
    go_wp2_with fail
    go_ret
    exact ⟨rfl, HB.out.kept (grownBy_alloc _ _ none) (by simp), grownBy_alloc _ _ _⟩

theorem bankTake_nil (a n : Int) (w : World) : Calls Try.prog 20 #[.pointer none, .int .i64 a, .int .i64 n] w fun e w' => e = .returned (.int .i64 1) ∧ w.grownBy w' none := by
  go_enter Try.func20, Try.ntmps20
  go_wp2_with fail
  refine (wrong_nil _ _ _).mono ?_
  rintro e w1 ⟨rfl, rfl⟩
  go_wp2_with fail
  go_ret
  exact ⟨rfl, grownBy_alloc _ _ _⟩

set_option maxHeartbeats 800000 in
theorem bankTake_any (a n : Int) (w : World) (B : Nat) (L : List Int) (hB : BankAt w B L) :
    Calls Try.prog 20 #[.pointer (some ⟨B, 0, none⟩), .int .i64 a, .int .i64 n] w fun e w' =>
      e = .returned (.int .i64 (Bank.take L a n).1) ∧ BankAt w' B (Bank.take L a n).2 ∧ w.grownBy w' (some B) := by
  have hlt := hB.1.lt
  by_cases ha : Bank.okW a = true
  · by_cases hn : Bank.okN n = true
    · have ha' := ha
      rw [Bank.okW_iff] at ha'
      have hn' := hn
      rw [Bank.okN_iff] at hn'
      obtain ⟨k, rfl⟩ : ∃ k : Nat, a = (k : Int) := ⟨a.toNat, by omega⟩
      have hk : k < 64 := by omega
      have hkL : k < L.length := by rw [hB.2.1]; exact hk
      have hcell := hB.1.num k hkL
      have hfree := hB.1.free k
      have hx0 := hB.2.2 k hk
      have hpo := Bank.take_ok (a := (k : Int)) (n := n) hB.2
      have hp : Bank.take L (k : Int) n = if L.getD k 0 < n then (28, L) else (0, L.set k (L.getD k 0 - n)) := by
        unfold Bank.take
        rw [if_neg (by rw [ha]; decide), if_neg (by rw [hn]; decide)]
        rfl
      rw [hp] at hpo ⊢
      have HB := Lib.hid hB
      have Hpo := Lib.hid hpo
      generalize hxx : L.getD k 0 = x at *
      have Ha := Lib.hid ha
      have Hn := Lib.hid hn
      have Hxx := Lib.hid hxx
      clear ha hn hp hB hpo hxx
      by_cases hbig : x < n
      · have Hb : Hid (x < n) := hbig
        have hd : decide (x < n) = true := by simpa using hbig
        rw [if_pos hbig]
        go_enter Try.func20, Try.ntmps20
        go_wp2_with fail
        refine (wrong_one _ _ _ _).mono ?_
        rintro e w1 ⟨rfl, rfl⟩
        rw [Ha.out, Hn.out]
        go_wp2_with fail
        go_ret
        exact ⟨rfl, HB.out.kept (grownBy_alloc _ _ none) (by simp), grownBy_alloc _ _ _⟩
      · have hd : decide (x < n) = false := by simpa using hbig
        rw [if_neg hbig] at Hpo ⊢
        go_enter Try.func20, Try.ntmps20
        go_wp2_with fail
        refine (wrong_one _ _ _ _).mono ?_
        rintro e w1 ⟨rfl, rfl⟩
        rw [Ha.out, Hn.out]
        go_wp2_with fail
        refine region_named 11 (by kernel_rfl) (by kernel_rfl) ?_
        intro w3 hw3
        have hg3 : w.grownBy w3 (some B) := by rw [hw3]; exact (grownBy_alloc _ _ _).trans (grownBy_drew _ _)
        have hB3 : BankAt w3 B L := by rw [hw3]; exact HB.out.kept ((grownBy_alloc w _ none).trans (grownBy_drew _ _)) (by simp)
        have hcell := hB3.1.num k hkL
        have hfree := hB3.1.free k
        rw [Hxx.out] at hcell
        have HB3 := Lib.hid hB3
        have Hg3 := Lib.hid hg3
        clear hw3 hB3 hg3
        simp only [List.take_succ_cons, List.take_zero, List.drop_succ_cons, List.drop_zero]
        repeat still_step
        refine wpStill_nil ?_
        go_wp2_with fail
        go_ret
        exact ⟨rfl, ⟨HB3.out.1.setNum k _ hkL, Hpo.out⟩, Hg3.out.trans (grownBy_set _ _ _ _)⟩
    · rw [Bool.not_eq_true] at hn
      have hp : Bank.take L a n = (2, L) := by
        unfold Bank.take
        rw [if_neg (by rw [ha]; decide), if_pos hn]
      rw [hp]
      have HB := Lib.hid hB
      have Ha := Lib.hid ha
      have Hn := Lib.hid hn
      clear ha hn hp hB
      go_enter Try.func20, Try.ntmps20
      go_wp2_with fail
      refine (wrong_one _ _ _ _).mono ?_
      rintro e w1 ⟨rfl, rfl⟩
      rw [Ha.out, Hn.out]
      go_wp2_with fail
      go_ret
      exact ⟨rfl, HB.out.kept (grownBy_alloc _ _ none) (by simp), grownBy_alloc _ _ _⟩
  · rw [Bool.not_eq_true] at ha
    have hp : Bank.take L a n = (20, L) := by
      unfold Bank.take
      rw [if_pos ha]
    rw [hp]
    have HB := Lib.hid hB
    have Ha := Lib.hid ha
    clear ha hp hB
    go_enter Try.func20, Try.ntmps20
    go_wp2_with fail
    refine (wrong_one _ _ _ _).mono ?_
    rintro e w1 ⟨rfl, rfl⟩
    rw [Ha.out]
    go_wp2_with fail
    go_ret
    exact ⟨rfl, HB.out.kept (grownBy_alloc _ _ none) (by simp), grownBy_alloc _ _ _⟩
end Go.Proofs.Ytfkejndiobafeaa
