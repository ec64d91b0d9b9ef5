/- Layer 14's laws: awake, do. -/
import Derived.Test.YtfkejndiobafeaaBankRef
import Derived.Test.YtfkejndiobafeaaNumbers
namespace Go.Proofs.Ytfkejndiobafeaa
open Go.RowKit
set_option linter.unusedVariables false
set_option linter.unusedSimpArgs false

theorem below_of_grown {base : Nat} {a w w' : World} {B : Nat} (h : Below base a w) (hg : w.grownBy w' (some B)) (hB : base ≤ B) (hw : base ≤ w.heap.size) : Below base a w' :=
  h.grown hg hw (fun k hk => by cases hk; exact hB)
theorem below_of_grown0 {base : Nat} {a w w' : World} (h : Below base a w) (hg : w.grownBy w' none) (hw : base ≤ w.heap.size) : Below base a w' :=
  h.grown hg hw (fun k hk => by cases hk)

set_option maxHeartbeats 400000 in
theorem awake14_any (w : World) :
    Calls Try.prog 10 #[] w fun e w' => e = .returned (.bool true) ∧ Below w.heap.size w w' := by
  have p1 : Bank.put Bank.none_ 1 5 = (0, (Bank.none_).set 1 5) := by decide +kernel
  have p2 : Bank.move ((Bank.none_).set 1 5) 1 2 3 = (0, ((Bank.none_).set 1 2).set 2 3) := by decide +kernel
  have p3 : ofV (((Bank.none_).set 1 2).set 2 3) 2 = 3 := by decide +kernel
  have p4 : Bank.take (((Bank.none_).set 1 2).set 2 3) 1 3 = (28, ((Bank.none_).set 1 2).set 2 3) := by decide +kernel
  have p5 : Bank.sum (((Bank.none_).set 1 2).set 2 3) = 5 := by decide +kernel
  generalize hL1 : (Bank.none_).set 1 5 = L1 at *
  generalize hL2 : ((Bank.none_).set 1 2).set 2 3 = L2 at *
  have P1 := Lib.hid p1
  have P2 := Lib.hid p2
  have P3 := Lib.hid p3
  have P4 := Lib.hid p4
  have P5 := Lib.hid p5
  clear p1 p2 p3 p4 p5 hL1 hL2
  go_enter Try.func10, Try.ntmps10
  go_wp2_with fail
  refine (bankNew_any _).mono ?_
  rintro e w1 ⟨rfl, hB1, hg1⟩
  have hb1 := below_of_grown0 (Below.refl w.heap.size w) hg1 (Nat.le_refl _)
  have HB1 := Lib.hid hB1
  have Hb1 := Lib.hid hb1
  clear hB1 hg1 hb1
  go_wp2_with fail
  refine (bankPut_any 1 5 _ _ _ HB1.out).mono ?_
  rintro e w2 ⟨rfl, hB2, hg2⟩
  have hb2 := below_of_grown Hb1.out hg2 (Nat.le_refl _) Hb1.out.size
  rw [P1.out] at hB2 ⊢
  have HB2 := Lib.hid hB2
  have Hb2 := Lib.hid hb2
  clear hB2 hg2 hb2
  go_wp2_with fail
  refine (bankMove_any 1 2 3 _ _ _ HB2.out).mono ?_
  rintro e w3 ⟨rfl, hB3, hg3⟩
  have hb3 := below_of_grown Hb2.out hg3 (Nat.le_refl _) Hb2.out.size
  rw [P2.out] at hB3 ⊢
  have HB3 := Lib.hid hB3
  have Hb3 := Lib.hid hb3
  clear hB3 hg3 hb3
  go_wp2_with fail
  refine (bankOf_any 2 _ _ _ HB3.out).mono ?_
  rintro e w4 ⟨rfl, rfl⟩
  rw [P3.out]
  go_wp2_with fail
  refine (bankTake_any 1 3 _ _ _ HB3.out).mono ?_
  rintro e w5 ⟨rfl, hB5, hg5⟩
  have hb5 := below_of_grown Hb3.out hg5 (Nat.le_refl _) Hb3.out.size
  rw [P4.out] at hB5 ⊢
  have HB5 := Lib.hid hB5
  have Hb5 := Lib.hid hb5
  clear hB5 hg5 hb5
  go_wp2_with fail
  refine (bankTotal_any _ _ _ HB5.out).mono ?_
  rintro e w6 ⟨rfl, rfl⟩
  rw [P5.out]
  go_wp2_with fail
  go_ret
  exact ⟨rfl, Hb5.out⟩

/-- what a call does -/
structure BAct where
  kind : Int
  a : Int
  b : Int
  n : Int
def BAct.v (x : BAct) : Value := .agg #[.int .i64 x.kind, .int .i64 x.a, .int .i64 x.b, .int .i64 x.n]
def Bank.act (L : List Int) (x : BAct) : Int × List Int :=
  if x.kind = 0 ∨ x.kind = 1 then Bank.put L x.a x.n else if x.kind = 2 then Bank.take L x.a x.n else Bank.move L x.a x.b x.n

theorem do_any (x : BAct) (w : World) (B : Nat) (L : List Int) (hB : BankAt w B L) :
    Calls Try.prog 14 #[.pointer (some ⟨B, 0, none⟩), x.v] w fun e w' =>
      e = .returned (.int .i64 (Bank.act L x).1) ∧ BankAt w' B (Bank.act L x).2 ∧ w.grownBy w' (some B) := by
  obtain ⟨k, a, b, n⟩ := x
  have hlt := hB.1.lt
  have hB2 := hB.kept (grownBy_alloc w (.cells #[.int .i64 k, .int .i64 a, .int .i64 b, .int .i64 n] 30) none) (by simp)
  have HB2 := Lib.hid hB2
  unfold BAct.v Bank.act
  clear hB hB2
  by_cases h0 : k = 0
  · subst h0
    rw [if_pos (.inl rfl)]
    go_enter Try.func14, Try.ntmps14
    go_wp2_with fail
    refine (bankPut_any _ _ _ _ _ HB2.out).mono ?_
    rintro e w2 ⟨rfl, hB3, hg3⟩
    have HB3 := Lib.hid hB3
    have Hg3 := Lib.hid hg3
    clear hB3 hg3
    go_wp2_with fail
    go_ret
    exact ⟨rfl, HB3.out, (grownBy_alloc _ _ _).trans Hg3.out⟩
  · have hd0 : (k == 0) = false := by simpa using h0
    by_cases h1 : k = 1
    · subst h1
      rw [if_pos (.inr rfl)]
      go_enter Try.func14, Try.ntmps14
      go_wp2_with fail
      refine (bankPut_any _ _ _ _ _ HB2.out).mono ?_
      rintro e w2 ⟨rfl, hB3, hg3⟩
      have HB3 := Lib.hid hB3
      have Hg3 := Lib.hid hg3
      clear hB3 hg3
      go_wp2_with fail
      go_ret
      exact ⟨rfl, HB3.out, (grownBy_alloc _ _ _).trans Hg3.out⟩
    · have hd1 : (k == 1) = false := by simpa using h1
      rw [if_neg (by rintro (h | h) <;> contradiction)]
      by_cases h2 : k = 2
      · subst h2
        rw [if_pos rfl]
        clear h0 h1
        go_enter Try.func14, Try.ntmps14
        go_wp2_with fail
        refine (bankTake_any _ _ _ _ _ HB2.out).mono ?_
        rintro e w2 ⟨rfl, hB3, hg3⟩
        have HB3 := Lib.hid hB3
        have Hg3 := Lib.hid hg3
        clear hB3 hg3
        go_wp2_with fail
        go_ret
        exact ⟨rfl, HB3.out, (grownBy_alloc _ _ _).trans Hg3.out⟩
      · have hd2 : (k == 2) = false := by simpa using h2
        rw [if_neg h2]
        clear h0 h1 h2
        go_enter Try.func14, Try.ntmps14
        go_wp2_with fail
        refine (bankMove_any _ _ _ _ _ _ HB2.out).mono ?_
        rintro e w2 ⟨rfl, hB3, hg3⟩
        have HB3 := Lib.hid hB3
        have Hg3 := Lib.hid hg3
        clear hB3 hg3
        go_wp2_with fail
        go_ret
        exact ⟨rfl, HB3.out, (grownBy_alloc _ _ _).trans Hg3.out⟩
end Go.Proofs.Ytfkejndiobafeaa
