/- The reference of layer 14: New, Put, Take, Move. -/
import Derived.Test.YtfkejndiobafeaaBankAll
namespace Go.Proofs.Ytfkejndiobafeaa
open Go.RowKit
set_option linter.unusedVariables false
set_option linter.unusedSimpArgs false

/-- at block X lies the reference's bank, whose numbers lie at block G -/
def RefAt (w : World) (X G : Nat) (L : List Int) : Prop := Row w X 38 [.slice (some ⟨G, 0, none⟩) 64 64] ∧ Row w G 3 (Is L) ∧ Bank.Ok L
theorem RefAt.kept {w w' : World} {X G : Nat} {r : Option Nat} {L : List Int} (h : RefAt w X G L) (hg : w.grownBy w' r) (hX : some X ≠ r) (hG : some G ≠ r) : RefAt w' X G L := ⟨h.1.kept hg hX, h.2.1.kept hg hG, h.2.2⟩
theorem RefAt.apart {w : World} {X G : Nat} {L : List Int} (h : RefAt w X G L) : X ≠ G := by
  rintro rfl
  have h1 := h.1
  have h2 := h.2.1
  unfold Row at h1 h2
  rw [h1] at h2
  have := (Option.some.inj h2)
  simp at this

theorem refNew_any (w : World) : Calls Try.prog 9 #[] w fun e w' =>
    e = .returned (.pointer (some ⟨w.heap.size + 1, 0, none⟩)) ∧ RefAt w' (w.heap.size + 1) w.heap.size Bank.none_ ∧ w.grownBy w' none := by
  have hmk := make_zeros
  go_enter Try.func9, Try.ntmps9
  go_wp2_with fail
  go_ret
  have h1 : Row (w.alloc (.cells zeros 3)) w.heap.size 3 (Is Bank.none_) := Row.new w 3 (Is Bank.none_)
  have h2 := Row.new (w.alloc (.cells zeros 3)) 38 [.slice (some ⟨w.heap.size, 0, none⟩) 64 64]
  have e1 : (w.alloc (.cells zeros 3)).heap.size = w.heap.size + 1 := by simp
  rw [e1] at h2
  exact ⟨rfl, ⟨h2, h1.kept (grownBy_alloc _ _ none) (by simp), Bank.none_ok⟩, (grownBy_alloc _ _ _).trans (grownBy_alloc _ _ _)⟩

set_option maxHeartbeats 800000 in
theorem refPut_any (a n : Int) (w : World) (X G : Nat) (L : List Int) (hR : RefAt w X G L) :
    Calls Try.prog 11 #[.pointer (some ⟨X, 0, none⟩), .int .i64 a, .int .i64 n] w fun e w' =>
      e = .returned (.int .i64 (Bank.put L a n).1) ∧ RefAt w' X G (Bank.put L a n).2 ∧ w.grownBy w' (some G) := by
  have hXG := hR.apart
  by_cases ha : Bank.okW a = true
  · by_cases hn : Bank.okN n = true
    · have ha' := ha
      rw [Bank.okW_iff] at ha'
      have hn' := hn
      rw [Bank.okN_iff] at hn'
      obtain ⟨k, rfl⟩ : ∃ k : Nat, a = (k : Int) := ⟨a.toNat, by omega⟩
      have hk : k < 64 := by omega
      have hki : (k : Int) < 64 := by omega
      have hkL : k < L.length := by rw [hR.2.2.1]; exact hk
      have hcell0 := hR.1.cell 0 (by simp)
      have hcell := hR.2.1.num k hkL
      have hx0 := hR.2.2.2 k hk
      have hpo := Bank.put_ok (a := (k : Int)) (n := n) hR.2.2
      have hp : Bank.put L (k : Int) n = if 1099511627776 < L.getD k 0 + n then (3, L) else (0, L.set k (L.getD k 0 + n)) := by
        unfold Bank.put
        rw [if_neg (by rw [ha]; decide), if_neg (by rw [hn]; decide)]
        rfl
      rw [hp] at hpo ⊢
      have HR := Lib.hid hR
      generalize hxx : L.getD k 0 = x at *
      have Ha := Lib.hid ha
      have Hn := Lib.hid hn
      have Hxx := Lib.hid hxx
      have HXG := Lib.hid hXG
      clear ha hn hp hR hxx hXG
      by_cases hbig : 1099511627776 < x + n
      · have hd : decide (1099511627776 < x + n) = true := by simpa using hbig
        rw [if_pos hbig]
        clear hpo
        go_enter Try.func11, Try.ntmps11
        go_wp2_with fail
        refine (who_any _ _).mono ?_
        rintro e w1 ⟨rfl, rfl⟩
        rw [Ha.out]
        go_wp2_with fail
        refine (amount_any _ _).mono ?_
        rintro e w1 ⟨rfl, rfl⟩
        rw [Hn.out]
        go_wp2_with fail
        go_ret
        exact ⟨rfl, HR.out, grownBy_refl _ _⟩
      · have hd : decide (1099511627776 < x + n) = false := by simpa using hbig
        rw [if_neg hbig] at hpo ⊢
        have Hpo := Lib.hid hpo
        clear hpo
        go_enter Try.func11, Try.ntmps11
        go_wp2_with fail
        refine (who_any _ _).mono ?_
        rintro e w1 ⟨rfl, rfl⟩
        rw [Ha.out]
        go_wp2_with fail
        refine (amount_any _ _).mono ?_
        rintro e w1 ⟨rfl, rfl⟩
        rw [Hn.out]
        go_wp2_with fail
        refine region_named 15 (by kernel_rfl) (by kernel_rfl) ?_
        intro w3 hw3
        have hg3 : w.grownBy w3 (some G) := by rw [hw3]; exact grownBy_drew _ _
        have hR3 : RefAt w3 X G L := by rw [hw3]; exact HR.out.kept (grownBy_drew _ none) (by simp) (by simp)
        have hcell0 := hR3.1.cell 0 (by simp)
        have hcell := hR3.2.1.num k hkL
        have hfree := hR3.2.1.free k
        rw [Hxx.out] at hcell
        have HR3 := Lib.hid hR3
        have Hg3 := Lib.hid hg3
        clear hw3 hR3 hg3
        simp only [List.take_succ_cons, List.take_zero, List.drop_succ_cons, List.drop_zero]
        repeat still_step
        refine wpStill_nil ?_
        go_wp2_with fail
        go_ret
        exact ⟨rfl, ⟨HR3.out.1.kept (grownBy_set _ _ _ _) (by simpa using HXG.out), HR3.out.2.1.setNum k _ hkL, Hpo.out⟩, Hg3.out.trans (grownBy_set _ _ _ _)⟩
    · rw [Bool.not_eq_true] at hn
      have hp : Bank.put L a n = (2, L) := by
        unfold Bank.put
        rw [if_neg (by rw [ha]; decide), if_pos hn]
      rw [hp]
      have HR := Lib.hid hR
      have Ha := Lib.hid ha
      have Hn := Lib.hid hn
      clear ha hn hp hR hXG
      go_enter Try.func11, Try.ntmps11
      go_wp2_with fail
      refine (who_any _ _).mono ?_
      rintro e w1 ⟨rfl, rfl⟩
      rw [Ha.out]
      go_wp2_with fail
      refine (amount_any _ _).mono ?_
      rintro e w1 ⟨rfl, rfl⟩
      rw [Hn.out]
      go_wp2_with fail
      go_ret
      exact ⟨rfl, HR.out, grownBy_refl _ _⟩
  · rw [Bool.not_eq_true] at ha
    have hp : Bank.put L a n = (20, L) := by
      unfold Bank.put
      rw [if_pos ha]
    rw [hp]
    have HR := Lib.hid hR
    have Ha := Lib.hid ha
    clear ha hp hR hXG
    go_enter Try.func11, Try.ntmps11
    go_wp2_with fail
    refine (who_any _ _).mono ?_
    rintro e w1 ⟨rfl, rfl⟩
    rw [Ha.out]
    go_wp2_with fail
    go_ret
    exact ⟨rfl, HR.out, grownBy_refl _ _⟩

set_option maxHeartbeats 800000 in
theorem refTake_any (a n : Int) (w : World) (X G : Nat) (L : List Int) (hR : RefAt w X G L) :
    Calls Try.prog 12 #[.pointer (some ⟨X, 0, none⟩), .int .i64 a, .int .i64 n] w fun e w' =>
      e = .returned (.int .i64 (Bank.take L a n).1) ∧ RefAt w' X G (Bank.take L a n).2 ∧ w.grownBy w' (some G) := by
  have hXG := hR.apart
  by_cases ha : Bank.okW a = true
  · by_cases hn : Bank.okN n = true
    · have ha' := ha
      rw [Bank.okW_iff] at ha'
      have hn' := hn
      rw [Bank.okN_iff] at hn'
      obtain ⟨k, rfl⟩ : ∃ k : Nat, a = (k : Int) := ⟨a.toNat, by omega⟩
      have hk : k < 64 := by omega
      have hki : (k : Int) < 64 := by omega
      have hkL : k < L.length := by rw [hR.2.2.1]; exact hk
      have hcell0 := hR.1.cell 0 (by simp)
      have hcell := hR.2.1.num k hkL
      have hx0 := hR.2.2.2 k hk
      have hpo := Bank.take_ok (a := (k : Int)) (n := n) hR.2.2
      have hp : Bank.take L (k : Int) n = if L.getD k 0 < n then (28, L) else (0, L.set k (L.getD k 0 - n)) := by
        unfold Bank.take
        rw [if_neg (by rw [ha]; decide), if_neg (by rw [hn]; decide)]
        rfl
      rw [hp] at hpo ⊢
      have HR := Lib.hid hR
      generalize hxx : L.getD k 0 = x at *
      have Ha := Lib.hid ha
      have Hn := Lib.hid hn
      have Hxx := Lib.hid hxx
      have HXG := Lib.hid hXG
      clear ha hn hp hR hxx hXG
      by_cases hbig : x < n
      · have hd : decide (x < n) = true := by simpa using hbig
        rw [if_pos hbig]
        clear hpo
        go_enter Try.func12, Try.ntmps12
        go_wp2_with fail
        refine (who_any _ _).mono ?_
        rintro e w1 ⟨rfl, rfl⟩
        rw [Ha.out]
        go_wp2_with fail
        refine (amount_any _ _).mono ?_
        rintro e w1 ⟨rfl, rfl⟩
        rw [Hn.out]
        go_wp2_with fail
        go_ret
        exact ⟨rfl, HR.out, grownBy_refl _ _⟩
      · have hd : decide (x < n) = false := by simpa using hbig
        rw [if_neg hbig] at hpo ⊢
        have Hpo := Lib.hid hpo
        clear hpo
        go_enter Try.func12, Try.ntmps12
        go_wp2_with fail
        refine (who_any _ _).mono ?_
        rintro e w1 ⟨rfl, rfl⟩
        rw [Ha.out]
        go_wp2_with fail
        refine (amount_any _ _).mono ?_
        rintro e w1 ⟨rfl, rfl⟩
        rw [Hn.out]
        go_wp2_with fail
        refine region_named 15 (by kernel_rfl) (by kernel_rfl) ?_
        intro w3 hw3
        have hg3 : w.grownBy w3 (some G) := by rw [hw3]; exact grownBy_drew _ _
        have hR3 : RefAt w3 X G L := by rw [hw3]; exact HR.out.kept (grownBy_drew _ none) (by simp) (by simp)
        have hcell0 := hR3.1.cell 0 (by simp)
        have hcell := hR3.2.1.num k hkL
        have hfree := hR3.2.1.free k
        rw [Hxx.out] at hcell
        have HR3 := Lib.hid hR3
        have Hg3 := Lib.hid hg3
        clear hw3 hR3 hg3
        simp only [List.take_succ_cons, List.take_zero, List.drop_succ_cons, List.drop_zero]
        repeat still_step
        refine wpStill_nil ?_
        go_wp2_with fail
        go_ret
        exact ⟨rfl, ⟨HR3.out.1.kept (grownBy_set _ _ _ _) (by simpa using HXG.out), HR3.out.2.1.setNum k _ hkL, Hpo.out⟩, Hg3.out.trans (grownBy_set _ _ _ _)⟩
    · rw [Bool.not_eq_true] at hn
      have hp : Bank.take L a n = (2, L) := by
        unfold Bank.take
        rw [if_neg (by rw [ha]; decide), if_pos hn]
      rw [hp]
      have HR := Lib.hid hR
      have Ha := Lib.hid ha
      have Hn := Lib.hid hn
      clear ha hn hp hR hXG
      go_enter Try.func12, Try.ntmps12
      go_wp2_with fail
      refine (who_any _ _).mono ?_
      rintro e w1 ⟨rfl, rfl⟩
      rw [Ha.out]
      go_wp2_with fail
      refine (amount_any _ _).mono ?_
      rintro e w1 ⟨rfl, rfl⟩
      rw [Hn.out]
      go_wp2_with fail
      go_ret
      exact ⟨rfl, HR.out, grownBy_refl _ _⟩
  · rw [Bool.not_eq_true] at ha
    have hp : Bank.take L a n = (20, L) := by
      unfold Bank.take
      rw [if_pos ha]
    rw [hp]
    have HR := Lib.hid hR
    have Ha := Lib.hid ha
    clear ha hp hR hXG
    go_enter Try.func12, Try.ntmps12
    go_wp2_with fail
    refine (who_any _ _).mono ?_
    rintro e w1 ⟨rfl, rfl⟩
    rw [Ha.out]
    go_wp2_with fail
    go_ret
    exact ⟨rfl, HR.out, grownBy_refl _ _⟩

set_option maxHeartbeats 800000 in
theorem refMove_any (a b n : Int) (w : World) (X G : Nat) (L : List Int) (hR : RefAt w X G L) :
    Calls Try.prog 13 #[.pointer (some ⟨X, 0, none⟩), .int .i64 a, .int .i64 b, .int .i64 n] w fun e w' =>
      e = .returned (.int .i64 (Bank.move L a b n).1) ∧ RefAt w' X G (Bank.move L a b n).2 ∧ w.grownBy w' (some G) := by
  have hXG := hR.apart
  have HXG := Lib.hid hXG
  clear hXG
  by_cases ha : Bank.okW a = true
  · by_cases hb : Bank.okW b = true
    · have hab : ¬ (Bank.okW a = false ∨ Bank.okW b = false) := by rw [ha, hb]; decide
      by_cases hn : Bank.okN n = true
      · have ha' := ha
        have hb' := hb
        have hn' := hn
        rw [Bank.okW_iff] at ha' hb'
        rw [Bank.okN_iff] at hn'
        obtain ⟨k, rfl⟩ : ∃ k : Nat, a = (k : Int) := ⟨a.toNat, by omega⟩
        obtain ⟨j, rfl⟩ : ∃ j : Nat, b = (j : Int) := ⟨b.toNat, by omega⟩
        have hk : k < 64 := by omega
        have hj : j < 64 := by omega
        have hki : (k : Int) < 64 := by omega
        have hji : (j : Int) < 64 := by omega
        have hkL : k < L.length := by rw [hR.2.2.1]; exact hk
        have hjL : j < L.length := by rw [hR.2.2.1]; exact hj
        have hcell0 := hR.1.cell 0 (by simp)
        have hcell := hR.2.1.num k hkL
        have hcell2 := hR.2.1.num j hjL
        have hx0 := hR.2.2.2 k hk
        have hy0 := hR.2.2.2 j hj
        have hpo := Bank.move_ok (a := (k : Int)) (b := (j : Int)) (n := n) hR.2.2
        have hp : Bank.move L (k : Int) (j : Int) n = if L.getD k 0 < n then (28, L) else if (k : Int) = (j : Int) then (0, L) else
            if 1099511627776 < L.getD j 0 + n then (3, L) else (0, (L.set k (L.getD k 0 - n)).set j (L.getD j 0 + n)) := by
          unfold Bank.move
          rw [if_neg hab, if_neg (by rw [hn]; decide)]
          rfl
        rw [hp] at hpo ⊢
        have HR := Lib.hid hR
        generalize hxx : L.getD k 0 = x at *
        generalize hyy : L.getD j 0 = y at *
        have Ha := Lib.hid ha
        have Hb := Lib.hid hb
        have Hn := Lib.hid hn
        have Hxx := Lib.hid hxx
        have Hyy := Lib.hid hyy
        clear ha hb hn hp hR hxx hyy hab
        by_cases hless : x < n
        · have hd : decide (x < n) = true := by simpa using hless
          rw [if_pos hless]
          clear hpo
          go_enter Try.func13, Try.ntmps13
          go_wp2_with fail
          refine (who_any _ _).mono ?_
          rintro e w1 ⟨rfl, rfl⟩
          rw [Ha.out]
          go_wp2_with fail
          refine (who_any _ _).mono ?_
          rintro e w1 ⟨rfl, rfl⟩
          rw [Hb.out]
          go_wp2_with fail
          refine (amount_any _ _).mono ?_
          rintro e w1 ⟨rfl, rfl⟩
          rw [Hn.out]
          go_wp2_with fail
          go_ret
          exact ⟨rfl, HR.out, grownBy_refl _ _⟩
        · have hd : decide (x < n) = false := by simpa using hless
          rw [if_neg hless] at hpo ⊢
          by_cases hkj : (k : Int) = (j : Int)
          · have hdk : ((k : Int) == (j : Int)) = true := by simpa using hkj
            rw [if_pos hkj]
            have Hkj := Lib.hid hkj
            clear hpo hkj
            go_enter Try.func13, Try.ntmps13
            go_wp2_with fail
            refine (who_any _ _).mono ?_
            rintro e w1 ⟨rfl, rfl⟩
            rw [Ha.out]
            go_wp2_with fail
            refine (who_any _ _).mono ?_
            rintro e w1 ⟨rfl, rfl⟩
            rw [Hb.out]
            go_wp2_with fail
            refine (amount_any _ _).mono ?_
            rintro e w1 ⟨rfl, rfl⟩
            rw [Hn.out]
            go_wp2_with fail
            go_ret
            exact ⟨rfl, HR.out, grownBy_refl _ _⟩
          · have hdk : ((k : Int) == (j : Int)) = false := by simpa using hkj
            rw [if_neg hkj] at hpo ⊢
            have hkj2 : k ≠ j := by omega
            have Hkj := Lib.hid hkj2
            clear hkj hkj2
            by_cases hbig : 1099511627776 < y + n
            · have hd2 : decide (1099511627776 < y + n) = true := by simpa using hbig
              rw [if_pos hbig]
              clear hpo
              go_enter Try.func13, Try.ntmps13
              go_wp2_with fail
              refine (who_any _ _).mono ?_
              rintro e w1 ⟨rfl, rfl⟩
              rw [Ha.out]
              go_wp2_with fail
              refine (who_any _ _).mono ?_
              rintro e w1 ⟨rfl, rfl⟩
              rw [Hb.out]
              go_wp2_with fail
              refine (amount_any _ _).mono ?_
              rintro e w1 ⟨rfl, rfl⟩
              rw [Hn.out]
              go_wp2_with fail
              go_ret
              exact ⟨rfl, HR.out, grownBy_refl _ _⟩
            · have hd2 : decide (1099511627776 < y + n) = false := by simpa using hbig
              rw [if_neg hbig] at hpo ⊢
              have Hpo := Lib.hid hpo
              clear hpo
              go_enter Try.func13, Try.ntmps13
              go_wp2_with fail
              refine (who_any _ _).mono ?_
              rintro e w1 ⟨rfl, rfl⟩
              rw [Ha.out]
              go_wp2_with fail
              refine (who_any _ _).mono ?_
              rintro e w1 ⟨rfl, rfl⟩
              rw [Hb.out]
              go_wp2_with fail
              refine (amount_any _ _).mono ?_
              rintro e w1 ⟨rfl, rfl⟩
              rw [Hn.out]
              go_wp2_with fail
              refine region_named 15 (by kernel_rfl) (by kernel_rfl) ?_
              intro w3 hw3
              have hg3 : w.grownBy w3 (some G) := by rw [hw3]; exact grownBy_drew _ _
              have hR3 : RefAt w3 X G L := by rw [hw3]; exact HR.out.kept (grownBy_drew _ none) (by simp) (by simp)
              have hcell0 := hR3.1.cell 0 (by simp)
              have hcell := hR3.2.1.num k hkL
              have hfree := hR3.2.1.free k
              rw [Hxx.out] at hcell
              have HR3 := Lib.hid hR3
              have Hg3 := Lib.hid hg3
              clear hw3 hR3 hg3 hcell2
              simp only [List.take_succ_cons, List.take_zero, List.drop_succ_cons, List.drop_zero]
              repeat still_step
              refine wpStill_nil ?_
              go_wp2_with fail
              refine region_named 15 (by kernel_rfl) (by kernel_rfl) ?_
              intro w4 hw4
              have hg4 : w.grownBy w4 (some G) := by rw [hw4]; exact (Hg3.out.trans (grownBy_set _ _ _ _)).trans (grownBy_drew _ _)
              have hX4 : Row w4 X 38 [.slice (some ⟨G, 0, none⟩) 64 64] := by rw [hw4]; exact (HR3.out.1.kept (grownBy_set _ _ _ _) (by simpa using HXG.out)).kept (grownBy_drew _ none) (by simp)
              have hG4 : Row w4 G 3 (Is (L.set k (x - n))) := by rw [hw4]; exact (HR3.out.2.1.setNum k _ hkL).kept (grownBy_drew _ none) (by simp)
              have hcell4 := hX4.cell 0 (by simp)
              have hcell5 := hG4.num j (by rw [List.length_set]; exact hjL)
              rw [Bank.getD_set_ne Hkj.out, Hyy.out] at hcell5
              have hfree5 := hG4.free j
              have HX4 := Lib.hid hX4
              have HG4 := Lib.hid hG4
              have Hg4 := Lib.hid hg4
              clear hw4 hX4 hG4 hg4 hcell0 hcell hfree
              simp only [List.take_succ_cons, List.take_zero, List.drop_succ_cons, List.drop_zero]
              repeat still_step
              refine wpStill_nil ?_
              go_wp2_with fail
              go_ret
              exact ⟨rfl, ⟨HX4.out.kept (grownBy_set _ _ _ _) (by simpa using HXG.out), HG4.out.setNum j _ (by rw [List.length_set]; exact hjL), Hpo.out⟩, Hg4.out.trans (grownBy_set _ _ _ _)⟩
      · rw [Bool.not_eq_true] at hn
        have hp : Bank.move L a b n = (2, L) := by
          unfold Bank.move
          rw [if_neg hab, if_pos hn]
        rw [hp]
        have HR := Lib.hid hR
        have Ha := Lib.hid ha
        have Hb := Lib.hid hb
        have Hn := Lib.hid hn
        clear ha hb hn hp hR hab
        go_enter Try.func13, Try.ntmps13
        go_wp2_with fail
        refine (who_any _ _).mono ?_
        rintro e w1 ⟨rfl, rfl⟩
        rw [Ha.out]
        go_wp2_with fail
        refine (who_any _ _).mono ?_
        rintro e w1 ⟨rfl, rfl⟩
        rw [Hb.out]
        go_wp2_with fail
        refine (amount_any _ _).mono ?_
        rintro e w1 ⟨rfl, rfl⟩
        rw [Hn.out]
        go_wp2_with fail
        go_ret
        exact ⟨rfl, HR.out, grownBy_refl _ _⟩
    · rw [Bool.not_eq_true] at hb
      have hp : Bank.move L a b n = (20, L) := by
        unfold Bank.move
        rw [if_pos (.inr hb)]
      rw [hp]
      have HR := Lib.hid hR
      have Ha := Lib.hid ha
      have Hb := Lib.hid hb
      clear ha hb hp hR
      go_enter Try.func13, Try.ntmps13
      go_wp2_with fail
      refine (who_any _ _).mono ?_
      rintro e w1 ⟨rfl, rfl⟩
      rw [Ha.out]
      go_wp2_with fail
      refine (who_any _ _).mono ?_
      rintro e w1 ⟨rfl, rfl⟩
      rw [Hb.out]
      go_wp2_with fail
      go_ret
      exact ⟨rfl, HR.out, grownBy_refl _ _⟩
  · rw [Bool.not_eq_true] at ha
    have hp : Bank.move L a b n = (20, L) := by
      unfold Bank.move
      rw [if_pos (.inl ha)]
    rw [hp]
    have HR := Lib.hid hR
    have Ha := Lib.hid ha
    clear ha hp hR
    go_enter Try.func13, Try.ntmps13
    go_wp2_with fail
    refine (who_any _ _).mono ?_
    rintro e w1 ⟨rfl, rfl⟩
    rw [Ha.out]
    go_wp2_with fail
    go_ret
    exact ⟨rfl, HR.out, grownBy_refl _ _⟩
end Go.Proofs.Ytfkejndiobafeaa
