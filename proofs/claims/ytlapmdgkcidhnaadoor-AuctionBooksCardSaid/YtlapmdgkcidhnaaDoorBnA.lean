/- What later texts need of the earlier layers. -/
import Derived.Test.YtlapmdgkcidhnaaDoorSlD
/- ---- BankMath ---- -/
/- A bank, as plain functions of lists of numbers. -/
namespace Go.Proofs.YtlapmdgkcidhnaaDoor.Bn
set_option maxRecDepth 100000
set_option linter.unusedVariables false
set_option linter.unusedSimpArgs false
namespace Bank
/-- somebody -/
def okW (a : Int) : Bool := decide (0 ≤ a) && decide (a < 64)
/-- an amount -/
def okN (n : Int) : Bool := decide (0 ≤ n) && decide (n ≤ 1099511627776)
def at_ (L : List Int) (a : Int) : Int := L.getD a.toNat 0
def put (L : List Int) (a n : Int) : Int × List Int :=
  if okW a = false then (20, L) else if okN n = false then (2, L) else
  if 1099511627776 < at_ L a + n then (3, L) else (0, L.set a.toNat (at_ L a + n))
def take (L : List Int) (a n : Int) : Int × List Int :=
  if okW a = false then (20, L) else if okN n = false then (2, L) else
  if at_ L a < n then (28, L) else (0, L.set a.toNat (at_ L a - n))
/-- what a bank holds -/
def Ok (L : List Int) : Prop := L.length = 64 ∧ ∀ k, k < 64 → 0 ≤ L.getD k 0 ∧ L.getD k 0 ≤ 1099511627776
def none_ : List Int := List.replicate 64 0
theorem getD_zeros (n k : Nat) : (List.replicate n (0 : Int)).getD k 0 = 0 := by
  rw [List.getD_eq_getElem?_getD, List.getElem?_replicate]; split <;> rfl
theorem none_ok : Ok none_ := ⟨by unfold none_; rw [List.length_replicate], fun k hk => by unfold none_; rw [getD_zeros]; omega⟩
theorem okW_iff {a : Int} : okW a = true ↔ 0 ≤ a ∧ a < 64 := by simp [okW]
theorem okN_iff {n : Int} : okN n = true ↔ 0 ≤ n ∧ n ≤ 1099511627776 := by simp [okN]
theorem getD_set_same {L : List Int} {k : Nat} {x : Int} (h : k < L.length) : (L.set k x).getD k 0 = x := by
  simp [List.getD, h]
theorem getD_set_ne {L : List Int} {k j : Nat} {x : Int} (h : k ≠ j) : (L.set k x).getD j 0 = L.getD j 0 := by
  simp [List.getD, List.getElem?_set_ne h]
theorem set_ok {L : List Int} {k : Nat} {x : Int} (h : Ok L) (h0 : 0 ≤ x) (h1 : x ≤ 1099511627776) : Ok (L.set k x) := by
  refine ⟨by simp [h.1], fun j hj => ?_⟩
  by_cases e : k = j
  · subst e
    rw [getD_set_same (by rw [h.1]; exact hj)]
    exact ⟨h0, h1⟩
  · rw [getD_set_ne e]
    exact h.2 j hj
theorem at_ok {L : List Int} {a : Int} (h : Ok L) (ha : okW a = true) : 0 ≤ at_ L a ∧ at_ L a ≤ 1099511627776 := by
  obtain ⟨h0, h1⟩ := okW_iff.1 ha
  exact h.2 a.toNat (by omega)
theorem put_ok {L : List Int} {a n : Int} (h : Ok L) : Ok (put L a n).2 := by
  unfold put
  split
  · exact h
  · next ha =>
    rw [Bool.not_eq_false] at ha
    have hl := at_ok h ha
    split
    · exact h
    · next hn =>
      rw [Bool.not_eq_false, okN_iff] at hn
      split
      · exact h
      · exact set_ok h (by omega) (by omega)
theorem take_ok {L : List Int} {a n : Int} (h : Ok L) : Ok (take L a n).2 := by
  unfold take
  split
  · exact h
  · next ha =>
    rw [Bool.not_eq_false] at ha
    have hl := at_ok h ha
    split
    · exact h
    · next hn =>
      rw [Bool.not_eq_false, okN_iff] at hn
      split
      · exact h
      · exact set_ok h (by omega) (by omega)
end Bank
end Go.Proofs.YtlapmdgkcidhnaaDoor.Bn

/- ---- BankSome ---- -/
/- bank: who is somebody, and what is wrong with a call. -/
namespace Go.Proofs.YtlapmdgkcidhnaaDoor.Bn
set_option maxRecDepth 100000
open Go.RowKit
set_option linter.unusedVariables false
set_option linter.unusedSimpArgs false

theorem somebody_any (a : Int) (w : World) :
    Calls Tryd.prog 84 #[.int .i64 a] w fun e w' => e = .returned (.bool (Bank.okW a)) ∧ w = w' := by
  unfold Bank.okW
  by_cases h : 0 ≤ a
  · have hd : decide (0 ≤ a) = true := by simpa using h
    go_enter Tryd.func84, Tryd.ntmps84
    have Hd := Lib.hid hd
    go_wp2
    go_ret
    rw [Hd.out]
    exact ⟨rfl, rfl⟩
  · have hd : decide (0 ≤ a) = false := by simpa using h
    go_enter Tryd.func84, Tryd.ntmps84
    go_wp2
    go_ret
    exact ⟨rfl, rfl⟩
theorem who_any (a : Int) (w : World) :
    Calls Tryd.prog 57 #[.int .i64 a] w fun e w' => e = .returned (.bool (Bank.okW a)) ∧ w = w' := by
  unfold Bank.okW
  by_cases h : 0 ≤ a
  · have hd : decide (0 ≤ a) = true := by simpa using h
    go_enter Tryd.func57, Tryd.ntmps57
    have Hd := Lib.hid hd
    go_wp2
    go_ret
    rw [Hd.out]
    exact ⟨rfl, rfl⟩
  · have hd : decide (0 ≤ a) = false := by simpa using h
    go_enter Tryd.func57, Tryd.ntmps57
    go_wp2
    go_ret
    exact ⟨rfl, rfl⟩
theorem amount_any (a : Int) (w : World) :
    Calls Tryd.prog 58 #[.int .i64 a] w fun e w' => e = .returned (.bool (Bank.okN a)) ∧ w = w' := by
  unfold Bank.okN
  by_cases h : 0 ≤ a
  · have hd : decide (0 ≤ a) = true := by simpa using h
    go_enter Tryd.func58, Tryd.ntmps58
    have Hd := Lib.hid hd
    go_wp2
    go_ret
    rw [Hd.out]
    exact ⟨rfl, rfl⟩
  · have hd : decide (0 ≤ a) = false := by simpa using h
    go_enter Tryd.func58, Tryd.ntmps58
    go_wp2
    go_ret
    exact ⟨rfl, rfl⟩
def wrongE (n : Int) (L : List Int) : Int := if L.all Bank.okW = false then 20 else if Bank.okN n = false then 2 else 0
theorem wrong_any (a : Addr) (n : Int) (B c : Nat) (L : List Int) (w : World) (hL : L.length < 1000)
    (hc : ∀ k, k < L.length → w.cell? ⟨B, k, none⟩ = some (.int .i64 (L.getD k 0))) :
    Calls Tryd.prog 56 #[.pointer (some a), .int .i64 n, .slice (some ⟨B, 0, none⟩) L.length c] w fun e w' => e = .returned (.int .i64 (wrongE n L)) ∧ w = w' := by
  have Hc := Lib.hid hc
  clear hc
  go_enter Tryd.func56, Tryd.ntmps56
  go_wp2_with fail
  go_loop [13] (fun i => ∃ k : Nat, k ≤ L.length ∧ i = .int .i64 k ∧ (L.take k).all Bank.okW = true) (fun i => L.length - (intOf i).toNat)
  case atStart => exact ⟨0, Nat.zero_le _, rfl, by simp⟩
  case round =>
    obtain ⟨k, hk, rfl, hall⟩ := hrel
    have Hall := Lib.hid hall
    clear hall
    by_cases hlt : k < L.length
    · have hlt' : (k : Int) < L.length := by omega
      have hcell := Hc.out k hlt
      have hx2 : L.getD k 0 = L[k] := by simp [List.getD, hlt]
      rw [hx2] at hcell
      obtain ⟨x, hx⟩ : ∃ x, x = L[k] := ⟨_, rfl⟩
      rw [← hx] at hcell
      have Hx := Lib.hid hx
      clear hx hx2
      by_cases hw : Bank.okW x = true
      · have Hw := Lib.hid hw
        clear hw
        go_wp2_with fail
        refine (somebody_any _ _).mono ?_
        rintro e w1 ⟨rfl, rfl⟩
        rw [Hw.out]
        go_wp2_with fail
        refine ⟨⟨k + 1, hlt, by go_num, ?_⟩, by simp [intOf]; omega⟩
        rw [List.take_succ_eq_append_getElem hlt, List.all_append, Hall.out]
        have := Hw.out
        rw [Hx.out] at this
        simp [this]
      · rw [Bool.not_eq_true] at hw
        have he : wrongE n L = 20 := by
          unfold wrongE
          rw [if_pos]
          rw [List.all_eq_false]
          exact ⟨L[k], List.getElem_mem hlt, by rw [← Hx.out]; simpa using hw⟩
        have Hw := Lib.hid hw
        have He := Lib.hid he
        clear hw he
        go_wp2_with fail
        refine (somebody_any _ _).mono ?_
        rintro e w1 ⟨rfl, rfl⟩
        rw [Hw.out]
        go_wp2_with fail
        go_ret
        rw [He.out]
        exact ⟨rfl, rfl⟩
    · obtain rfl : k = L.length := by omega
      have ha : L.all Bank.okW = true := by simpa using Hall.out
      have he : wrongE n L = if Bank.okN n = false then 2 else 0 := by unfold wrongE; rw [ha]; rfl
      have He := Lib.hid he
      clear he ha
      by_cases h0 : 0 ≤ n
      · by_cases h1 : n ≤ 1099511627776
        · have hd : decide (n < 0) = false := by simp only [decide_eq_false_iff_not]; omega
          have hd' : decide (1099511627776 < n) = false := by simp only [decide_eq_false_iff_not]; omega
          have he2 : wrongE n L = 0 := by rw [He.out, if_neg]; simp only [Bool.not_eq_false, Bank.okN_iff]; omega
          have He2 := Lib.hid he2
          clear he2
          go_wp2_with fail
          go_ret
          rw [He2.out]
          exact ⟨rfl, rfl⟩
        · have hd : decide (n < 0) = false := by simp only [decide_eq_false_iff_not]; omega
          have hd' : decide (1099511627776 < n) = true := by simp only [decide_eq_true_eq]; omega
          have he2 : wrongE n L = 2 := by rw [He.out, if_pos]; rw [← Bool.not_eq_true, Bank.okN_iff]; omega
          have He2 := Lib.hid he2
          clear he2
          go_wp2_with fail
          go_ret
          rw [He2.out]
          exact ⟨rfl, rfl⟩
      · have hd : decide (n < 0) = true := by simp only [decide_eq_true_eq]; omega
        have he2 : wrongE n L = 2 := by rw [He.out, if_pos]; rw [← Bool.not_eq_true, Bank.okN_iff]; omega
        have He2 := Lib.hid he2
        clear he2
        go_wp2_with fail
        go_ret
        rw [He2.out]
        exact ⟨rfl, rfl⟩
end Go.Proofs.YtlapmdgkcidhnaaDoor.Bn

/- ---- BankOps ---- -/
/- bank: New, Put, Take, Move, Of. -/
namespace Go.Proofs.YtlapmdgkcidhnaaDoor.Bn
set_option maxRecDepth 100000
open Go.RowKit
set_option linter.unusedVariables false
set_option linter.unusedSimpArgs false

/-- at block B lies a bank that holds L -/
def BankAt (w : World) (B : Nat) (L : List Int) : Prop := Row w B 109 (Is L) ∧ Bank.Ok L
theorem BankAt.kept {w w' : World} {B : Nat} {r : Option Nat} {L : List Int} (h : BankAt w B L) (hg : w.grownBy w' r) (hne : some B ≠ r) : BankAt w' B L := ⟨h.1.kept hg hne, h.2⟩
theorem bankNew_any (w : World) : Calls Tryd.prog 19 #[] w fun e w' => e = .returned (.pointer (some ⟨w.heap.size, 0, none⟩)) ∧ BankAt w' w.heap.size Bank.none_ ∧ w.grownBy w' none := by
  go_enter Tryd.func19, Tryd.ntmps19
  go_wp2_with fail
  go_ret
  exact ⟨rfl, ⟨Row.new w 109 (Is Bank.none_), Bank.none_ok⟩, grownBy_alloc _ _ _⟩
theorem wrong_one (a : Addr) (n x : Int) (w : World) :
    Calls Tryd.prog 56 #[.pointer (some a), .int .i64 n, .slice (some ⟨w.heap.size, 0, none⟩) 1 1] (w.alloc (.cells #[.int .i64 x] 3)) fun e w' =>
      e = .returned (.int .i64 (if Bank.okW x = false then 20 else if Bank.okN n = false then 2 else 0)) ∧ w.alloc (.cells #[.int .i64 x] 3) = w' := by
  have h := wrong_any a n w.heap.size 1 [x] (w.alloc (.cells #[.int .i64 x] 3)) (by simp) (fun k hk => by
    have hk : k < 1 := hk
    obtain rfl : k = 0 := by omega
    simp [List.getD])
  refine h.mono ?_
  rintro e w' ⟨rfl, rfl⟩
  refine ⟨?_, rfl⟩
  unfold wrongE
  simp
set_option maxHeartbeats 800000 in
theorem bankPut_any (a n : Int) (w : World) (B : Nat) (L : List Int) (hB : BankAt w B L) :
    Calls Tryd.prog 23 #[.pointer (some ⟨B, 0, none⟩), .int .i64 a, .int .i64 n] w fun e w' =>
      e = .returned (.int .i64 (Bank.put L a n).1) ∧ BankAt w' B (Bank.put L a n).2 ∧ w.grownBy w' (some B) := by
  have hlt := hB.1.lt
  by_cases ha : Bank.okW a = true
  · by_cases hn : Bank.okN n = true
    · have ha' := ha
      rw [Bank.okW_iff] at ha'
      have hn' := hn
      rw [Bank.okN_iff] at hn'
      obtain ⟨k, rfl⟩ : ∃ k : Nat, a = (k : Int) := ⟨a.toNat, by omega⟩
      have hk : k < 64 := by omega
      have hkL : k < L.length := by rw [hB.2.1]; exact hk
      have hcell := hB.1.num k hkL
      have hfree := hB.1.free k
      have hx0 := hB.2.2 k hk
      have hpo := Bank.put_ok (a := (k : Int)) (n := n) hB.2
      have hp : Bank.put L (k : Int) n = if 1099511627776 < L.getD k 0 + n then (3, L) else (0, L.set k (L.getD k 0 + n)) := by
        unfold Bank.put
        rw [if_neg (by rw [ha]; decide), if_neg (by rw [hn]; decide)]
        rfl
      rw [hp] at hpo ⊢
      have HB := Lib.hid hB
      have Hpo := Lib.hid hpo
      generalize hxx : L.getD k 0 = x at *
      have Ha := Lib.hid ha
      have Hn := Lib.hid hn
      have Hxx := Lib.hid hxx
      clear ha hn hp hB hpo hxx
      by_cases hbig : 1099511627776 < x + n
      · have Hb : Hid (1099511627776 < x + n) := hbig
        have hd : decide (1099511627776 < x + n) = true := by simpa using hbig
        rw [if_pos hbig]
        go_enter Tryd.func23, Tryd.ntmps23
        go_wp2_with fail
        refine (wrong_one _ _ _ _).mono ?_
        rintro e w1 ⟨rfl, rfl⟩
        rw [Ha.out, Hn.out]
        go_wp2_with fail
        go_ret
        exact ⟨rfl, HB.out.kept (grownBy_alloc _ _ none) (by simp), grownBy_alloc _ _ _⟩
      · have hd : decide (1099511627776 < x + n) = false := by simpa using hbig
        rw [if_neg hbig] at Hpo ⊢
        go_enter Tryd.func23, Tryd.ntmps23
        go_wp2_with fail
        refine (wrong_one _ _ _ _).mono ?_
        rintro e w1 ⟨rfl, rfl⟩
        rw [Ha.out, Hn.out]
        go_wp2_with fail
        refine region_named 11 (by kernel_rfl) (by kernel_rfl) ?_
        intro w3 hw3
        have hg3 : w.grownBy w3 (some B) := by rw [hw3]; exact (grownBy_alloc _ _ _).trans (grownBy_drew _ _)
        have hB3 : BankAt w3 B L := by rw [hw3]; exact HB.out.kept ((grownBy_alloc w _ none).trans (grownBy_drew _ _)) (by simp)
        have hcell := hB3.1.num k hkL
        have hfree := hB3.1.free k
        rw [Hxx.out] at hcell
        have HB3 := Lib.hid hB3
        have Hg3 := Lib.hid hg3
        clear hw3 hB3 hg3
        simp only [List.take_succ_cons, List.take_zero, List.drop_succ_cons, List.drop_zero]
        repeat still_step
        refine wpStill_nil ?_
        go_wp2_with fail
        go_ret
        exact ⟨rfl, ⟨HB3.out.1.setNum k _ hkL, Hpo.out⟩, Hg3.out.trans (grownBy_set _ _ _ _)⟩
    · rw [Bool.not_eq_true] at hn
      have hp : Bank.put L a n = (2, L) := by
        unfold Bank.put
        rw [if_neg (by rw [ha]; decide), if_pos hn]
      rw [hp]
      have HB := Lib.hid hB
      have Ha := Lib.hid ha
      have Hn := Lib.hid hn
      clear ha hn hp hB
      go_enter Tryd.func23, Tryd.ntmps23
      go_wp2_with fail
      refine (wrong_one _ _ _ _).mono ?_
      rintro e w1 ⟨rfl, rfl⟩
      rw [Ha.out, Hn.out]
      go_wp2_with fail
      go_ret
      exact ⟨rfl, HB.out.kept (grownBy_alloc _ _ none) (by simp), grownBy_alloc _ _ _⟩
  · rw [Bool.not_eq_true] at ha
    have hp : Bank.put L a n = (20, L) := by
      unfold Bank.put
      rw [if_pos ha]
    rw [hp]
    have HB := Lib.hid hB
    have Ha := Lib.hid ha
    clear ha hp hB
    go_enter Tryd.func23, Tryd.ntmps23
    go_wp2_with fail
    refine (wrong_one _ _ _ _).mono ?_
    rintro e w1 ⟨rfl, rfl⟩
    rw [Ha.out]
    go_wp2_with fail
    go_ret
    exact ⟨rfl, HB.out.kept (grownBy_alloc _ _ none) (by simp), grownBy_alloc _ _ _⟩
set_option maxHeartbeats 800000 in
theorem bankTake_any (a n : Int) (w : World) (B : Nat) (L : List Int) (hB : BankAt w B L) :
    Calls Tryd.prog 59 #[.pointer (some ⟨B, 0, none⟩), .int .i64 a, .int .i64 n] w fun e w' =>
      e = .returned (.int .i64 (Bank.take L a n).1) ∧ BankAt w' B (Bank.take L a n).2 ∧ w.grownBy w' (some B) := by
  have hlt := hB.1.lt
  by_cases ha : Bank.okW a = true
  · by_cases hn : Bank.okN n = true
    · have ha' := ha
      rw [Bank.okW_iff] at ha'
      have hn' := hn
      rw [Bank.okN_iff] at hn'
      obtain ⟨k, rfl⟩ : ∃ k : Nat, a = (k : Int) := ⟨a.toNat, by omega⟩
      have hk : k < 64 := by omega
      have hkL : k < L.length := by rw [hB.2.1]; exact hk
      have hcell := hB.1.num k hkL
      have hfree := hB.1.free k
      have hx0 := hB.2.2 k hk
      have hpo := Bank.take_ok (a := (k : Int)) (n := n) hB.2
      have hp : Bank.take L (k : Int) n = if L.getD k 0 < n then (28, L) else (0, L.set k (L.getD k 0 - n)) := by
        unfold Bank.take
        rw [if_neg (by rw [ha]; decide), if_neg (by rw [hn]; decide)]
        rfl
      rw [hp] at hpo ⊢
      have HB := Lib.hid hB
      have Hpo := Lib.hid hpo
      generalize hxx : L.getD k 0 = x at *
      have Ha := Lib.hid ha
      have Hn := Lib.hid hn
      have Hxx := Lib.hid hxx
      clear ha hn hp hB hpo hxx
      by_cases hbig : x < n
      · have Hb : Hid (x < n) := hbig
        have hd : decide (x < n) = true := by simpa using hbig
        rw [if_pos hbig]
        go_enter Tryd.func59, Tryd.ntmps59
        go_wp2_with fail
        refine (wrong_one _ _ _ _).mono ?_
        rintro e w1 ⟨rfl, rfl⟩
        rw [Ha.out, Hn.out]
        go_wp2_with fail
        go_ret
        exact ⟨rfl, HB.out.kept (grownBy_alloc _ _ none) (by simp), grownBy_alloc _ _ _⟩
      · have hd : decide (x < n) = false := by simpa using hbig
        rw [if_neg hbig] at Hpo ⊢
        go_enter Tryd.func59, Tryd.ntmps59
        go_wp2_with fail
        refine (wrong_one _ _ _ _).mono ?_
        rintro e w1 ⟨rfl, rfl⟩
        rw [Ha.out, Hn.out]
        go_wp2_with fail
        refine region_named 11 (by kernel_rfl) (by kernel_rfl) ?_
        intro w3 hw3
        have hg3 : w.grownBy w3 (some B) := by rw [hw3]; exact (grownBy_alloc _ _ _).trans (grownBy_drew _ _)
        have hB3 : BankAt w3 B L := by rw [hw3]; exact HB.out.kept ((grownBy_alloc w _ none).trans (grownBy_drew _ _)) (by simp)
        have hcell := hB3.1.num k hkL
        have hfree := hB3.1.free k
        rw [Hxx.out] at hcell
        have HB3 := Lib.hid hB3
        have Hg3 := Lib.hid hg3
        clear hw3 hB3 hg3
        simp only [List.take_succ_cons, List.take_zero, List.drop_succ_cons, List.drop_zero]
        repeat still_step
        refine wpStill_nil ?_
        go_wp2_with fail
        go_ret
        exact ⟨rfl, ⟨HB3.out.1.setNum k _ hkL, Hpo.out⟩, Hg3.out.trans (grownBy_set _ _ _ _)⟩
    · rw [Bool.not_eq_true] at hn
      have hp : Bank.take L a n = (2, L) := by
        unfold Bank.take
        rw [if_neg (by rw [ha]; decide), if_pos hn]
      rw [hp]
      have HB := Lib.hid hB
      have Ha := Lib.hid ha
      have Hn := Lib.hid hn
      clear ha hn hp hB
      go_enter Tryd.func59, Tryd.ntmps59
      go_wp2_with fail
      refine (wrong_one _ _ _ _).mono ?_
      rintro e w1 ⟨rfl, rfl⟩
      rw [Ha.out, Hn.out]
      go_wp2_with fail
      go_ret
      exact ⟨rfl, HB.out.kept (grownBy_alloc _ _ none) (by simp), grownBy_alloc _ _ _⟩
  · rw [Bool.not_eq_true] at ha
    have hp : Bank.take L a n = (20, L) := by
      unfold Bank.take
      rw [if_pos ha]
    rw [hp]
    have HB := Lib.hid hB
    have Ha := Lib.hid ha
    clear ha hp hB
    go_enter Tryd.func59, Tryd.ntmps59
    go_wp2_with fail
    refine (wrong_one _ _ _ _).mono ?_
    rintro e w1 ⟨rfl, rfl⟩
    rw [Ha.out]
    go_wp2_with fail
    go_ret
    exact ⟨rfl, HB.out.kept (grownBy_alloc _ _ none) (by simp), grownBy_alloc _ _ _⟩
end Go.Proofs.YtlapmdgkcidhnaaDoor.Bn

/- ---- BankAll ---- -/
/- bank: All, Total. -/
namespace Go.Proofs.YtlapmdgkcidhnaaDoor.Bn
set_option maxRecDepth 100000
open Go.RowKit
set_option linter.unusedVariables false
set_option linter.unusedSimpArgs false

/-- the first k numbers are there -/
def part (L : List Int) (k : Nat) : List Int := L.take k ++ List.replicate (64 - k) 0
theorem part_len (L : List Int) (k : Nat) (hL : L.length = 64) (hk : k ≤ 64) : (part L k).length = 64 := by
  unfold part
  rw [List.length_append, List.length_take, List.length_replicate]; omega
theorem part_all (L : List Int) (hL : L.length = 64) : part L 64 = L := by
  unfold part
  rw [List.take_of_length_le (by omega)]; simp
theorem part_set (L : List Int) (k : Nat) (hL : L.length = 64) (hk : k < 64) : (part L k).set k (L.getD k 0) = part L (k + 1) := by
  have hl : (L.take k).length = k := by rw [List.length_take]; omega
  unfold part
  rw [List.set_append_right _ _ (by omega), hl, Nat.sub_self, List.take_succ_eq_append_getElem (by omega), List.append_assoc]
  congr 1
  rw [show 64 - k = (64 - (k + 1)) + 1 by omega, List.replicate_succ, List.set_cons_zero]
  simp [List.getD, show k < L.length by omega]
/-- 64 zeros -/
def zeros : Array Value := (Is Bank.none_).toArray
theorem make_zeros (u : World) : (Instr.makeSlice 23 (.int .i64 64) (.int .i64 64)).run Tryd.prog u = .ok (.slice (some ⟨u.heap.size, 0, none⟩) 64 64) (u.alloc (.cells zeros 3)) := by kernel_rfl
set_option maxRecDepth 20000 in
set_option maxHeartbeats 400000 in
theorem bankAll_any (w : World) (B : Nat) (L : List Int) (hB : BankAt w B L) :
    Calls Tryd.prog 31 #[.pointer (some ⟨B, 0, none⟩)] w fun e w' =>
      e = .returned (.slice (some ⟨w.heap.size, 0, none⟩) 64 64) ∧ Row w' w.heap.size 3 (Is L) ∧ w.grownBy w' none := by
  have hL := hB.2.1
  have HL := Lib.hid hL
  have HB := Lib.hid hB
  clear hL hB
  have hmk := make_zeros
  have hst : Row (w.alloc (.cells zeros 3)) w.heap.size 3 (Is (part L 0)) := Row.new w 3 (Is Bank.none_)
  have Hst := Lib.hid hst
  clear hst
  go_enter Tryd.func31, Tryd.ntmps31
  go_wp2_with fail
  go_loopw [8] (fun i wr => ∃ k : Nat, k ≤ 64 ∧ i = .int .i64 k ∧ Row wr w.heap.size 3 (Is (part L k)) ∧ w.grownBy wr none) (fun i _ => 64 - (intOf i).toNat)
  case atStart => exact ⟨0, Nat.zero_le _, rfl, Hst.out, grownBy_alloc _ _ _⟩
  case round =>
    obtain ⟨k, hk, rfl, hrow, hg⟩ := hrel
    by_cases hlt : k < 64
    · have hlt' : (k : Int) < 64 := by omega
      have hBr := HB.out.kept hg (by simp)
      have hcell := hBr.1.num k (by rw [HL.out]; exact hlt)
      have hpl := part_len L k HL.out hk
      have hcell2 := hrow.num k (by rw [hpl]; exact hlt)
      have hfree := hrow.free k
      have hset := hrow.setNum k (L.getD k 0) (by rw [hpl]; exact hlt)
      rw [part_set L k HL.out hlt] at hset
      generalize L.getD k 0 = x at *
      generalize (part L k).getD k 0 = y at *
      have Hset := Lib.hid hset
      have hgk : w.grownBy (wr.setCell ⟨w.heap.size, k, none⟩ (.int .i64 x)) none :=
        ⟨rfl |>.trans hg.os, hg.tape, hg.output, Nat.le_trans hg.size (by simp [World.setCell]), fun q hq hne => (Below.heap_setCell _ _ _ _ (by show q ≠ w.heap.size; omega)).trans (hg.block q hq hne)⟩
      have Hgk := Lib.hid hgk
      clear hset hBr hrow hpl hg hgk
      go_wp2_with fail
      refine ⟨⟨k + 1, hlt, by go_num, Hset.out, Hgk.out⟩, by simp [intOf]; omega⟩
    · obtain rfl : k = 64 := by omega
      rw [part_all L HL.out] at hrow
      have Hrow := Lib.hid hrow
      have Hg := Lib.hid hg
      clear hrow hg
      go_wp2_with fail
      go_ret
      exact ⟨rfl, Hrow.out, Hg.out⟩
end Go.Proofs.YtlapmdgkcidhnaaDoor.Bn

/- ---- Numbers ---- -/
/- cavalcaderef12.Numbers: are two lists of numbers the same? -/
namespace Go.Proofs.YtlapmdgkcidhnaaDoor.Bn
set_option maxRecDepth 100000
open Go.RowKit
set_option linter.unusedVariables false
set_option linter.unusedSimpArgs false

/-- v reads as the numbers L -/
def NumsV (w : World) (v : Value) (L : List Int) : Prop :=
  ∃ (A : Option Addr) (c : Nat), v = .slice A L.length c ∧ (L ≠ [] → ∃ b off, A = some ⟨b, off, none⟩ ∧ b < w.heap.size ∧ ∀ i, i < L.length → w.cell? ⟨b, off + i, none⟩ = some (.int .i64 (L.getD i 0)))
theorem NumsV.row {w : World} {B c : Nat} {t : TypeId} {L : List Int} (h : Row w B t (Is L)) : NumsV w (.slice (some ⟨B, 0, none⟩) L.length c) L :=
  ⟨_, c, rfl, fun _ => ⟨B, 0, rfl, h.lt, fun i hi => by rw [Nat.zero_add]; exact h.num i hi⟩⟩
theorem NumsV.nil (w : World) : NumsV w (.slice none 0 0) [] := ⟨none, 0, rfl, fun h => absurd rfl h⟩
theorem NumsV.kept {w w' : World} {v : Value} {L : List Int} (h : NumsV w v L) (hg : w.grownBy w' none) : NumsV w' v L := by
  obtain ⟨A, c, rfl, hL⟩ := h
  refine ⟨A, c, rfl, fun hne => ?_⟩
  obtain ⟨b, off, rfl, hb, hc⟩ := hL hne
  exact ⟨b, off, rfl, Nat.lt_of_lt_of_le hb hg.size, fun i hi => (World.cell?_of_block (hg.block b hb (by simp))).trans (hc i hi)⟩
theorem eq_of_getD {L1 L2 : List Int} (hl : L1.length = L2.length) (h : ∀ i, i < L1.length → L1.getD i 0 = L2.getD i 0) : L1 = L2 := by
  apply List.ext_getElem hl
  intro i h1 h2
  have := h i h1
  simpa [List.getD, h1, h2] using this
set_option maxHeartbeats 400000 in
theorem numbers_any (v1 v2 : Value) (L1 L2 : List Int) (w : World) (h1 : NumsV w v1 L1) (h2 : NumsV w v2 L2) (hl1 : L1.length ≤ 9223372036854775807) (hl2 : L2.length ≤ 9223372036854775807) :
    Calls Tryd.prog 30 #[v1, v2] w fun e w' => e = .returned (.bool (decide (L1 = L2))) ∧ ∃ n, w' = w.drewN n := by
  obtain ⟨A1, c1, rfl, t1⟩ := h1
  obtain ⟨A2, c2, rfl, t2⟩ := h2
  have T1 := Lib.hid t1
  have T2 := Lib.hid t2
  clear t1 t2
  by_cases hl : L1.length = L2.length
  · have hne : ((L1.length : Int) != (L2.length : Int)) = false := by simp [hl]
    have hne' : ((L1.length : Int) == (L2.length : Int)) = true := by simp [hl]
    have Hl := Lib.hid hl
    obtain ⟨m, hm⟩ : ∃ m, m = L2.length := ⟨_, rfl⟩
    rw [← hm] at hl2
    rw [hl, ← hm]
    have hm1 : L1.length = m := hl.trans hm.symm
    have Hm1 := Lib.hid hm1
    clear hl hne hne' hm hm1 hl1
    go_enter Tryd.func30, Tryd.ntmps30
    go_wp2_with fail
    go_loopw [5] (fun i wr => ∃ (k n : Nat), k ≤ m ∧ i = .int .i64 k ∧ wr = w.drewN n ∧ ∀ j, j < k → L1.getD j 0 = L2.getD j 0) (fun i _ => m - (intOf i).toNat)
    case atStart => exact ⟨0, 0, Nat.zero_le _, rfl, rfl, fun j hj => absurd hj (by omega)⟩
    case round =>
      obtain ⟨k, n, hk, rfl, rfl, hall⟩ := hrel
      have Hall := Lib.hid hall
      clear hall
      by_cases hlt : k < m
      · have hlt' : (k : Int) < m := by omega
        have hn1 : L1 ≠ [] := by
          intro e
          have := Hm1.out
          rw [e] at this
          simp at this; omega
        have hn2 : L2 ≠ [] := by
          intro e
          have := Hm1.out
          have h3 := Hl.out
          rw [e] at h3
          simp only [List.length_nil] at h3; omega
        obtain ⟨b1, o1, rfl, hb1, hc1⟩ := T1.out hn1
        obtain ⟨b2, o2, rfl, hb2, hc2⟩ := T2.out hn2
        have e1 := hc1 k (by rw [Hm1.out]; exact hlt)
        have e2 := hc2 k (by rw [← Hl.out, Hm1.out]; exact hlt)
        obtain ⟨x, hx⟩ : ∃ x, x = L1.getD k 0 := ⟨_, rfl⟩
        obtain ⟨y, hy⟩ : ∃ y, y = L2.getD k 0 := ⟨_, rfl⟩
        rw [← hx] at e1
        rw [← hy] at e2
        have Hx := Lib.hid hx
        have Hy := Lib.hid hy
        clear hx hy hc1 hc2 hn1 hn2
        by_cases hxy : x = y
        · have hd : (x != y) = false := by simp [hxy]
          have hd' : (x == y) = true := by simp [hxy]
          have Hxy := Lib.hid hxy
          clear hxy
          go_wp2_with fail
          go_quiet (fail)
          go_wp2_with fail
          refine ⟨⟨k + 1, _, hlt, by go_num, rfl, fun j hj => ?_⟩, by simp [intOf]; omega⟩
          by_cases hjk : j < k
          · exact Hall.out j hjk
          · obtain rfl : j = k := by omega
            rw [← Hx.out, ← Hy.out]; exact Hxy.out
        · have hd : (x != y) = true := by simpa using hxy
          have hd' : (x == y) = false := by simpa using hxy
          have hf : decide (L1 = L2) = false := by
            rw [decide_eq_false_iff_not]
            intro e
            apply hxy
            rw [Hx.out, Hy.out, e]
          have Hf := Lib.hid hf
          clear hxy hf
          go_wp2_with fail
          go_quiet (fail)
          go_wp2_with fail
          go_ret
          rw [Hf.out]
          exact ⟨rfl, _, World.drewN_drewN _ _ _⟩
      · obtain rfl : k = m := by omega
        have ht : decide (L1 = L2) = true := by
          rw [decide_eq_true_eq]
          exact eq_of_getD Hl.out (fun i hi => Hall.out i (by rw [← Hm1.out]; exact hi))
        have Ht := Lib.hid ht
        clear ht
        go_wp2_with fail
        go_ret
        rw [Ht.out]
        exact ⟨rfl, _, rfl⟩
  · have hne : ((L1.length : Int) != (L2.length : Int)) = true := by simp; omega
    have hne' : ((L1.length : Int) == (L2.length : Int)) = false := by simp; omega
    have hf : decide (L1 = L2) = false := by
      rw [decide_eq_false_iff_not]
      intro e; exact hl (by rw [e])
    have Hf := Lib.hid hf
    clear hf hl
    go_enter Tryd.func30, Tryd.ntmps30
    go_wp2_with fail
    go_ret
    rw [Hf.out]
    exact ⟨rfl, 0, rfl⟩
end Go.Proofs.YtlapmdgkcidhnaaDoor.Bn

/- ---- BankRef ---- -/
/- The reference of layer 14: New, Put, Take, Move. -/
namespace Go.Proofs.YtlapmdgkcidhnaaDoor.Bn
set_option maxRecDepth 100000
open Go.RowKit
set_option linter.unusedVariables false
set_option linter.unusedSimpArgs false

/-- at block X lies the reference's bank, whose numbers lie at block G -/
def RefAt (w : World) (X G : Nat) (L : List Int) : Prop := Row w X 63 [.slice (some ⟨G, 0, none⟩) 64 64] ∧ Row w G 3 (Is L) ∧ Bank.Ok L
theorem RefAt.kept {w w' : World} {X G : Nat} {r : Option Nat} {L : List Int} (h : RefAt w X G L) (hg : w.grownBy w' r) (hX : some X ≠ r) (hG : some G ≠ r) : RefAt w' X G L := ⟨h.1.kept hg hX, h.2.1.kept hg hG, h.2.2⟩
theorem RefAt.apart {w : World} {X G : Nat} {L : List Int} (h : RefAt w X G L) : X ≠ G := by
  rintro rfl
  have h1 := h.1
  have h2 := h.2.1
  unfold Row at h1 h2
  rw [h1] at h2
  have := (Option.some.inj h2)
  simp at this
theorem refNew_any (w : World) : Calls Tryd.prog 20 #[] w fun e w' =>
    e = .returned (.pointer (some ⟨w.heap.size + 1, 0, none⟩)) ∧ RefAt w' (w.heap.size + 1) w.heap.size Bank.none_ ∧ w.grownBy w' none := by
  have hmk := make_zeros
  go_enter Tryd.func20, Tryd.ntmps20
  go_wp2_with fail
  go_ret
  have h1 : Row (w.alloc (.cells zeros 3)) w.heap.size 3 (Is Bank.none_) := Row.new w 3 (Is Bank.none_)
  have h2 := Row.new (w.alloc (.cells zeros 3)) 63 [.slice (some ⟨w.heap.size, 0, none⟩) 64 64]
  have e1 : (w.alloc (.cells zeros 3)).heap.size = w.heap.size + 1 := by simp
  rw [e1] at h2
  exact ⟨rfl, ⟨h2, h1.kept (grownBy_alloc _ _ none) (by simp), Bank.none_ok⟩, (grownBy_alloc _ _ _).trans (grownBy_alloc _ _ _)⟩
set_option maxHeartbeats 800000 in
theorem refPut_any (a n : Int) (w : World) (X G : Nat) (L : List Int) (hR : RefAt w X G L) :
    Calls Tryd.prog 24 #[.pointer (some ⟨X, 0, none⟩), .int .i64 a, .int .i64 n] w fun e w' =>
      e = .returned (.int .i64 (Bank.put L a n).1) ∧ RefAt w' X G (Bank.put L a n).2 ∧ w.grownBy w' (some G) := by
  have hXG := hR.apart
  by_cases ha : Bank.okW a = true
  · by_cases hn : Bank.okN n = true
    · have ha' := ha
      rw [Bank.okW_iff] at ha'
      have hn' := hn
      rw [Bank.okN_iff] at hn'
      obtain ⟨k, rfl⟩ : ∃ k : Nat, a = (k : Int) := ⟨a.toNat, by omega⟩
      have hk : k < 64 := by omega
      have hki : (k : Int) < 64 := by omega
      have hkL : k < L.length := by rw [hR.2.2.1]; exact hk
      have hcell0 := hR.1.cell 0 (by simp)
      have hcell := hR.2.1.num k hkL
      have hx0 := hR.2.2.2 k hk
      have hpo := Bank.put_ok (a := (k : Int)) (n := n) hR.2.2
      have hp : Bank.put L (k : Int) n = if 1099511627776 < L.getD k 0 + n then (3, L) else (0, L.set k (L.getD k 0 + n)) := by
        unfold Bank.put
        rw [if_neg (by rw [ha]; decide), if_neg (by rw [hn]; decide)]
        rfl
      rw [hp] at hpo ⊢
      have HR := Lib.hid hR
      generalize hxx : L.getD k 0 = x at *
      have Ha := Lib.hid ha
      have Hn := Lib.hid hn
      have Hxx := Lib.hid hxx
      have HXG := Lib.hid hXG
      clear ha hn hp hR hxx hXG
      by_cases hbig : 1099511627776 < x + n
      · have hd : decide (1099511627776 < x + n) = true := by simpa using hbig
        rw [if_pos hbig]
        clear hpo
        go_enter Tryd.func24, Tryd.ntmps24
        go_wp2_with fail
        refine (who_any _ _).mono ?_
        rintro e w1 ⟨rfl, rfl⟩
        rw [Ha.out]
        go_wp2_with fail
        refine (amount_any _ _).mono ?_
        rintro e w1 ⟨rfl, rfl⟩
        rw [Hn.out]
        go_wp2_with fail
        go_ret
        exact ⟨rfl, HR.out, grownBy_refl _ _⟩
      · have hd : decide (1099511627776 < x + n) = false := by simpa using hbig
        rw [if_neg hbig] at hpo ⊢
        have Hpo := Lib.hid hpo
        clear hpo
        go_enter Tryd.func24, Tryd.ntmps24
        go_wp2_with fail
        refine (who_any _ _).mono ?_
        rintro e w1 ⟨rfl, rfl⟩
        rw [Ha.out]
        go_wp2_with fail
        refine (amount_any _ _).mono ?_
        rintro e w1 ⟨rfl, rfl⟩
        rw [Hn.out]
        go_wp2_with fail
        refine region_named 15 (by kernel_rfl) (by kernel_rfl) ?_
        intro w3 hw3
        have hg3 : w.grownBy w3 (some G) := by rw [hw3]; exact grownBy_drew _ _
        have hR3 : RefAt w3 X G L := by rw [hw3]; exact HR.out.kept (grownBy_drew _ none) (by simp) (by simp)
        have hcell0 := hR3.1.cell 0 (by simp)
        have hcell := hR3.2.1.num k hkL
        have hfree := hR3.2.1.free k
        rw [Hxx.out] at hcell
        have HR3 := Lib.hid hR3
        have Hg3 := Lib.hid hg3
        clear hw3 hR3 hg3
        simp only [List.take_succ_cons, List.take_zero, List.drop_succ_cons, List.drop_zero]
        repeat still_step
        refine wpStill_nil ?_
        go_wp2_with fail
        go_ret
        exact ⟨rfl, ⟨HR3.out.1.kept (grownBy_set _ _ _ _) (by simpa using HXG.out), HR3.out.2.1.setNum k _ hkL, Hpo.out⟩, Hg3.out.trans (grownBy_set _ _ _ _)⟩
    · rw [Bool.not_eq_true] at hn
      have hp : Bank.put L a n = (2, L) := by
        unfold Bank.put
        rw [if_neg (by rw [ha]; decide), if_pos hn]
      rw [hp]
      have HR := Lib.hid hR
      have Ha := Lib.hid ha
      have Hn := Lib.hid hn
      clear ha hn hp hR hXG
      go_enter Tryd.func24, Tryd.ntmps24
      go_wp2_with fail
      refine (who_any _ _).mono ?_
      rintro e w1 ⟨rfl, rfl⟩
      rw [Ha.out]
      go_wp2_with fail
      refine (amount_any _ _).mono ?_
      rintro e w1 ⟨rfl, rfl⟩
      rw [Hn.out]
      go_wp2_with fail
      go_ret
      exact ⟨rfl, HR.out, grownBy_refl _ _⟩
  · rw [Bool.not_eq_true] at ha
    have hp : Bank.put L a n = (20, L) := by
      unfold Bank.put
      rw [if_pos ha]
    rw [hp]
    have HR := Lib.hid hR
    have Ha := Lib.hid ha
    clear ha hp hR hXG
    go_enter Tryd.func24, Tryd.ntmps24
    go_wp2_with fail
    refine (who_any _ _).mono ?_
    rintro e w1 ⟨rfl, rfl⟩
    rw [Ha.out]
    go_wp2_with fail
    go_ret
    exact ⟨rfl, HR.out, grownBy_refl _ _⟩
set_option maxHeartbeats 800000 in
theorem refTake_any (a n : Int) (w : World) (X G : Nat) (L : List Int) (hR : RefAt w X G L) :
    Calls Tryd.prog 60 #[.pointer (some ⟨X, 0, none⟩), .int .i64 a, .int .i64 n] w fun e w' =>
      e = .returned (.int .i64 (Bank.take L a n).1) ∧ RefAt w' X G (Bank.take L a n).2 ∧ w.grownBy w' (some G) := by
  have hXG := hR.apart
  by_cases ha : Bank.okW a = true
  · by_cases hn : Bank.okN n = true
    · have ha' := ha
      rw [Bank.okW_iff] at ha'
      have hn' := hn
      rw [Bank.okN_iff] at hn'
      obtain ⟨k, rfl⟩ : ∃ k : Nat, a = (k : Int) := ⟨a.toNat, by omega⟩
      have hk : k < 64 := by omega
      have hki : (k : Int) < 64 := by omega
      have hkL : k < L.length := by rw [hR.2.2.1]; exact hk
      have hcell0 := hR.1.cell 0 (by simp)
      have hcell := hR.2.1.num k hkL
      have hx0 := hR.2.2.2 k hk
      have hpo := Bank.take_ok (a := (k : Int)) (n := n) hR.2.2
      have hp : Bank.take L (k : Int) n = if L.getD k 0 < n then (28, L) else (0, L.set k (L.getD k 0 - n)) := by
        unfold Bank.take
        rw [if_neg (by rw [ha]; decide), if_neg (by rw [hn]; decide)]
        rfl
      rw [hp] at hpo ⊢
      have HR := Lib.hid hR
      generalize hxx : L.getD k 0 = x at *
      have Ha := Lib.hid ha
      have Hn := Lib.hid hn
      have Hxx := Lib.hid hxx
      have HXG := Lib.hid hXG
      clear ha hn hp hR hxx hXG
      by_cases hbig : x < n
      · have hd : decide (x < n) = true := by simpa using hbig
        rw [if_pos hbig]
        clear hpo
        go_enter Tryd.func60, Tryd.ntmps60
        go_wp2_with fail
        refine (who_any _ _).mono ?_
        rintro e w1 ⟨rfl, rfl⟩
        rw [Ha.out]
        go_wp2_with fail
        refine (amount_any _ _).mono ?_
        rintro e w1 ⟨rfl, rfl⟩
        rw [Hn.out]
        go_wp2_with fail
        go_ret
        exact ⟨rfl, HR.out, grownBy_refl _ _⟩
      · have hd : decide (x < n) = false := by simpa using hbig
        rw [if_neg hbig] at hpo ⊢
        have Hpo := Lib.hid hpo
        clear hpo
        go_enter Tryd.func60, Tryd.ntmps60
        go_wp2_with fail
        refine (who_any _ _).mono ?_
        rintro e w1 ⟨rfl, rfl⟩
        rw [Ha.out]
        go_wp2_with fail
        refine (amount_any _ _).mono ?_
        rintro e w1 ⟨rfl, rfl⟩
        rw [Hn.out]
        go_wp2_with fail
        refine region_named 15 (by kernel_rfl) (by kernel_rfl) ?_
        intro w3 hw3
        have hg3 : w.grownBy w3 (some G) := by rw [hw3]; exact grownBy_drew _ _
        have hR3 : RefAt w3 X G L := by rw [hw3]; exact HR.out.kept (grownBy_drew _ none) (by simp) (by simp)
        have hcell0 := hR3.1.cell 0 (by simp)
        have hcell := hR3.2.1.num k hkL
        have hfree := hR3.2.1.free k
        rw [Hxx.out] at hcell
        have HR3 := Lib.hid hR3
        have Hg3 := Lib.hid hg3
        clear hw3 hR3 hg3
        simp only [List.take_succ_cons, List.take_zero, List.drop_succ_cons, List.drop_zero]
        repeat still_step
        refine wpStill_nil ?_
        go_wp2_with fail
        go_ret
        exact ⟨rfl, ⟨HR3.out.1.kept (grownBy_set _ _ _ _) (by simpa using HXG.out), HR3.out.2.1.setNum k _ hkL, Hpo.out⟩, Hg3.out.trans (grownBy_set _ _ _ _)⟩
    · rw [Bool.not_eq_true] at hn
      have hp : Bank.take L a n = (2, L) := by
        unfold Bank.take
        rw [if_neg (by rw [ha]; decide), if_pos hn]
      rw [hp]
      have HR := Lib.hid hR
      have Ha := Lib.hid ha
      have Hn := Lib.hid hn
      clear ha hn hp hR hXG
      go_enter Tryd.func60, Tryd.ntmps60
      go_wp2_with fail
      refine (who_any _ _).mono ?_
      rintro e w1 ⟨rfl, rfl⟩
      rw [Ha.out]
      go_wp2_with fail
      refine (amount_any _ _).mono ?_
      rintro e w1 ⟨rfl, rfl⟩
      rw [Hn.out]
      go_wp2_with fail
      go_ret
      exact ⟨rfl, HR.out, grownBy_refl _ _⟩
  · rw [Bool.not_eq_true] at ha
    have hp : Bank.take L a n = (20, L) := by
      unfold Bank.take
      rw [if_pos ha]
    rw [hp]
    have HR := Lib.hid hR
    have Ha := Lib.hid ha
    clear ha hp hR hXG
    go_enter Tryd.func60, Tryd.ntmps60
    go_wp2_with fail
    refine (who_any _ _).mono ?_
    rintro e w1 ⟨rfl, rfl⟩
    rw [Ha.out]
    go_wp2_with fail
    go_ret
    exact ⟨rfl, HR.out, grownBy_refl _ _⟩
end Go.Proofs.YtlapmdgkcidhnaaDoor.Bn
