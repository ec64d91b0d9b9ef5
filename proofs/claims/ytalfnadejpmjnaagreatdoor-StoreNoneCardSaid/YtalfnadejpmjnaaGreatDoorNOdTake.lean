/- What later texts need of the earlier layers. -/
import Derived.Test.YtalfnadejpmjnaaGreatDoorNSlO
import Derived.Test.YtalfnadejpmjnaaGreatDoorNSlS
import Derived.Test.YtalfnadejpmjnaaGreatDoorNSlT
import Derived.Test.YtalfnadejpmjnaaGreatDoorNSlC
import Derived.Test.YtalfnadejpmjnaaGreatDoorNSlA
import Derived.Test.YtalfnadejpmjnaaGreatDoorNSlB
import Derived.Test.YtalfnadejpmjnaaGreatDoorNSlD
import Derived.Test.YtalfnadejpmjnaaGreatDoorNTxBack
import Derived.Test.YtalfnadejpmjnaaGreatDoorNOdA
import Derived.Test.YtalfnadejpmjnaaGreatDoorNRwA
import Derived.Test.YtalfnadejpmjnaaGreatDoorNOdB
import Derived.RegionTactic
import Derived.BigQuiet
/- ---- OdTake ---- -/
/- Taken, Next, From of a log that is nil; sort.Search; Taken of a log. -/
namespace Go.Proofs.YtalfnadejpmjnaaGreatDoor
open Go.RowKit
set_option linter.unusedVariables false
set_option linter.unusedSimpArgs false
set_option maxRecDepth 100000

theorem bel_drewN {B : Nat} {a w : World} (h : Below B a w) (n : Nat) : Below B a (w.drewN n) := by
  exact ⟨h.os, h.tape, h.output, h.size, h.block⟩
/-- sort.SearchInts' closure -/
theorem sints1_any (ba bx g n c k : Nat) (d x : Int) (W : World) (hk : k < n) (ha : W.cell? ⟨ba, 0, none⟩ = some (.slice (some ⟨g, 0, none⟩) n c)) (hx : W.cell? ⟨bx, 0, none⟩ = some (.int .i64 x)) (hc : W.cell? ⟨g, k, none⟩ = some (.int .i64 d)) :
    Calls Tryz.prog 103 #[.int .i64 k, .pointer (some ⟨ba, 0, none⟩), .pointer (some ⟨bx, 0, none⟩)] W fun e w' => e = .returned (.bool (decide (x ≤ d))) ∧ Below W.heap.size W w' := by
  have hkn : (k : Int) < (n : Int) := by omega
  have hk0 : (0 : Int) ≤ (k : Int) := by omega
  have hc' : W.cell? ⟨g, 0 + k, none⟩ = some (.int .i64 d) := by rw [Nat.zero_add]; exact hc
  clear hk
  go_enter Tryz.func103, Tryz.ntmps103
  go_wp2_with fail
  go_region
  all_goals go_wp2_with fail
  all_goals go_ret
  all_goals exact ⟨by first | rfl | simp, bel_drewN (Below.refl _ _) _⟩
def Od.lt (l : List Int) (x : Int) : Nat := l.countP (fun y => decide (y < x))
theorem Od.lt_at {l : List Int} {x : Int} {i : Nat} (hi : i ≤ l.length) (h1 : ∀ k (hk : k < l.length), k < i → l[k] < x) (h2 : ∀ k (hk : k < l.length), i ≤ k → x ≤ l[k]) : i = Od.lt l x := by
  unfold Od.lt
  conv => rhs; rw [← List.take_append_drop i l]
  rw [List.countP_append]
  have e1 : (l.take i).countP (fun y => decide (y < x)) = i := by
    rw [List.countP_eq_length.2, List.length_take, Nat.min_eq_left hi]
    intro a ha
    obtain ⟨k, hk, rfl⟩ := List.getElem_of_mem ha
    rw [List.length_take] at hk
    rw [List.getElem_take]
    exact decide_eq_true (h1 k (by omega) (by omega))
  have e2 : (l.drop i).countP (fun y => decide (y < x)) = 0 := by
    rw [List.countP_eq_zero]
    intro a ha
    obtain ⟨k, hk, rfl⟩ := List.getElem_of_mem ha
    rw [List.length_drop] at hk
    rw [List.getElem_drop]
    have := h2 (i + k) (by omega) (by omega)
    simp
    omega
  rw [e1, e2]
  rfl
set_option maxHeartbeats 3200000 in
theorem search19_any (l : List Int) (hs : l.Pairwise (· ≤ ·)) (ba bx c : Nat) (A : Option Addr) (x : Int) (w : World) (hn0 : l.length ≤ 1000000)
    (ha : w.cell? ⟨ba, 0, none⟩ = some (.slice A l.length c)) (hx : w.cell? ⟨bx, 0, none⟩ = some (.int .i64 x))
    (hA : ∀ k (hk : k < l.length), ∃ g, A = some ⟨g, 0, none⟩ ∧ g < w.heap.size ∧ w.cell? ⟨g, k, none⟩ = some (.int .i64 l[k])) :
    Calls Tryz.prog 102 #[.int .i64 l.length, .func (.func 103) #[] #[.pointer (some ⟨ba, 0, none⟩), .pointer (some ⟨bx, 0, none⟩)]] w fun e w' => e = .returned (.int .i64 (Od.lt l x)) ∧ Below w.heap.size w w' := by
  have hba : ba < w.heap.size := World.block_lt_of_cell? _ _ ha
  have hbx : bx < w.heap.size := World.block_lt_of_cell? _ _ hx
  have F1 : Hid (∀ (W : World), Below w.heap.size w W → ∀ (k : Nat) (hk : k < l.length), Calls Tryz.prog 103 #[.int .i64 k, .pointer (some ⟨ba, 0, none⟩), .pointer (some ⟨bx, 0, none⟩)] W fun e w' => e = .returned (.bool (decide (x ≤ l[k]))) ∧ Below W.heap.size W w') := Lib.hid (fun W hb k hk => by
    obtain ⟨g, e, hg, hc⟩ := hA k hk
    subst e
    exact sints1_any ba bx g l.length c k l[k] x W hk ((hb.cell (p := ⟨ba, 0, none⟩) hba).trans ha) ((hb.cell (p := ⟨bx, 0, none⟩) hbx).trans hx) ((hb.cell (p := ⟨g, k, none⟩) hg).trans hc))
  have HS := Lib.hid hs
  obtain ⟨n, hn⟩ : ∃ n, n = l.length := ⟨_, rfl⟩
  have HN := Lib.hid hn
  rw [← hn] at hn0 ⊢
  obtain ⟨p, hp⟩ : ∃ p, Od.lt l x = p := ⟨_, rfl⟩
  rw [hp]
  have HPp := Lib.hid hp
  clear hs hA ha hx hba hbx hn hp
  go_enter Tryz.func102, Tryz.ntmps102
  go_wp2_with fail
  go_loopw [5, 6] (fun si sj wr => ∃ i j : Nat, i ≤ j ∧ j ≤ n ∧ si = .int .i64 i ∧ sj = .int .i64 j ∧ (∀ k (hk : k < l.length), k < i → l[k] < x) ∧ (∀ k (hk : k < l.length), j ≤ k → x ≤ l[k]) ∧ Below w.heap.size w wr) (fun si sj _ => (intOf sj).toNat - (intOf si).toNat)
  case atStart => exact ⟨0, n, Nat.zero_le _, Nat.le_refl _, rfl, rfl, fun k hk h => by omega, fun k hk h => by have := HN.out; omega, Below.refl _ _⟩
  case round =>
    obtain ⟨i, j, hij, hjn, rfl, rfl, h1, h2, hb⟩ := hrel
    have H1 := Lib.hid h1
    have H2 := Lib.hid h2
    have HB := Lib.hid hb
    clear h1 h2 hb
    by_cases hlt : i < j
    · have hlti : (i : Int) < (j : Int) := by omega
      obtain ⟨m, hm⟩ : ∃ m, m = (i + j) / 2 := ⟨_, rfl⟩
      have hmi : i ≤ m := by omega
      have hmj : m < j := by omega
      have e1 : IntKind.i64.wrap ((i : Int) + j) = ((i + j : Nat) : Int) := by rw [IntWalk.i64_in _ (by omega)]; omega
      have e2 : IntKind.u64.wrap ((i + j : Nat) : Int) = ((i + j : Nat) : Int) := by unfold IntKind.wrap; simp [IntKind.bits, IntKind.signed]; omega
      have hml : m < l.length := by have := HN.out; omega
      have FX := Lib.hid (F1.out wr HB.out m hml)
      obtain ⟨r, hr⟩ : ∃ r, l[m] = r := ⟨_, rfl⟩
      rw [hr] at FX
      have HR : Hid (∃ h : m < l.length, l[m] = r) := Lib.hid ⟨hml, hr⟩
      have em : ((i : Int) + (j : Int)) / 2 = (m : Int) := by omega
      have em' : (i + j) / 2 = m := hm.symm
      clear hm hr hml
      by_cases hr0 : x ≤ r
      · have dr : decide (x ≤ r) = true := decide_eq_true hr0
        rw [dr] at FX
        have HX := Lib.hid hr0
        clear hr0 dr
        go_wp2_with fail
        refine (FX.out).mono ?_
        rintro _ w3 ⟨rfl, hb3⟩
        have HB3 := Lib.hid (two_below' HB.out hb3)
        clear hb3
        go_wp2_with fail
        refine ⟨⟨i, m, hmi, by omega, rfl, rfl, H1.out, fun k hk hkm => ?_, HB3.out⟩, by simp [intOf]; omega⟩
        rcases Nat.lt_or_ge m k with q | q
        · have h5 := List.pairwise_iff_getElem.1 HS.out m k HR.out.1 hk q
          have := HX.out
          obtain ⟨_, this⟩ := HR.out
          omega
        · have : k = m := by omega
          subst this
          rw [HR.out.2]
          exact HX.out
      · have dr : decide (x ≤ r) = false := decide_eq_false hr0
        rw [dr] at FX
        have HX := Lib.hid hr0
        clear hr0 dr
        go_wp2_with fail
        refine (FX.out).mono ?_
        rintro _ w3 ⟨rfl, hb3⟩
        have HB3 := Lib.hid (two_below' HB.out hb3)
        clear hb3
        go_wp2_with fail
        refine ⟨⟨m + 1, j, by omega, hjn, by go_num, rfl, fun k hk hkm => ?_, H2.out, HB3.out⟩, by simp [intOf]; omega⟩
        rcases Nat.lt_or_ge k m with q | q
        · have h5 := List.pairwise_iff_getElem.1 HS.out k m hk HR.out.1 q
          have := HX.out
          obtain ⟨_, this⟩ := HR.out
          omega
        · have : k = m := by omega
          subst this
          rw [HR.out.2]
          have := HX.out
          omega
    · have hij' : j = i := by omega
      have hlti : ¬ (i : Int) < (j : Int) := by omega
      have hp : i = Od.lt l x := Od.lt_at (by have := HN.out; omega) H1.out (fun k hk h => by have := H2.out k hk (by omega); omega)
      have hp' : i = p := hp.trans HPp.out
      subst hp'
      subst hij'
      clear hp hlt HPp
      go_wp2_with fail
      go_ret
      exact ⟨rfl, HB.out⟩
set_option maxHeartbeats 1600000 in
theorem sints19_any (l : List Int) (hs : l.Pairwise (· ≤ ·)) (c : Nat) (A : Option Addr) (x : Int) (w : World) (hn0 : l.length ≤ 1000000)
    (hA : ∀ k (hk : k < l.length), ∃ g, A = some ⟨g, 0, none⟩ ∧ g < w.heap.size ∧ w.cell? ⟨g, k, none⟩ = some (.int .i64 l[k])) :
    Calls Tryz.prog 72 #[.slice A l.length c, .int .i64 x] w fun e w' => e = .returned (.int .i64 (Od.lt l x)) ∧ Below w.heap.size w w' := by
  obtain ⟨W, hW⟩ : ∃ W, W = (w.alloc (.cells #[.slice A l.length c] 45)).alloc (.cells #[.int .i64 x] 3) := ⟨_, rfl⟩
  have hb : Below w.heap.size w W := by rw [hW]; exact ((Below.refl _ w).alloc (Nat.le_refl _) _).alloc (by simp) _
  have hr1 : Row W w.heap.size 45 [.slice A l.length c] := by rw [hW]; exact (Row.new w 45 [.slice A l.length c]).below ((Below.refl _ _).alloc (Nat.le_refl _) _)
  have hr2 : Row W (w.heap.size + 1) 3 [.int .i64 x] := by rw [hW]; have := Row.new (w.alloc (.cells #[.slice A l.length c] 45)) 3 [.int .i64 x]; rwa [show (w.alloc (.cells #[.slice A l.length c] 45)).heap.size = w.heap.size + 1 by simp] at this
  have CS := Lib.hid (search19_any l hs w.heap.size (w.heap.size + 1) c A x W hn0 (rowX hr1) (rowX hr2) (fun k hk => by
    obtain ⟨g, e, hg, hc⟩ := hA k hk
    exact ⟨g, e, Nat.lt_of_lt_of_le hg hb.size, (hb.cell (p := ⟨g, k, none⟩) hg).trans hc⟩))
  have HB := Lib.hid hb
  have HW := Lib.hid hW
  clear hs hA hb hr1 hr2 hW hn0
  generalize Od.lt l x = p at *
  generalize l.length = n at *
  go_enter Tryz.func72, Tryz.ntmps72
  go_wp2_with fail
  rw [← HW.out]
  refine CS.out.mono ?_
  rintro _ w3 ⟨rfl, hb3⟩
  have HB3 := Lib.hid (two_below' HB.out hb3)
  clear hb3
  go_wp2_with fail
  go_ret
  exact ⟨rfl, HB3.out⟩
theorem Od.Good.del_sorted {rs : List Rp} (h : Od.Good rs) : (Od.del rs).Pairwise (· ≤ ·) := by
  unfold Od.del
  rw [List.pairwise_map]
  refine List.Pairwise.filter _ ?_
  rw [List.pairwise_iff_getElem]
  intro i j hi hj hij
  rw [h.index i hi, h.index j hj]
  omega
/-- how many of the first i messages nobody sent -/
def Od.taken (rs : List Rp) (i : Int) : Nat := Od.lt (Od.del rs) i
theorem LogAt.taken {w : World} {base B : Nat} {v dv : Value} {rs : List Rp} (h : LogAt w base B v dv rs) (i : Int) :
    Calls Tryz.prog 43 #[.pointer (some ⟨B, 0, none⟩), .int .i64 i] w fun e w' => e = .returned (.int .i64 (Od.taken rs i)) ∧ Below w.heap.size w w' := by
  obtain ⟨A, c, rfl, _, _⟩ := h.dow.form
  have c65 := h.c65
  have hl := h.len
  have hdl := Od.del_len rs
  have CS := Lib.hid (sints19_any (Od.del rs) h.good.del_sorted c A i w (by omega) (fun k hk => by
    obtain ⟨g, c', hge, _, hgl⟩ := h.dow.ne (by intro e; rw [e] at hk; simp at hk)
    injection hge with ea eb ec
    subst ea
    have := h.dow.cell (fun x hx => rfl) k hk 0 (.int .i64 (Od.del rs)[k]) rfl
    rw [Nat.mul_one, Nat.add_zero] at this
    exact ⟨g, rfl, hgl, this⟩))
  unfold Od.taken
  clear h hl hdl
  generalize Od.lt (Od.del rs) i = p at *
  generalize (Od.del rs).length = n at *
  go_enter Tryz.func43, Tryz.ntmps43
  go_wp2_with fail
  refine CS.out.mono ?_
  rintro _ w3 ⟨rfl, hb3⟩
  have HB3 := Lib.hid hb3
  clear hb3
  go_wp2_with fail
  go_ret
  exact ⟨rfl, HB3.out⟩
end Go.Proofs.YtalfnadejpmjnaaGreatDoor
