/- notes: batchMayBe. -/
import Derived.Test.YtdekcicgiflnbaaDoorNoBid2
namespace Go.Proofs.YtdekcicgiflnbaaDoor
open Go.RowKit
set_option linter.unusedVariables false
set_option linter.unusedSimpArgs false

/-- parts in memory -/
def PartsAt (w : World) (B : Nat) (A : Option Addr) (P : List Pt) : Prop :=
  P ≠ [] → ∃ b off, A = some ⟨b, off, none⟩ ∧ b < B ∧ ∀ i (h : i < P.length), w.cell? ⟨b, off + i * 2, none⟩ = some (.bool (P[i]).1) ∧ w.cell? ⟨b, off + i * 2 + 1, none⟩ = some (S (P[i]).2)
theorem PartsAt.below {w w' : World} {B : Nat} {A : Option Addr} {P : List Pt} (h : PartsAt w B A P) (hb : Below B w w') : PartsAt w' B A P := fun hne => by
  obtain ⟨b, off, h1, h2, h3⟩ := h hne
  exact ⟨b, off, h1, h2, fun i hi => ⟨(hb.cell (p := ⟨b, off + i * 2, none⟩) h2).trans (h3 i hi).1, (hb.cell (p := ⟨b, off + i * 2 + 1, none⟩) h2).trans (h3 i hi).2⟩⟩
theorem PartsAt.grown {w w' : World} {B : Nat} {A : Option Addr} {P : List Pt} {r : Option Nat} (h : PartsAt w B A P) (hg : w.grownBy w' r) (hr : ∀ k, r = some k → B ≤ k) : PartsAt w' B A P := fun hne => by
  obtain ⟨b, off, h1, h2, h3⟩ := h hne
  have hne : some b ≠ r := fun e => by have := hr b e.symm; omega
  exact ⟨b, off, h1, h2, fun i hi => ⟨hg.cell (h3 i hi).1 hne, hg.cell (h3 i hi).2 hne⟩⟩
theorem PartsAt.mono {w : World} {B B' : Nat} {A : Option Addr} {P : List Pt} (h : PartsAt w B A P) (hB : B ≤ B') : PartsAt w B' A P := fun hne => by
  obtain ⟨b, off, h1, h2, h3⟩ := h hne
  exact ⟨b, off, h1, by omega, h3⟩
theorem part_info : (Tryd.prog.info? 98).map (·.size) = some 2 := by kernel_rfl
/-- a batch's cells -/
def Bt.cells (b : Bt) (A : Option Addr) (cap : Nat) : List Value := [.int .i64 b.seq, .int .i64 b.first, .int .i64 b.before, .slice A b.parts.length cap]
theorem pt_ok_iff (d : Bool) (t : No.T8) : Pt.ok (d, t) = (decide (t.length ≤ 656) && !(d && !t.isEmpty)) := rfl
set_option maxRecDepth 20000 in
theorem batchMayBe_0 (b : Bt) (A : Option Addr) (cap : Nat) (w : World) (h0 : Tx.num b.seq = false) :
    Calls Tryd.prog 82 #[.agg (b.cells A cap).toArray] w fun e w' => e = .returned (.bool false) ∧ Below w.heap.size w w' := by
  unfold Bt.cells
  have N0 : Hid (∀ W, Calls Tryd.prog 112 #[.int .i64 b.seq] W fun e w' => e = .returned (.bool false) ∧ W = w') := fun W => by have := nnumber_any b.seq W; rw [h0] at this; exact this
  clear h0
  go_enter Tryd.func82, Tryd.ntmps82
  go_wp2_with fail
  refine (N0.out _).mono ?_
  rintro _ w1 ⟨rfl, rfl⟩
  go_wp2_with fail
  go_ret
  exact ⟨rfl, (Below.refl w.heap.size w).alloc (Nat.le_refl _) _⟩
set_option maxRecDepth 20000 in
theorem batchMayBe_1 (b : Bt) (A : Option Addr) (cap : Nat) (w : World) (h0 : Tx.num b.seq = true) (h1 : Tx.num b.first = false) :
    Calls Tryd.prog 82 #[.agg (b.cells A cap).toArray] w fun e w' => e = .returned (.bool false) ∧ Below w.heap.size w w' := by
  unfold Bt.cells
  have N0 : Hid (∀ W, Calls Tryd.prog 112 #[.int .i64 b.seq] W fun e w' => e = .returned (.bool true) ∧ W = w') := fun W => by have := nnumber_any b.seq W; rw [h0] at this; exact this
  have N1 : Hid (∀ W, Calls Tryd.prog 112 #[.int .i64 b.first] W fun e w' => e = .returned (.bool false) ∧ W = w') := fun W => by have := nnumber_any b.first W; rw [h1] at this; exact this
  clear h0 h1
  go_enter Tryd.func82, Tryd.ntmps82
  go_wp2_with fail
  refine (N0.out _).mono ?_
  rintro _ w1 ⟨rfl, rfl⟩
  go_wp2_with fail
  refine (N1.out _).mono ?_
  rintro _ w1 ⟨rfl, rfl⟩
  go_wp2_with fail
  go_ret
  exact ⟨rfl, (Below.refl w.heap.size w).alloc (Nat.le_refl _) _⟩
set_option maxRecDepth 20000 in
theorem batchMayBe_2 (b : Bt) (A : Option Addr) (cap : Nat) (w : World) (h0 : Tx.num b.seq = true) (h1 : Tx.num b.first = true) (h2 : Tx.num b.before = false) :
    Calls Tryd.prog 82 #[.agg (b.cells A cap).toArray] w fun e w' => e = .returned (.bool false) ∧ Below w.heap.size w w' := by
  unfold Bt.cells
  have N0 : Hid (∀ W, Calls Tryd.prog 112 #[.int .i64 b.seq] W fun e w' => e = .returned (.bool true) ∧ W = w') := fun W => by have := nnumber_any b.seq W; rw [h0] at this; exact this
  have N1 : Hid (∀ W, Calls Tryd.prog 112 #[.int .i64 b.first] W fun e w' => e = .returned (.bool true) ∧ W = w') := fun W => by have := nnumber_any b.first W; rw [h1] at this; exact this
  have N2 : Hid (∀ W, Calls Tryd.prog 112 #[.int .i64 b.before] W fun e w' => e = .returned (.bool false) ∧ W = w') := fun W => by have := nnumber_any b.before W; rw [h2] at this; exact this
  clear h0 h1 h2
  go_enter Tryd.func82, Tryd.ntmps82
  go_wp2_with fail
  refine (N0.out _).mono ?_
  rintro _ w1 ⟨rfl, rfl⟩
  go_wp2_with fail
  refine (N1.out _).mono ?_
  rintro _ w1 ⟨rfl, rfl⟩
  go_wp2_with fail
  refine (N2.out _).mono ?_
  rintro _ w1 ⟨rfl, rfl⟩
  go_wp2_with fail
  go_ret
  exact ⟨rfl, (Below.refl w.heap.size w).alloc (Nat.le_refl _) _⟩
set_option maxRecDepth 20000 in
set_option maxHeartbeats 1600000 in
theorem batchMayBe_3 (b : Bt) (A : Option Addr) (cap : Nat) (w : World) (h0 : Tx.num b.seq = true) (h1 : Tx.num b.first = true) (h2 : Tx.num b.before = true) (hP : PartsAt w w.heap.size A b.parts) :
    Calls Tryd.prog 82 #[.agg (b.cells A cap).toArray] w fun e w' => e = .returned (.bool (decide (b.parts.length ≤ 512) && b.parts.all Pt.ok)) ∧ Below w.heap.size w w' := by
  unfold Bt.cells
  have N0 : Hid (∀ W, Calls Tryd.prog 112 #[.int .i64 b.seq] W fun e w' => e = .returned (.bool true) ∧ W = w') := fun W => by have := nnumber_any b.seq W; rw [h0] at this; exact this
  have N1 : Hid (∀ W, Calls Tryd.prog 112 #[.int .i64 b.first] W fun e w' => e = .returned (.bool true) ∧ W = w') := fun W => by have := nnumber_any b.first W; rw [h1] at this; exact this
  have N2 : Hid (∀ W, Calls Tryd.prog 112 #[.int .i64 b.before] W fun e w' => e = .returned (.bool true) ∧ W = w') := fun W => by have := nnumber_any b.before W; rw [h2] at this; exact this
  generalize b.parts = P at *
  obtain ⟨n, hn⟩ : ∃ n, n = P.length := ⟨_, rfl⟩
  obtain ⟨F, hF⟩ : ∃ F, F = (decide (P.length ≤ 512) && P.all Pt.ok) := ⟨_, rfl⟩
  rw [← hF, ← hn]
  have HN := Lib.hid hn
  have HF := Lib.hid hF
  have HP := Lib.hid hP
  clear h0 h1 h2 hn hF hP
  by_cases hm : n ≤ 512
  · have hmi : ¬ ((512 : Int) < (n : Int)) := by omega
    have Hb0 := Lib.hid ((Below.refl w.heap.size w).alloc (Nat.le_refl _) (.cells #[.int .i64 b.seq, .int .i64 b.first, .int .i64 b.before, .slice A n cap] 55))
    go_enter Tryd.func82, Tryd.ntmps82
    go_wp2_with fail
    refine (N0.out _).mono ?_
    rintro _ w1 ⟨rfl, rfl⟩
    go_wp2_with fail
    refine (N1.out _).mono ?_
    rintro _ w1 ⟨rfl, rfl⟩
    go_wp2_with fail
    refine (N2.out _).mono ?_
    rintro _ w1 ⟨rfl, rfl⟩
    go_wp2_with fail
    go_loopw [30] (fun i wr => ∃ k : Nat, k ≤ n ∧ i = .int .i64 k ∧ (∀ j (h : j < P.length), j < k → Pt.ok P[j] = true) ∧ Below w.heap.size w wr) (fun i _ => n - (intOf i).toNat)
    case atStart => exact ⟨0, Nat.zero_le _, rfl, fun j h h1 => by omega, Hb0.out⟩
    case round =>
      obtain ⟨k, hk, rfl, hall, hbr⟩ := hrel
      have Hall := Lib.hid hall
      have Hbr := Lib.hid hbr
      clear hall hbr Hb0
      by_cases hkn : k < n
      · have hki : (k : Int) < (n : Int) := by omega
        have hkl : k < P.length := by rw [← HN.out]; exact hkn
        obtain ⟨bb, off, rfl, hbb, hc⟩ := (HP.out.below Hbr.out) (by intro e; rw [e] at hkl; simp at hkl)
        obtain ⟨c0, c1⟩ := hc k hkl
        obtain ⟨d, t, hdt⟩ : ∃ d t, P[k] = (d, t) := ⟨_, _, rfl⟩
        rw [hdt] at c0 c1
        simp only at c0 c1
        have Hdt := Lib.hid hdt
        have hok := pt_ok_iff d t
        have Hba := Lib.hid (Hbr.out.alloc Hbr.out.size (.cells #[.bool d, S t] 98))
        clear hc hdt
        by_cases ht : t.length ≤ 656
        · have hti : ¬ ((656 : Int) < (t.length : Int)) := by omega
          rw [decide_eq_true ht, Bool.true_and] at hok
          rcases Bool.eq_false_or_eq_true d with hd | hd
          · subst hd
            rcases Bool.eq_false_or_eq_true t.isEmpty with hte | hte
            · obtain rfl : t = [] := List.isEmpty_iff.1 hte
              have hall2 : ∀ j (h : j < P.length), j < k + 1 → Pt.ok P[j] = true := fun j h hj => by
                by_cases e : j = k
                · subst e; rw [Hdt.out, hok]; rfl
                · exact Hall.out j h (by omega)
              have Hall2 := Lib.hid hall2
              clear hall2 hok hte
              go_wp2_with fail
              refine ⟨⟨k + 1, hkn, by go_num, Hall2.out, Hba.out⟩, by simp [intOf]; omega⟩
            · have hFf : F = false := by
                rw [HF.out, Bool.and_eq_false_iff]
                refine .inr ?_
                rw [List.all_eq_false]
                exact ⟨P[k], List.getElem_mem _, by rw [Hdt.out, hok, hte]; simp⟩
              have HFf := Lib.hid hFf
              clear hFf hok
              go_wp2_with fail
              go_ret
              exact ⟨by rw [HFf.out]; rfl, Hba.out⟩
          · subst hd
            have hall2 : ∀ j (h : j < P.length), j < k + 1 → Pt.ok P[j] = true := fun j h hj => by
              by_cases e : j = k
              · subst e; rw [Hdt.out, hok]; rfl
              · exact Hall.out j h (by omega)
            have Hall2 := Lib.hid hall2
            clear hall2 hok
            go_wp2_with fail
            refine ⟨⟨k + 1, hkn, by go_num, Hall2.out, Hba.out⟩, by simp [intOf]; omega⟩
        · have hti : ((656 : Int) < (t.length : Int)) := by omega
          have hFf : F = false := by
            rw [HF.out, Bool.and_eq_false_iff]
            refine .inr ?_
            rw [List.all_eq_false]
            exact ⟨P[k], List.getElem_mem _, by rw [Hdt.out, hok, decide_eq_false ht]; simp⟩
          have HFf := Lib.hid hFf
          clear hFf hok
          go_wp2_with fail
          go_ret
          exact ⟨by rw [HFf.out]; rfl, Hba.out⟩
      · have hki : (n : Int) ≤ (k : Int) := by omega
        obtain rfl : k = n := by omega
        have hFt : F = true := by
          rw [HF.out, ← HN.out, decide_eq_true hm, Bool.true_and, List.all_eq_true]
          intro x hx
          obtain ⟨j, hj, rfl⟩ := List.mem_iff_getElem.1 hx
          exact Hall.out j hj (by rw [HN.out]; exact hj)
        have HFt := Lib.hid hFt
        clear hFt
        go_wp2_with fail
        go_ret
        exact ⟨by rw [HFt.out]; rfl, Hbr.out⟩
  · have hmi : ((512 : Int) < (n : Int)) := by omega
    have hFf : F = false := by rw [HF.out, ← HN.out, decide_eq_false hm]; rfl
    have HFf := Lib.hid hFf
    clear hFf
    go_enter Tryd.func82, Tryd.ntmps82
    go_wp2_with fail
    refine (N0.out _).mono ?_
    rintro _ w1 ⟨rfl, rfl⟩
    go_wp2_with fail
    refine (N1.out _).mono ?_
    rintro _ w1 ⟨rfl, rfl⟩
    go_wp2_with fail
    refine (N2.out _).mono ?_
    rintro _ w1 ⟨rfl, rfl⟩
    go_wp2_with fail
    go_ret
    exact ⟨by rw [HFf.out]; rfl, (Below.refl w.heap.size w).alloc (Nat.le_refl _) _⟩
end Go.Proofs.YtdekcicgiflnbaaDoor
