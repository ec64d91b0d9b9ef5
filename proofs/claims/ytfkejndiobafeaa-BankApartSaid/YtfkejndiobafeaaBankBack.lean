/- Layer 14's law BankBack: what it returns. -/
import Derived.Test.YtfkejndiobafeaaBankCases
namespace Go.Proofs.Ytfkejndiobafeaa
open Go.RowKit
set_option linter.unusedVariables false
set_option linter.unusedSimpArgs false

/-- where the law stands: the bank at B holds L, the call lies at X, what was there first at S -/
def St (w0 W : World) (B X S : Nat) (x : BAct) (L0 L : List Int) : Prop :=
  BankAt W B L ∧ Row W X 30 [.int .i64 x.kind, .int .i64 x.a, .int .i64 x.b, .int .i64 x.n] ∧ Row W S 3 (Is L0) ∧ Below w0.heap.size w0 W
theorem St.step {w0 W W' : World} {B X S : Nat} {x : BAct} {L0 L L' : List Int} (h : St w0 W B X S x L0 L) (hB : BankAt W' B L') (hg : W.grownBy W' (some B)) (h1 : X ≠ B) (h2 : S ≠ B) (h3 : w0.heap.size ≤ B) : St w0 W' B X S x L0 L' :=
  ⟨hB, h.2.1.kept hg (by simpa using h1), h.2.2.1.kept hg (by simpa using h2), below_of_grown h.2.2.2 hg h3 h.2.2.2.size⟩
theorem St.c1 {w0 W : World} {B X S : Nat} {x : BAct} {L0 L : List Int} (h : St w0 W B X S x L0 L) : W.cell? ⟨X, 1, none⟩ = some (.int .i64 x.a) := h.2.1.cell 1 (by simp)
theorem St.c2 {w0 W : World} {B X S : Nat} {x : BAct} {L0 L : List Int} (h : St w0 W B X S x L0 L) : W.cell? ⟨X, 2, none⟩ = some (.int .i64 x.b) := h.2.1.cell 2 (by simp)
theorem St.c3 {w0 W : World} {B X S : Nat} {x : BAct} {L0 L : List Int} (h : St w0 W B X S x L0 L) : W.cell? ⟨X, 3, none⟩ = some (.int .i64 x.n) := h.2.1.cell 3 (by simp)

set_option maxRecDepth 20000 in
set_option maxHeartbeats 800000 in
theorem bankBack_any (v : Value) (l : List BAct) (x : BAct) (w : World) (hl : ActsV w v l) (hlen : l.length ≤ 9223372036854775807) :
    Calls Try.prog 6 #[v, x.v] w fun e w' => e = .returned (.bool true) ∧ Below w.heap.size w w' := by
  obtain ⟨A, c, rfl, hL⟩ := hl
  obtain ⟨xk, xa, xb, xn⟩ := x
  unfold BAct.v
  have HL := Lib.hid hL
  clear hL
  go_enter Try.func6, Try.ntmps6
  go_wp2_with fail
  refine (bankNew_any _).mono ?_
  rintro e w1 ⟨rfl, hB1, hg1⟩
  have hsz : (w.alloc (.cells #[.int .i64 xk, .int .i64 xa, .int .i64 xb, .int .i64 xn] 30)).heap.size = w.heap.size + 1 := by simp
  rw [hsz] at hB1 ⊢
  have hb1 : Below w.heap.size w w1 := below_of_grown0 ((Below.refl w.heap.size w).alloc (Nat.le_refl _) _) hg1 (by rw [hsz]; omega)
  have hrow1 : Row w1 w.heap.size 30 [.int .i64 xk, .int .i64 xa, .int .i64 xb, .int .i64 xn] := (Row.new w _ _).kept hg1 (by simp)
  have HB1 := Lib.hid hB1
  have Hb1 := Lib.hid hb1
  have Hrow1 := Lib.hid hrow1
  clear hB1 hg1 hb1 hrow1 hsz
  go_wp2_with fail
  refine (awake14_any _).mono ?_
  rintro e w2 ⟨rfl, hb2⟩
  have hB2 := HB1.out.kept (grownBy_of_below hb2 none) (by simp)
  have hrow2 := Hrow1.out.below hb2
  have hb2' := Hb1.out.trans (hb2.mono Hb1.out.size)
  have HB2 := Lib.hid hB2
  have Hb2 := Lib.hid hb2'
  have Hrow2 := Lib.hid hrow2
  clear hB2 hb2 hb2' hrow2
  go_wp2_with fail
  go_loopw [6] (fun i wr => ∃ k : Nat, k ≤ l.length ∧ k ≤ 100 ∧ i = .int .i64 k ∧ BankAt wr (w.heap.size + 1) (acts (l.take k)) ∧ Row wr w.heap.size 30 [.int .i64 xk, .int .i64 xa, .int .i64 xb, .int .i64 xn] ∧ Below w.heap.size w wr) (fun i _ => 100 - (intOf i).toNat)
  case atStart => exact ⟨0, Nat.zero_le _, Nat.zero_le _, rfl, HB2.out, Hrow2.out, Hb2.out⟩
  case round =>
    obtain ⟨k, hk, hk2, rfl, hB, hrow, hb⟩ := hrel
    have HB := Lib.hid hB
    have Hrow := Lib.hid hrow
    have Hb := Lib.hid hb
    clear hB hrow hb
    by_cases hlt : k < l.length ∧ k < 100
    · obtain ⟨hlt, hlt2⟩ := hlt
      have hd1 : decide ((k : Int) < (l.length : Int)) = true := by simp only [decide_eq_true_eq]; omega
      have hd2 : decide ((k : Int) < 100) = true := by simp only [decide_eq_true_eq]; omega
      have hki : (k : Int) < (l.length : Int) := by omega
      have hki2 : (k : Int) < 100 := by omega
      have hne : l ≠ [] := by intro e; rw [e] at hlt; simp at hlt
      obtain ⟨b, off, rfl, hblt, hc⟩ := HL.out hne
      obtain ⟨c0, c1, c2, c3⟩ := hc k hlt
      have c0 := (Hb.out.cell (p := ⟨b, _, none⟩) hblt).trans c0
      have c1 := (Hb.out.cell (p := ⟨b, _, none⟩) hblt).trans c1
      have c2 := (Hb.out.cell (p := ⟨b, _, none⟩) hblt).trans c2
      have c3 := (Hb.out.cell (p := ⟨b, _, none⟩) hblt).trans c3
      obtain ⟨y, hy⟩ : ∃ y, y = l[k] := ⟨_, rfl⟩
      rw [← hy] at c0 c1 c2 c3
      obtain ⟨yk, ya, yb, yn⟩ := y
      have Hy := Lib.hid hy
      clear hc hy hne
      go_wp2_with fail
      refine (do_any ⟨yk, ya, yb, yn⟩ _ _ _ HB.out).mono ?_
      rintro e w3 ⟨rfl, hB3, hg3⟩
      rw [Hy.out, ← acts_succ l k hlt] at hB3
      have hrow3 := Hrow.out.kept hg3 (by simp)
      have hb3 := below_of_grown Hb.out hg3 (by omega) Hb.out.size
      have HB3 := Lib.hid hB3
      have Hrow3 := Lib.hid hrow3
      have Hb3 := Lib.hid hb3
      clear hB3 hg3 hrow3 hb3 c0 c1 c2 c3
      go_wp2_with fail
      refine ⟨⟨k + 1, hlt, hlt2, by go_num, HB3.out, Hrow3.out, Hb3.out⟩, by simp [intOf]; omega⟩
    · have hsel : ((k : Int) < (l.length : Int) ∧ decide (k < l.length) = true ∧ decide ((k : Int) < 100) = false) ∨ ((l.length : Int) ≤ (k : Int) ∧ decide (k < l.length) = false ∧ True) := by
        by_cases h : k < l.length
        · exact .inl ⟨by omega, by simp only [decide_eq_true_eq]; omega, by simp only [decide_eq_false_iff_not]; omega⟩
        · exact .inr ⟨by omega, by simp only [decide_eq_false_iff_not]; omega, trivial⟩
      generalize acts (l.take k) = L at *
      have hok := HB.out.2
      have hlen64 := hok.1
      have hpc := Bank.put_cases L xa xn hok
      have hmc := Bank.move_cases L xa xb xn hok
      have Hok := Lib.hid hok
      have Hlen64 := Lib.hid hlen64
      clear hok hlen64
      have rest : ∀ (W : World), True := fun _ => trivial
      clear hlt
      rcases hsel with ⟨hd0, hd1, hd2⟩ | ⟨hd0, hd1, hd2⟩
      all_goals
        rcases hpc with ⟨L1, e1, e2, -, -⟩ | ⟨e, he, e1⟩
        all_goals
          rcases hmc with ⟨M1, f1, f2, -, -⟩ | ⟨f, hf, f1⟩
          all_goals
            have E1 := Lib.hid e1
            have F1 := Lib.hid f1
            clear e1 f1
            first | (have E2 := Lib.hid e2; clear e2) | (have he' : (e == 0) = false := by simpa using he)
            first | (have F2 := Lib.hid f2; clear f2) | (have hf' : (f != 0) = true := by simpa using hf)
            go_wp2_with fail
            refine (bankAll_any _ _ _ HB.out).mono ?_
            rintro _ w3 ⟨rfl, hS, hg⟩
            have hsz := Hb.out.size
            have hXlt := Hrow.out.lt
            have hBlt := HB.out.1.lt
            have hSB : wr.heap.size ≠ w.heap.size + 1 := by omega
            have hst : St w w3 (w.heap.size + 1) w.heap.size wr.heap.size ⟨xk, xa, xb, xn⟩ L L := ⟨HB.out.kept hg (by simp), Hrow.out.kept hg (by simp), hS, below_of_grown0 Hb.out hg hsz⟩
            generalize wr.heap.size = S0 at *
            have q1 := hst.c1
            have q2 := hst.c2
            have q3 := hst.c3
            have Hst := Lib.hid hst
            clear hst hS hg
            go_wp2_with fail
            refine (bankPut_any _ _ _ _ _ Hst.out.1).mono ?_
            rintro _ w4 ⟨rfl, hB4, hg4⟩
            rw [E1.out] at hB4 ⊢
            have hst4 := Hst.out.step hB4 hg4 (by omega) hSB (by omega)
            have q1 := hst4.c1
            have q2 := hst4.c2
            have q3 := hst4.c3
            have Hst4 := Lib.hid hst4
            clear hB4 hg4 hst4
            first
              | (have E2' := E2
                 go_wp2_with fail
                 refine (bankTake_any _ _ _ _ _ Hst4.out.1).mono ?_
                 rintro _ w5 ⟨rfl, hB5, hg5⟩
                 rw [E2.out] at hB5 ⊢
                 have hst5 := Hst4.out.step hB5 hg5 (by omega) hSB (by omega)
                 have q1 := hst5.c1
                 have q2 := hst5.c2
                 have q3 := hst5.c3
                 have Hst5 := Lib.hid hst5
                 clear hB5 hg5 hst5
                 go_wp2_with fail)
              | (have Hst5 := Hst4
                 go_wp2_with fail)
            refine (bankMove_any _ _ _ _ _ _ Hst5.out.1).mono ?_
            rintro _ w6 ⟨rfl, hB6, hg6⟩
            rw [F1.out] at hB6 ⊢
            have hst6 := Hst5.out.step hB6 hg6 (by omega) hSB (by omega)
            have q1 := hst6.c1
            have q2 := hst6.c2
            have q3 := hst6.c3
            have Hst6 := Lib.hid hst6
            clear hB6 hg6 hst6
            first
              | (have F2' := F2
                 go_wp2_with fail
                 refine (bankMove_any _ _ _ _ _ _ Hst6.out.1).mono ?_
                 rintro _ w7 ⟨rfl, hB7, hg7⟩
                 rw [F2.out] at hB7 ⊢
                 have hst7 := Hst6.out.step hB7 hg7 (by omega) hSB (by omega)
                 have q1 := hst7.c1
                 have Hst7 := Lib.hid hst7
                 clear hB7 hg7 hst7
                 go_wp2_with fail)
              | (have Hst7 := Hst6
                 go_wp2_with fail)
            refine (bankAll_any _ _ _ Hst7.out.1).mono ?_
            rintro _ w8 ⟨rfl, hS8, hg8⟩
            have hb8 := below_of_grown0 Hst7.out.2.2.2 hg8 Hst7.out.2.2.2.size
            have n1 : NumsV w8 (.slice (some ⟨S0, 0, none⟩) 64 64) L := by
              have := NumsV.row (c := 64) (Hst7.out.2.2.1.kept hg8 (by simp))
              rw [Hlen64.out] at this
              exact this
            have n2 := NumsV.row (c := 64) hS8
            rw [Hlen64.out] at n2
            have N1 := Lib.hid n1
            have N2 := Lib.hid n2
            have Hb8 := Lib.hid hb8
            clear n1 n2 hb8 hS8 hg8
            go_wp2_with fail
            refine (numbers_any _ _ _ _ _ N1.out N2.out (by rw [Hlen64.out]; decide) (by rw [Hlen64.out]; decide)).mono ?_
            rintro _ w9 ⟨rfl, n9, rfl⟩
            rw [decide_eq_true (rfl : L = L)]
            go_wp2_with fail
            go_ret
            exact ⟨rfl, below_drewN' Hb8.out _⟩
end Go.Proofs.Ytfkejndiobafeaa
