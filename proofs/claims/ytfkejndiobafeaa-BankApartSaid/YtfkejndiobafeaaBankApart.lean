/- Layer 14's law BankApart: what it returns. -/
import Derived.Test.YtfkejndiobafeaaBankBack
namespace Go.Proofs.Ytfkejndiobafeaa
open Go.RowKit
set_option linter.unusedVariables false
set_option linter.unusedSimpArgs false

set_option maxRecDepth 20000 in
set_option maxHeartbeats 800000 in
theorem bankApart_any (v : Value) (l : List BAct) (x : BAct) (w : World) (hl : ActsV w v l) (hlen : l.length ≤ 9223372036854775807) :
    Calls Try.prog 5 #[v, x.v] w fun e w' => e = .returned (.bool true) ∧ Below w.heap.size w w' := by
  obtain ⟨A, c, rfl, hL⟩ := hl
  obtain ⟨xk, xa, xb, xn⟩ := x
  unfold BAct.v
  have HL := Lib.hid hL
  clear hL
  go_enter Try.func5, Try.ntmps5
  go_wp2_with fail
  refine (bankNew_any _).mono ?_
  rintro e w1 ⟨rfl, hB1, hg1⟩
  have hsz : (w.alloc (.cells #[.int .i64 xk, .int .i64 xa, .int .i64 xb, .int .i64 xn] 30)).heap.size = w.heap.size + 1 := by simp
  rw [hsz] at hB1 ⊢
  have hb1 : Below w.heap.size w w1 := below_of_grown0 ((Below.refl w.heap.size w).alloc (Nat.le_refl _) _) hg1 (by rw [hsz]; omega)
  have hrow1 : Row w1 w.heap.size 30 [.int .i64 xk, .int .i64 xa, .int .i64 xb, .int .i64 xn] := (Row.new w _ _).kept hg1 (by simp)
  have HB1 := Lib.hid hB1
  have Hb1 := Lib.hid hb1
  have Hrow1 := Lib.hid hrow1
  clear hB1 hg1 hb1 hrow1 hsz
  go_wp2_with fail
  refine (awake14_any _).mono ?_
  rintro e w2 ⟨rfl, hb2⟩
  have hB2 := HB1.out.kept (grownBy_of_below hb2 none) (by simp)
  have hrow2 := Hrow1.out.below hb2
  have hb2' := Hb1.out.trans (hb2.mono Hb1.out.size)
  have HB2 := Lib.hid hB2
  have Hb2 := Lib.hid hb2'
  have Hrow2 := Lib.hid hrow2
  clear hB2 hb2 hb2' hrow2
  go_wp2_with fail
  go_loopw [6] (fun i wr => ∃ k : Nat, k ≤ l.length ∧ k ≤ 100 ∧ i = .int .i64 k ∧ BankAt wr (w.heap.size + 1) (acts (l.take k)) ∧ Row wr w.heap.size 30 [.int .i64 xk, .int .i64 xa, .int .i64 xb, .int .i64 xn] ∧ Below w.heap.size w wr) (fun i _ => 100 - (intOf i).toNat)
  case atStart => exact ⟨0, Nat.zero_le _, Nat.zero_le _, rfl, HB2.out, Hrow2.out, Hb2.out⟩
  case round =>
    obtain ⟨k, hk, hk2, rfl, hB, hrow, hb⟩ := hrel
    have HB := Lib.hid hB
    have Hrow := Lib.hid hrow
    have Hb := Lib.hid hb
    clear hB hrow hb
    by_cases hlt : k < l.length ∧ k < 100
    · obtain ⟨hlt, hlt2⟩ := hlt
      have hd1 : decide ((k : Int) < (l.length : Int)) = true := by simp only [decide_eq_true_eq]; omega
      have hd2 : decide ((k : Int) < 100) = true := by simp only [decide_eq_true_eq]; omega
      have hki : (k : Int) < (l.length : Int) := by omega
      have hki2 : (k : Int) < 100 := by omega
      have hne : l ≠ [] := by intro e; rw [e] at hlt; simp at hlt
      obtain ⟨b, off, rfl, hblt, hc⟩ := HL.out hne
      obtain ⟨c0, c1, c2, c3⟩ := hc k hlt
      have c0 := (Hb.out.cell (p := ⟨b, _, none⟩) hblt).trans c0
      have c1 := (Hb.out.cell (p := ⟨b, _, none⟩) hblt).trans c1
      have c2 := (Hb.out.cell (p := ⟨b, _, none⟩) hblt).trans c2
      have c3 := (Hb.out.cell (p := ⟨b, _, none⟩) hblt).trans c3
      obtain ⟨y, hy⟩ : ∃ y, y = l[k] := ⟨_, rfl⟩
      rw [← hy] at c0 c1 c2 c3
      obtain ⟨yk, ya, yb, yn⟩ := y
      have Hy := Lib.hid hy
      clear hc hy hne
      go_wp2_with fail
      refine (do_any ⟨yk, ya, yb, yn⟩ _ _ _ HB.out).mono ?_
      rintro e w3 ⟨rfl, hB3, hg3⟩
      rw [Hy.out, ← acts_succ l k hlt] at hB3
      have hrow3 := Hrow.out.kept hg3 (by simp)
      have hb3 := below_of_grown Hb.out hg3 (by omega) Hb.out.size
      have HB3 := Lib.hid hB3
      have Hrow3 := Lib.hid hrow3
      have Hb3 := Lib.hid hb3
      clear hB3 hg3 hrow3 hb3 c0 c1 c2 c3
      go_wp2_with fail
      refine ⟨⟨k + 1, hlt, hlt2, by go_num, HB3.out, Hrow3.out, Hb3.out⟩, by simp [intOf]; omega⟩
    · have hsel : ((k : Int) < (l.length : Int) ∧ decide (k < l.length) = true ∧ decide ((k : Int) < 100) = false) ∨ ((l.length : Int) ≤ (k : Int) ∧ decide (k < l.length) = false ∧ True) := by
        by_cases h : k < l.length
        · exact .inl ⟨by omega, by simp only [decide_eq_true_eq]; omega, by simp only [decide_eq_false_iff_not]; omega⟩
        · exact .inr ⟨by omega, by simp only [decide_eq_false_iff_not]; omega, trivial⟩
      generalize acts (l.take k) = L at *
      have hok := HB.out.2
      have hlen64 := hok.1
      have hlen64 := hok.1
      have Hok := Lib.hid hok
      have Hlen64 := Lib.hid hlen64
      have hac := Bank.act_cases L ⟨xk, xa, xb, xn⟩ hok
      have hact : ∃ e L1, Bank.act L ⟨xk, xa, xb, xn⟩ = (e, L1) ∧ L1.length = 64 ∧ ∀ i : Nat, L.getD i 0 ≠ L1.getD i 0 → e = 0 ∧ ((i : Int) = xa ∨ (i : Int) ≠ xa ∧ (i : Int) = xb ∧ (2 < xk ∨ xk ≤ 2 ∧ xk < 0)) := by
        have hok1 := act_ok (x := ⟨xk, xa, xb, xn⟩) hok
        rcases hac with ⟨L1, e1, -, hi⟩ | ⟨e, he, e1⟩
        · rw [e1] at hok1
          refine ⟨0, L1, e1, hok1.1, fun i hne => ⟨rfl, ?_⟩⟩
          by_cases h1 : (i : Int) = xa
          · exact .inl h1
          · right
            refine ⟨h1, ?_⟩
            by_cases h2 : (i : Int) = xb
            · refine ⟨h2, ?_⟩
              by_cases h3 : 0 ≤ xk ∧ xk ≤ 2
              · exact absurd (hi i h1 (fun _ => h3)).symm hne
              · omega
            · exact absurd (hi i h1 (fun e => absurd e h2)).symm hne
        · exact ⟨e, L, e1, hlen64, fun i hne => absurd rfl hne⟩
      obtain ⟨e, L1, e1, hl1, hch⟩ := hact
      have E1 := Lib.hid e1
      have Hl1 := Lib.hid hl1
      have Hch := Lib.hid hch
      clear hac hok hlen64 e1 hl1 hch hlt
      rcases hsel with ⟨hd0, hd1, hd2⟩ | ⟨hd0, hd1, hd2⟩
      all_goals
        go_wp2_with fail
        refine (bankAll_any _ _ _ HB.out).mono ?_
        rintro _ w3 ⟨rfl, hS, hg⟩
        have hsz := Hb.out.size
        have hXlt := Hrow.out.lt
        have hBlt := HB.out.1.lt
        have hSB : wr.heap.size ≠ w.heap.size + 1 := by omega
        have hSX : wr.heap.size ≠ w.heap.size := by omega
        have hst : St w w3 (w.heap.size + 1) w.heap.size wr.heap.size ⟨xk, xa, xb, xn⟩ L L := ⟨HB.out.kept hg (by simp), Hrow.out.kept hg (by simp), hS, below_of_grown0 Hb.out hg hsz⟩
        generalize wr.heap.size = S0 at *
        have q0 : w3.cell? ⟨w.heap.size, 0, none⟩ = some (.int .i64 xk) := hst.2.1.cell 0 (by simp)
        have q1 := hst.c1
        have q2 := hst.c2
        have q3 := hst.c3
        have Hst := Lib.hid hst
        clear hst hS hg
        go_wp2_with fail
        refine (do_any ⟨xk, xa, xb, xn⟩ _ _ _ Hst.out.1).mono ?_
        rintro _ w4 ⟨rfl, hB4, hg4⟩
        rw [E1.out] at hB4 ⊢
        have hst4 := Hst.out.step hB4 hg4 (by omega) hSB (by omega)
        have Hst4 := Lib.hid hst4
        clear hB4 hg4 hst4
        go_wp2_with fail
        refine (bankAll_any _ _ _ Hst4.out.1).mono ?_
        rintro _ w5 ⟨rfl, hT, hg5⟩
        have hS5 := Hst4.out.2.2.1.kept hg5 (by simp)
        have hX5 := Hst4.out.2.1.kept hg5 (by simp)
        have hb5 := below_of_grown0 Hst4.out.2.2.2 hg5 Hst4.out.2.2.2.size
        have q0 : w5.cell? ⟨w.heap.size, 0, none⟩ = some (.int .i64 xk) := hX5.cell 0 (by simp)
        have q1 : w5.cell? ⟨w.heap.size, 1, none⟩ = some (.int .i64 xa) := hX5.cell 1 (by simp)
        have q2 : w5.cell? ⟨w.heap.size, 2, none⟩ = some (.int .i64 xb) := hX5.cell 2 (by simp)
        generalize w4.heap.size = T0 at *
        have HS5 := Lib.hid hS5
        have HT := Lib.hid hT
        have Hb5 := Lib.hid hb5
        have Q0 := Lib.hid q0
        have Q1 := Lib.hid q1
        have Q2 := Lib.hid q2
        clear hT hg5 hS5 hX5 hb5 q0 q1 q2
        go_wp2_with fail
        generalize w5 = wo at *
        go_loopw [10] (fun i wr => ∃ q n : Nat, q ≤ 64 ∧ i = .int .i64 q ∧ wr = wo.drewN n) (fun i _ => 64 - (intOf i).toNat)
        case atStart => exact ⟨0, 0, Nat.zero_le _, rfl, rfl⟩
        case round =>
          obtain ⟨q, n, hq, rfl, hw⟩ := hrel
          have q0 := (show wr.cell? ⟨w.heap.size, 0, none⟩ = some (.int .i64 xk) from by rw [hw]; exact Q0.out)
          have q1 := (show wr.cell? ⟨w.heap.size, 1, none⟩ = some (.int .i64 xa) from by rw [hw]; exact Q1.out)
          have q2 := (show wr.cell? ⟨w.heap.size, 2, none⟩ = some (.int .i64 xb) from by rw [hw]; exact Q2.out)
          have hbr : Below w.heap.size w wr := by rw [hw]; exact below_drewN' Hb5.out _
          have hSr : Row wr S0 3 (Is L) := by rw [hw]; exact HS5.out.kept (grownBy_drewN _ _ none) (by simp)
          have hTr : Row wr T0 3 (Is L1) := by rw [hw]; exact HT.out.kept (grownBy_drewN _ _ none) (by simp)
          have Hw := Lib.hid hw
          have Hbr := Lib.hid hbr
          clear hw hbr
          by_cases hql : q < 64
          · have hqi : (q : Int) < 64 := by omega
            have hcs := hSr.num q (by rw [Hlen64.out]; exact hql)
            have hct := hTr.num q (by rw [Hl1.out]; exact hql)
            have hch := Hch.out q
            generalize L.getD q 0 = x at *
            generalize L1.getD q 0 = y at *
            clear hSr hTr
            by_cases hxy : x = y
            · subst hxy
              clear hch
              by_cases h1 : (q : Int) = xa
              · subst h1
                go_wp2_with fail
                go_quiet (fail)
                go_wp2_with fail
                exact ⟨⟨q + 1, n + nq, hql, by go_num, by rw [Hw.out]; exact World.drewN_drewN _ _ _⟩, by simp [intOf]; omega⟩
              · have he1 : ((q : Int) == xa) = false := by simpa using h1
                clear h1
                by_cases h2 : (q : Int) = xb
                · subst h2
                  by_cases h3 : 2 < xk
                  · have he3 : decide (2 < xk) = true := by simpa using h3
                    go_wp2_with fail
                    go_quiet (fail)
                    go_wp2_with fail
                    exact ⟨⟨q + 1, n + nq, hql, by go_num, by rw [Hw.out]; exact World.drewN_drewN _ _ _⟩, by simp [intOf]; omega⟩
                  · have he3 : decide (2 < xk) = false := by simpa using h3
                    by_cases h4 : xk < 0
                    · have he4 : decide (xk < 0) = true := by simpa using h4
                      go_wp2_with fail
                      go_quiet (fail)
                      go_wp2_with fail
                      exact ⟨⟨q + 1, n + nq, hql, by go_num, by rw [Hw.out]; exact World.drewN_drewN _ _ _⟩, by simp [intOf]; omega⟩
                    · have he4 : decide (xk < 0) = false := by simpa using h4
                      go_wp2_with fail
                      go_quiet (fail)
                      go_wp2_with fail
                      exact ⟨⟨q + 1, n + nq, hql, by go_num, by rw [Hw.out]; exact World.drewN_drewN _ _ _⟩, by simp [intOf]; omega⟩
                · have he2 : ((q : Int) == xb) = false := by simpa using h2
                  clear h2
                  go_wp2_with fail
                  go_quiet (fail)
                  go_wp2_with fail
                  exact ⟨⟨q + 1, n + nq, hql, by go_num, by rw [Hw.out]; exact World.drewN_drewN _ _ _⟩, by simp [intOf]; omega⟩
            · obtain ⟨rfl, hto⟩ := hch hxy
              have hd : (x != y) = true := by simpa using hxy
              have hd' : (x == y) = false := by simpa using hxy
              clear hch hxy
              rcases hto with h1 | ⟨h1, h2, h3 | ⟨h3, h4⟩⟩
              · subst h1
                go_wp2_with fail
                go_quiet (fail)
                go_wp2_with fail
                exact ⟨⟨q + 1, n + nq, hql, by go_num, by rw [Hw.out]; exact World.drewN_drewN _ _ _⟩, by simp [intOf]; omega⟩
              · subst h2
                have he1 : ((q : Int) == xa) = false := by simpa using h1
                clear h1
                go_wp2_with fail
                go_quiet (fail)
                go_wp2_with fail
                exact ⟨⟨q + 1, n + nq, hql, by go_num, by rw [Hw.out]; exact World.drewN_drewN _ _ _⟩, by simp [intOf]; omega⟩
              · subst h2
                have he1 : ((q : Int) == xa) = false := by simpa using h1
                have he3 : decide (2 < xk) = false := by simp only [decide_eq_false_iff_not]; omega
                clear h1
                go_wp2_with fail
                go_quiet (fail)
                go_wp2_with fail
                exact ⟨⟨q + 1, n + nq, hql, by go_num, by rw [Hw.out]; exact World.drewN_drewN _ _ _⟩, by simp [intOf]; omega⟩
          · obtain rfl : q = 64 := by omega
            clear hSr hTr
            go_wp2_with fail
            go_ret
            exact ⟨rfl, Hbr.out⟩
end Go.Proofs.Ytfkejndiobafeaa
