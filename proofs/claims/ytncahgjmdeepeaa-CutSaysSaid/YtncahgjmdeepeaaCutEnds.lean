/- Layer 21: CutEnds. -/
import Derived.Test.YtncahgjmdeepeaaCutLaw2
namespace Go.Proofs.Ytncahgjmdeepeaa
open Go.RowKit
set_option linter.unusedVariables false
set_option linter.unusedSimpArgs false

theorem Cut.due_le (r : Cut.Rules) (now : Int) (l : List Rc) : Cut.due r now l ≤ l.length := by
  have h := Cut.fits_le r (lens l)
  simp only [lens, List.length_map] at h
  unfold Cut.due
  split
  · exact h
  · split
    · exact h
    · omega
/-- what is left when nothing is due -/
theorem Cut.due_zero {r : Cut.Rules} {now : Int} {l : List Rc} (hr : Cut.okR r = true) (h0 : 0 ≤ now) (h1 : now ≤ 1099511627776) (h : Cut.due r now l = 0) :
    (l.length : Int) < r.parts ∧ Cut.fits r (lens l) = l.length ∧ ∀ i (hi : i < l.length), ¬ l[i].time ≤ now - r.age ∧ (l[i].kind = 2 → ¬ l[i].time ≤ now - r.lag) := by
  have hr' := Cut.okR_iff.1 hr
  have hle := Cut.fits_le r (lens l)
  simp only [lens, List.length_map] at hle
  cases l with
  | nil => exact ⟨by simp; omega, by unfold Cut.fits; rw [if_pos hr]; rfl, fun i hi => absurd hi (by simp)⟩
  | cons x l' =>
    have hpos : 1 ≤ Cut.fits r (lens (x :: l')) := by
      unfold Cut.fits
      rw [if_pos hr]
      show 1 ≤ Cut.go r.parts (x.body.size :: lens l') 0 r.bytes
      unfold Cut.go
      rw [if_neg (by intro h; rcases h with h | h <;> omega)]
      omega
    unfold Cut.due at h
    split at h
    · omega
    · next hn =>
      split at h
      · omega
      · next ha =>
        simp only [not_or] at hn
        have hfl : Cut.fits r (lens (x :: l')) = (x :: l').length := by
          have := hn.2.1
          simp only [lens] at hle this ⊢
          omega
        have hpar := Cut.fits_parts r (lens (x :: l')) hr
        refine ⟨by have := hn.2.2; omega, hfl, fun i hi => ?_⟩
        have hno : Cut.oldR r now (x :: l')[i] = false := by
          rcases Bool.eq_false_or_eq_true (Cut.oldR r now (x :: l')[i]) with e | e
          · exact absurd (List.any_eq_true.2 ⟨_, List.getElem_mem hi, e⟩) ha
          · exact e
        unfold Cut.oldR Cut.old at hno
        simp only [Bool.or_eq_false_iff, Bool.and_eq_false_iff, decide_eq_false_iff_not] at hno
        obtain ⟨n1, n2⟩ := hno
        refine ⟨by rcases n1 with n1 | n1 <;> omega, fun hk => ?_⟩
        rcases n2 with n2 | n2 | n2
        · exact absurd hk n2
        · omega
        · exact n2

set_option maxRecDepth 20000 in
set_option maxHeartbeats 3200000 in
theorem cutEnds_any (A : Option Addr) (c : Nat) (l : List Rc) (now : Int) (r : Cut.Rules) (w : World) (hl : RcsAt w A l) (hlen : l.length ≤ 8796093022208) (hlc : l.length ≤ c) (hcc : c ≤ 9223372036854775807) (hn0 : -9223372036854775808 ≤ now) (hn1 : now ≤ 9223372036854775807) :
    Calls Try.prog 6 #[.slice A l.length c, .int .i64 now, r.v] w fun e w' => e = .returned (.bool true) ∧ Below w.heap.size w w' := by
  have hzero := fun (L : List Rc) (hr : Cut.okR r = true) (h0 : 0 ≤ now) (h1 : now ≤ 1099511627776) (h : Cut.due r now L = 0) => Cut.due_zero hr h0 h1 h
  obtain ⟨rp, rb, ra, rl⟩ := r
  have hokb := fun h => Cut.okR_iff.1 (h : Cut.okR ⟨rp, rb, ra, rl⟩ = true)
  simp only at hokb hzero
  have DU : Hid (∀ W A c (L : List Rc) (m : Nat), RcsAt W A L → m = L.length → m ≤ 200 → Calls Try.prog 13 #[.slice A m c, .int .i64 now, .agg #[.int .i64 rp, .int .i64 rb, .int .i64 ra, .int .i64 rl]] W fun e w' => e = .returned (.int .i64 (Cut.due ⟨rp, rb, ra, rl⟩ now L)) ∧ Below W.heap.size W w') := fun W A c L m hW hm h2 => by
    rw [hm]; exact cutDue_any A c L now ⟨rp, rb, ra, rl⟩ W hW (by omega) hn1
  have FI : Hid (∀ W A c (L : List Rc) (m : Nat), RcsAt W A L → m = L.length → m ≤ 200 → Calls Try.prog 12 #[.slice A m c, .agg #[.int .i64 rp, .int .i64 rb, .int .i64 ra, .int .i64 rl]] W fun e w' => e = .returned (.int .i64 (Cut.fits ⟨rp, rb, ra, rl⟩ (lens L))) ∧ Below W.heap.size W w') := fun W A c L m hW hm h2 => by
    rw [hm]; exact refFits_any A c L ⟨rp, rb, ra, rl⟩ W hW (by omega)
  have CH : Hid (∀ W ce, checkE ⟨rp, rb, ra, rl⟩ = ce → Calls Try.prog 10 #[.agg #[.int .i64 rp, .int .i64 rb, .int .i64 ra, .int .i64 rl]] W fun e w' => e = .returned (.int .i64 ce) ∧ Below W.heap.size W w') := fun W ce hce => by
    rw [← hce]; exact (refCheck_any ⟨rp, rb, ra, rl⟩ W).mono fun _ _ h => ⟨h.1, below_of_grown h.2⟩
  have hEy : Cut.okR ⟨rp, rb, ra, rl⟩ = true → checkE ⟨rp, rb, ra, rl⟩ = 0 := fun h => if_pos h
  have hEn : ¬ Cut.okR ⟨rp, rb, ra, rl⟩ = true → checkE ⟨rp, rb, ra, rl⟩ = 2 := fun h => if_neg h
  have HEy := Lib.hid hEy
  have HEn := Lib.hid hEn
  have Hzero := Lib.hid hzero
  have Hokb := Lib.hid hokb
  have HL := Lib.hid hl
  clear hzero hokb hEy hEn hl
  unfold Cut.Rules.v
  simp only
  by_cases h200 : 200 < l.length
  · have h200' : (200 : Int) < (l.length : Int) := by omega
    have hm200 : 200 = (l.take 200).length := by rw [List.length_take]; omega
    have HM := Lib.hid hm200
    have HLt := Lib.hid (HL.out.take 200)
    have hcI : (200 : Int) ≤ (c : Int) := by omega
    have hcI2 : (l.length : Int) ≤ (c : Int) := by omega
    clear hm200
    by_cases hok : Cut.okR ⟨rp, rb, ra, rl⟩ = true
    · have hce := HEy.out hok
      have HCE := Lib.hid hce
      clear hce
      by_cases hq0 : now < 0
      · go_enter Try.func6, Try.ntmps6
        go_wp2_with fail
        refine (awake_any _).mono ?_
        rintro _ w1 ⟨rfl, hb1⟩
        have hr1 : Row w1 w.heap.size 24 [.int .i64 rp, .int .i64 rb, .int .i64 ra, .int .i64 rl] := (Row.new w _ _).kept (grownBy_of_below hb1 none) (by simp)
        have hl1 : RcsAt w1 A (l.take 200) := (HLt.out.kept (grownBy_alloc _ _ none)).kept (grownBy_of_below hb1 none)
        have hb1' : Below w.heap.size w w1 := ((Below.refl w.heap.size w).alloc (Nat.le_refl _) _).grown (grownBy_of_below hb1 none) (by simp) (fun k hk => by cases hk)
        have q0 := hr1.cell 0 (by simp)
        have q1 := hr1.cell 1 (by simp)
        have q2 := hr1.cell 2 (by simp)
        have q3 := hr1.cell 3 (by simp)
        simp only [List.getElem_cons_zero, List.getElem_cons_succ] at q0 q1 q2 q3
        have Hr1 := Lib.hid hr1
        have HL1 := Lib.hid hl1
        have Hb1 := Lib.hid hb1'
        clear hr1 hl1 hb1 hb1'
        go_wp2_with fail
        refine (CH.out _ _ HCE.out).mono ?_
        rintro _ w2 ⟨rfl, hb2⟩
        have hb2' := two_below Hb1.out hb2
        have hr2 := Hr1.out.kept (grownBy_of_below hb2 none) (by simp)
        have hl2 := HL1.out.kept (grownBy_of_below hb2 none)
        have Hr2 := Lib.hid hr2
        have HL2 := Lib.hid hl2
        have Hb2 := Lib.hid hb2'
        clear hr2 hl2 hb2 hb2' q0 q1 q2 q3
        go_wp2_with fail
        refine (awake_any _).mono ?_
        rintro _ w3 ⟨rfl, hb3⟩
        have Hb3 := Lib.hid (two_below Hb2.out hb3)
        clear hb3
        go_wp2_with fail
        go_ret
        exact ⟨rfl, Hb3.out⟩
      · have hn0' : 0 ≤ now := by omega
        by_cases hq1 : now ≤ 1099511627776
        · have hn1' : now ≤ 1099511627776 := hq1
          go_enter Try.func6, Try.ntmps6
          go_wp2_with fail
          refine (awake_any _).mono ?_
          rintro _ w1 ⟨rfl, hb1⟩
          have hr1 : Row w1 w.heap.size 24 [.int .i64 rp, .int .i64 rb, .int .i64 ra, .int .i64 rl] := (Row.new w _ _).kept (grownBy_of_below hb1 none) (by simp)
          have hl1 : RcsAt w1 A (l.take 200) := (HLt.out.kept (grownBy_alloc _ _ none)).kept (grownBy_of_below hb1 none)
          have hb1' : Below w.heap.size w w1 := ((Below.refl w.heap.size w).alloc (Nat.le_refl _) _).grown (grownBy_of_below hb1 none) (by simp) (fun k hk => by cases hk)
          have q0 := hr1.cell 0 (by simp)
          have q1 := hr1.cell 1 (by simp)
          have q2 := hr1.cell 2 (by simp)
          have q3 := hr1.cell 3 (by simp)
          simp only [List.getElem_cons_zero, List.getElem_cons_succ] at q0 q1 q2 q3
          have Hr1 := Lib.hid hr1
          have HL1 := Lib.hid hl1
          have Hb1 := Lib.hid hb1'
          clear hr1 hl1 hb1 hb1'
          go_wp2_with fail
          refine (CH.out _ _ HCE.out).mono ?_
          rintro _ w2 ⟨rfl, hb2⟩
          have hb2' := two_below Hb1.out hb2
          have hr2 := Hr1.out.kept (grownBy_of_below hb2 none) (by simp)
          have hl2 := HL1.out.kept (grownBy_of_below hb2 none)
          have Hr2 := Lib.hid hr2
          have HL2 := Lib.hid hl2
          have Hb2 := Lib.hid hb2'
          clear hr2 hl2 hb2 hb2' q0 q1 q2 q3
          go_wp2_with fail
          go_loopw [0, 7] (fun s i wr => ∃ (k m c' : Nat) (A' : Option Addr) (L : List Rc), i = .int .i64 k ∧ s = .slice A' m c' ∧ RcsAt wr A' L ∧ m = L.length ∧ k + m ≤ 200 ∧ m ≤ c' ∧ c' ≤ 9223372036854775807 ∧ Row wr w.heap.size 24 [.int .i64 rp, .int .i64 rb, .int .i64 ra, .int .i64 rl] ∧ Below w.heap.size w wr) (fun _ i _ => 300 - (intOf i).toNat)
          case atStart => exact ⟨0, 200, c, A, (l.take 200), rfl, rfl, HL2.out, HM.out, by omega, by omega, hcc, Hr2.out, Hb2.out⟩
          case round =>
            obtain ⟨k, m, c', A', L, rfl, rfl, hrc, hm, hkm, hmc, hcc', hrow, hbw⟩ := hrel
            clear HL1 HL2 Hr1 Hr2 Hb1 Hb2
            have hk3 : (k : Int) < 300 := by omega
            have q0 := hrow.cell 0 (by simp)
            have q1 := hrow.cell 1 (by simp)
            have q2 := hrow.cell 2 (by simp)
            have q3 := hrow.cell 3 (by simp)
            simp only [List.getElem_cons_zero, List.getElem_cons_succ] at q0 q1 q2 q3
            obtain ⟨n, hn⟩ : ∃ n, n = Cut.due ⟨rp, rb, ra, rl⟩ now L := ⟨_, rfl⟩
            have hnm : n ≤ m := by rw [hn, hm]; exact Cut.due_le _ _ _
            have D : Hid (Calls Try.prog 13 #[.slice A' m c', .int .i64 now, .agg #[.int .i64 rp, .int .i64 rb, .int .i64 ra, .int .i64 rl]] wr fun e w' => e = .returned (.int .i64 (n : Int)) ∧ Below wr.heap.size wr w') := by
              have := DU.out wr A' c' L m hrc hm (by omega)
              rw [← hn] at this
              exact this
            have Hm := Lib.hid hm
            have Hn := Lib.hid hn
            have Hrc := Lib.hid hrc
            have Hrow := Lib.hid hrow
            have Hbw := Lib.hid hbw
            clear hm hn hrc hrow hbw
            go_wp2_with fail
            refine D.out.mono ?_
            rintro _ w4 ⟨rfl, hb4⟩
            have hrc4 := Hrc.out.kept (grownBy_of_below hb4 none)
            have hrow4 := Hrow.out.kept (grownBy_of_below hb4 none) (by simp)
            have Hb4 := Lib.hid (two_below Hbw.out hb4)
            have Hrc4 := Lib.hid hrc4
            have Hrow4 := Lib.hid hrow4
            clear hrc4 hrow4 hb4 q0 q1 q2 q3
            have hn00 : (0 : Int) ≤ (n : Int) := by omega
            have hnm' : (n : Int) ≤ (m : Int) := by omega
            by_cases h0 : n = 0
            · subst h0
              obtain ⟨z1, z2, z3⟩ := Hzero.out L hok hn0' hn1' Hn.out.symm
              have z1' : (m : Int) < rp := by rw [Hm.out]; exact z1
              have z2' : Cut.fits ⟨rp, rb, ra, rl⟩ (lens L) = m := by rw [Hm.out]; exact z2
              have FI' : Hid (∀ W, RcsAt W A' L → Calls Try.prog 12 #[.slice A' m c', .agg #[.int .i64 rp, .int .i64 rb, .int .i64 ra, .int .i64 rl]] W fun e w' => e = .returned (.int .i64 (m : Int)) ∧ Below W.heap.size W w') := fun W hW => by
                have := FI.out W A' c' L m hW Hm.out (by omega)
                rw [z2'] at this
                exact this
              have Z3 := Lib.hid z3
              clear z1 z2 z2' z3
              go_wp2_with fail
              generalize w4 = wo at *
              go_loopw [9] (fun i wr => ∃ j : Nat, j ≤ m ∧ i = .int .i64 j ∧ RcsAt wr A' L ∧ Row wr w.heap.size 24 [.int .i64 rp, .int .i64 rb, .int .i64 ra, .int .i64 rl] ∧ Below w.heap.size w wr) (fun i _ => m - (intOf i).toNat)
              case atStart => exact ⟨0, Nat.zero_le _, rfl, Hrc4.out, Hrow4.out, Hb4.out⟩
              case round =>
                obtain ⟨j, hj, rfl, hrcj, hrowj, hbj⟩ := hrel
                have q0 := hrowj.cell 0 (by simp)
                have q1 := hrowj.cell 1 (by simp)
                have q2 := hrowj.cell 2 (by simp)
                have q3 := hrowj.cell 3 (by simp)
                simp only [List.getElem_cons_zero, List.getElem_cons_succ] at q0 q1 q2 q3
                have Hrcj := Lib.hid hrcj
                have Hrowj := Lib.hid hrowj
                have Hbj := Lib.hid hbj
                clear hrcj hrowj hbj
                by_cases hjm : j < m
                · have hji : (j : Int) < (m : Int) := by omega
                  have hjL : j < L.length := by rw [← Hm.out]; exact hjm
                  obtain ⟨b, off, hA, hblt, hcel⟩ := Hrcj.out (by intro e; rw [e] at hjL; simp at hjL)
                  obtain ⟨hra, hrest, hbody, hone⟩ := hcel j hjL
                  obtain ⟨y1, y2⟩ := Z3.out j hjL
                  obtain ⟨x, hx⟩ : ∃ x, x = L[j] := ⟨_, rfl⟩
                  rw [← hx] at hra y1 y2
                  have ct : wr.cell? ⟨b, off + j * 68 + 2, none⟩ = some (.int .i64 x.time) := hra 2 _ rfl
                  have ck : wr.cell? ⟨b, off + j * 68 + 1, none⟩ = some (.int .i64 x.kind) := hra 1 _ rfl
                  have hok' := Hokb.out hok
                  have e1 : now - ra < x.time := by omega
                  have d1 : decide (x.time ≤ now - ra) = false := by simp only [decide_eq_false_iff_not]; omega
                  subst hA
                  clear hra hrest hbody hone hx hcel hjL y1
                  by_cases hk2 : x.kind = 2
                  · have e2 : now - rl < x.time := by have := y2 hk2; omega
                    have d2 : decide (x.time ≤ now - rl) = false := by simp only [decide_eq_false_iff_not]; omega
                    have d3 : (x.kind == 2) = true := by rw [hk2]; rfl
                    clear y2 hk2
                    go_wp2_with fail
                    go_quiet (fail)
                    go_wp2_with fail
                    refine ⟨⟨j + 1, hjm, by go_num, Hrcj.out.kept (grownBy_drewN _ nq none), Hrowj.out.kept (grownBy_drewN _ nq none) (by simp), below_drewN' Hbj.out _⟩, by simp [intOf]; omega⟩
                  · have d3 : (x.kind == 2) = false := by simpa using hk2
                    clear y2 hk2
                    go_wp2_with fail
                    go_quiet (fail)
                    go_wp2_with fail
                    refine ⟨⟨j + 1, hjm, by go_num, Hrcj.out.kept (grownBy_drewN _ nq none), Hrowj.out.kept (grownBy_drewN _ nq none) (by simp), below_drewN' Hbj.out _⟩, by simp [intOf]; omega⟩
                · have hji : (m : Int) ≤ (j : Int) := by omega
                  go_wp2_with fail
                  refine (FI'.out _ Hrcj.out).mono ?_
                  rintro _ w5 ⟨rfl, hb5⟩
                  have Hb5 := Lib.hid (two_below Hbj.out hb5)
                  clear hb5 q0 q1 q2 q3
                  go_wp2_with fail
                  go_ret
                  exact ⟨rfl, Hb5.out⟩
            · have hnz : ((n : Int) == 0) = false := by simp; omega
              have hn1 : 1 ≤ n := by omega
              have hLne : L ≠ [] := by intro e; have := Hm.out; rw [e] at this; simp at this; omega
              obtain ⟨b, off, hA, hblt, hcel⟩ := Hrc4.out hLne
              subst hA
              clear hcel h0
              by_cases hcn : c' = n
              · subst hcn
                obtain rfl : m = c' := by omega
                have hLd : L.drop m = [] := List.drop_of_length_le (by rw [← Hm.out]; omega)
                go_wp2_with fail
                refine ⟨⟨k + 1, m - m, m - m, some ⟨b, off, none⟩, [], by go_num, ?_, RcsAt.nil _ _, by simp, by omega, by omega, by omega, Hrow4.out, Hb4.out⟩, by simp [intOf]; omega⟩
                simp
              · have hck2 : ¬ (c' : Int) = (n : Int) := by omega
                have hnc : (n : Int) ≤ (c' : Int) := by omega
                have hmc2 : (m : Int) ≤ (c' : Int) := by omega
                go_wp2_with fail
                refine ⟨⟨k + 1, m - n, c' - n, some ⟨b, off + n * 68, none⟩, L.drop n, by go_num, ?_, Hrc4.out.drop n, by rw [List.length_drop, ← Hm.out], by omega, by omega, by omega, Hrow4.out, Hb4.out⟩, by simp [intOf]; omega⟩
                rfl
        · have hq2 : 1099511627776 < now := by omega
          go_enter Try.func6, Try.ntmps6
          go_wp2_with fail
          refine (awake_any _).mono ?_
          rintro _ w1 ⟨rfl, hb1⟩
          have hr1 : Row w1 w.heap.size 24 [.int .i64 rp, .int .i64 rb, .int .i64 ra, .int .i64 rl] := (Row.new w _ _).kept (grownBy_of_below hb1 none) (by simp)
          have hl1 : RcsAt w1 A (l.take 200) := (HLt.out.kept (grownBy_alloc _ _ none)).kept (grownBy_of_below hb1 none)
          have hb1' : Below w.heap.size w w1 := ((Below.refl w.heap.size w).alloc (Nat.le_refl _) _).grown (grownBy_of_below hb1 none) (by simp) (fun k hk => by cases hk)
          have q0 := hr1.cell 0 (by simp)
          have q1 := hr1.cell 1 (by simp)
          have q2 := hr1.cell 2 (by simp)
          have q3 := hr1.cell 3 (by simp)
          simp only [List.getElem_cons_zero, List.getElem_cons_succ] at q0 q1 q2 q3
          have Hr1 := Lib.hid hr1
          have HL1 := Lib.hid hl1
          have Hb1 := Lib.hid hb1'
          clear hr1 hl1 hb1 hb1'
          go_wp2_with fail
          refine (CH.out _ _ HCE.out).mono ?_
          rintro _ w2 ⟨rfl, hb2⟩
          have hb2' := two_below Hb1.out hb2
          have hr2 := Hr1.out.kept (grownBy_of_below hb2 none) (by simp)
          have hl2 := HL1.out.kept (grownBy_of_below hb2 none)
          have Hr2 := Lib.hid hr2
          have HL2 := Lib.hid hl2
          have Hb2 := Lib.hid hb2'
          clear hr2 hl2 hb2 hb2' q0 q1 q2 q3
          go_wp2_with fail
          refine (awake_any _).mono ?_
          rintro _ w3 ⟨rfl, hb3⟩
          have Hb3 := Lib.hid (two_below Hb2.out hb3)
          clear hb3
          go_wp2_with fail
          go_ret
          exact ⟨rfl, Hb3.out⟩
    · have hce := HEn.out hok
      have HCE := Lib.hid hce
      clear hce
      go_enter Try.func6, Try.ntmps6
      go_wp2_with fail
      refine (awake_any _).mono ?_
      rintro _ w1 ⟨rfl, hb1⟩
      have hr1 : Row w1 w.heap.size 24 [.int .i64 rp, .int .i64 rb, .int .i64 ra, .int .i64 rl] := (Row.new w _ _).kept (grownBy_of_below hb1 none) (by simp)
      have hl1 : RcsAt w1 A (l.take 200) := (HLt.out.kept (grownBy_alloc _ _ none)).kept (grownBy_of_below hb1 none)
      have hb1' : Below w.heap.size w w1 := ((Below.refl w.heap.size w).alloc (Nat.le_refl _) _).grown (grownBy_of_below hb1 none) (by simp) (fun k hk => by cases hk)
      have q0 := hr1.cell 0 (by simp)
      have q1 := hr1.cell 1 (by simp)
      have q2 := hr1.cell 2 (by simp)
      have q3 := hr1.cell 3 (by simp)
      simp only [List.getElem_cons_zero, List.getElem_cons_succ] at q0 q1 q2 q3
      have Hr1 := Lib.hid hr1
      have HL1 := Lib.hid hl1
      have Hb1 := Lib.hid hb1'
      clear hr1 hl1 hb1 hb1'
      go_wp2_with fail
      refine (CH.out _ _ HCE.out).mono ?_
      rintro _ w2 ⟨rfl, hb2⟩
      have hb2' := two_below Hb1.out hb2
      have hr2 := Hr1.out.kept (grownBy_of_below hb2 none) (by simp)
      have hl2 := HL1.out.kept (grownBy_of_below hb2 none)
      have Hr2 := Lib.hid hr2
      have HL2 := Lib.hid hl2
      have Hb2 := Lib.hid hb2'
      clear hr2 hl2 hb2 hb2' q0 q1 q2 q3
      go_wp2_with fail
      refine (awake_any _).mono ?_
      rintro _ w3 ⟨rfl, hb3⟩
      have Hb3 := Lib.hid (two_below Hb2.out hb3)
      clear hb3
      go_wp2_with fail
      go_ret
      exact ⟨rfl, Hb3.out⟩
  · obtain ⟨m0, hm0⟩ : ∃ m0, m0 = l.length := ⟨_, rfl⟩
    rw [← hm0] at h200 hlc hlen ⊢
    have h200' : (m0 : Int) ≤ 200 := by omega
    have HM := Lib.hid hm0
    clear hm0
    by_cases hok : Cut.okR ⟨rp, rb, ra, rl⟩ = true
    · have hce := HEy.out hok
      have HCE := Lib.hid hce
      clear hce
      by_cases hq0 : now < 0
      · go_enter Try.func6, Try.ntmps6
        go_wp2_with fail
        refine (awake_any _).mono ?_
        rintro _ w1 ⟨rfl, hb1⟩
        have hr1 : Row w1 w.heap.size 24 [.int .i64 rp, .int .i64 rb, .int .i64 ra, .int .i64 rl] := (Row.new w _ _).kept (grownBy_of_below hb1 none) (by simp)
        have hl1 : RcsAt w1 A l := (HL.out.kept (grownBy_alloc _ _ none)).kept (grownBy_of_below hb1 none)
        have hb1' : Below w.heap.size w w1 := ((Below.refl w.heap.size w).alloc (Nat.le_refl _) _).grown (grownBy_of_below hb1 none) (by simp) (fun k hk => by cases hk)
        have q0 := hr1.cell 0 (by simp)
        have q1 := hr1.cell 1 (by simp)
        have q2 := hr1.cell 2 (by simp)
        have q3 := hr1.cell 3 (by simp)
        simp only [List.getElem_cons_zero, List.getElem_cons_succ] at q0 q1 q2 q3
        have Hr1 := Lib.hid hr1
        have HL1 := Lib.hid hl1
        have Hb1 := Lib.hid hb1'
        clear hr1 hl1 hb1 hb1'
        go_wp2_with fail
        refine (CH.out _ _ HCE.out).mono ?_
        rintro _ w2 ⟨rfl, hb2⟩
        have hb2' := two_below Hb1.out hb2
        have hr2 := Hr1.out.kept (grownBy_of_below hb2 none) (by simp)
        have hl2 := HL1.out.kept (grownBy_of_below hb2 none)
        have Hr2 := Lib.hid hr2
        have HL2 := Lib.hid hl2
        have Hb2 := Lib.hid hb2'
        clear hr2 hl2 hb2 hb2' q0 q1 q2 q3
        go_wp2_with fail
        refine (awake_any _).mono ?_
        rintro _ w3 ⟨rfl, hb3⟩
        have Hb3 := Lib.hid (two_below Hb2.out hb3)
        clear hb3
        go_wp2_with fail
        go_ret
        exact ⟨rfl, Hb3.out⟩
      · have hn0' : 0 ≤ now := by omega
        by_cases hq1 : now ≤ 1099511627776
        · have hn1' : now ≤ 1099511627776 := hq1
          go_enter Try.func6, Try.ntmps6
          go_wp2_with fail
          refine (awake_any _).mono ?_
          rintro _ w1 ⟨rfl, hb1⟩
          have hr1 : Row w1 w.heap.size 24 [.int .i64 rp, .int .i64 rb, .int .i64 ra, .int .i64 rl] := (Row.new w _ _).kept (grownBy_of_below hb1 none) (by simp)
          have hl1 : RcsAt w1 A l := (HL.out.kept (grownBy_alloc _ _ none)).kept (grownBy_of_below hb1 none)
          have hb1' : Below w.heap.size w w1 := ((Below.refl w.heap.size w).alloc (Nat.le_refl _) _).grown (grownBy_of_below hb1 none) (by simp) (fun k hk => by cases hk)
          have q0 := hr1.cell 0 (by simp)
          have q1 := hr1.cell 1 (by simp)
          have q2 := hr1.cell 2 (by simp)
          have q3 := hr1.cell 3 (by simp)
          simp only [List.getElem_cons_zero, List.getElem_cons_succ] at q0 q1 q2 q3
          have Hr1 := Lib.hid hr1
          have HL1 := Lib.hid hl1
          have Hb1 := Lib.hid hb1'
          clear hr1 hl1 hb1 hb1'
          go_wp2_with fail
          refine (CH.out _ _ HCE.out).mono ?_
          rintro _ w2 ⟨rfl, hb2⟩
          have hb2' := two_below Hb1.out hb2
          have hr2 := Hr1.out.kept (grownBy_of_below hb2 none) (by simp)
          have hl2 := HL1.out.kept (grownBy_of_below hb2 none)
          have Hr2 := Lib.hid hr2
          have HL2 := Lib.hid hl2
          have Hb2 := Lib.hid hb2'
          clear hr2 hl2 hb2 hb2' q0 q1 q2 q3
          go_wp2_with fail
          go_loopw [0, 7] (fun s i wr => ∃ (k m c' : Nat) (A' : Option Addr) (L : List Rc), i = .int .i64 k ∧ s = .slice A' m c' ∧ RcsAt wr A' L ∧ m = L.length ∧ k + m ≤ 200 ∧ m ≤ c' ∧ c' ≤ 9223372036854775807 ∧ Row wr w.heap.size 24 [.int .i64 rp, .int .i64 rb, .int .i64 ra, .int .i64 rl] ∧ Below w.heap.size w wr) (fun _ i _ => 300 - (intOf i).toNat)
          case atStart => exact ⟨0, m0, c, A, l, rfl, rfl, HL2.out, HM.out, by omega, by omega, hcc, Hr2.out, Hb2.out⟩
          case round =>
            obtain ⟨k, m, c', A', L, rfl, rfl, hrc, hm, hkm, hmc, hcc', hrow, hbw⟩ := hrel
            clear HL1 HL2 Hr1 Hr2 Hb1 Hb2
            have hk3 : (k : Int) < 300 := by omega
            have q0 := hrow.cell 0 (by simp)
            have q1 := hrow.cell 1 (by simp)
            have q2 := hrow.cell 2 (by simp)
            have q3 := hrow.cell 3 (by simp)
            simp only [List.getElem_cons_zero, List.getElem_cons_succ] at q0 q1 q2 q3
            obtain ⟨n, hn⟩ : ∃ n, n = Cut.due ⟨rp, rb, ra, rl⟩ now L := ⟨_, rfl⟩
            have hnm : n ≤ m := by rw [hn, hm]; exact Cut.due_le _ _ _
            have D : Hid (Calls Try.prog 13 #[.slice A' m c', .int .i64 now, .agg #[.int .i64 rp, .int .i64 rb, .int .i64 ra, .int .i64 rl]] wr fun e w' => e = .returned (.int .i64 (n : Int)) ∧ Below wr.heap.size wr w') := by
              have := DU.out wr A' c' L m hrc hm (by omega)
              rw [← hn] at this
              exact this
            have Hm := Lib.hid hm
            have Hn := Lib.hid hn
            have Hrc := Lib.hid hrc
            have Hrow := Lib.hid hrow
            have Hbw := Lib.hid hbw
            clear hm hn hrc hrow hbw
            go_wp2_with fail
            refine D.out.mono ?_
            rintro _ w4 ⟨rfl, hb4⟩
            have hrc4 := Hrc.out.kept (grownBy_of_below hb4 none)
            have hrow4 := Hrow.out.kept (grownBy_of_below hb4 none) (by simp)
            have Hb4 := Lib.hid (two_below Hbw.out hb4)
            have Hrc4 := Lib.hid hrc4
            have Hrow4 := Lib.hid hrow4
            clear hrc4 hrow4 hb4 q0 q1 q2 q3
            have hn00 : (0 : Int) ≤ (n : Int) := by omega
            have hnm' : (n : Int) ≤ (m : Int) := by omega
            by_cases h0 : n = 0
            · subst h0
              obtain ⟨z1, z2, z3⟩ := Hzero.out L hok hn0' hn1' Hn.out.symm
              have z1' : (m : Int) < rp := by rw [Hm.out]; exact z1
              have z2' : Cut.fits ⟨rp, rb, ra, rl⟩ (lens L) = m := by rw [Hm.out]; exact z2
              have FI' : Hid (∀ W, RcsAt W A' L → Calls Try.prog 12 #[.slice A' m c', .agg #[.int .i64 rp, .int .i64 rb, .int .i64 ra, .int .i64 rl]] W fun e w' => e = .returned (.int .i64 (m : Int)) ∧ Below W.heap.size W w') := fun W hW => by
                have := FI.out W A' c' L m hW Hm.out (by omega)
                rw [z2'] at this
                exact this
              have Z3 := Lib.hid z3
              clear z1 z2 z2' z3
              go_wp2_with fail
              generalize w4 = wo at *
              go_loopw [9] (fun i wr => ∃ j : Nat, j ≤ m ∧ i = .int .i64 j ∧ RcsAt wr A' L ∧ Row wr w.heap.size 24 [.int .i64 rp, .int .i64 rb, .int .i64 ra, .int .i64 rl] ∧ Below w.heap.size w wr) (fun i _ => m - (intOf i).toNat)
              case atStart => exact ⟨0, Nat.zero_le _, rfl, Hrc4.out, Hrow4.out, Hb4.out⟩
              case round =>
                obtain ⟨j, hj, rfl, hrcj, hrowj, hbj⟩ := hrel
                have q0 := hrowj.cell 0 (by simp)
                have q1 := hrowj.cell 1 (by simp)
                have q2 := hrowj.cell 2 (by simp)
                have q3 := hrowj.cell 3 (by simp)
                simp only [List.getElem_cons_zero, List.getElem_cons_succ] at q0 q1 q2 q3
                have Hrcj := Lib.hid hrcj
                have Hrowj := Lib.hid hrowj
                have Hbj := Lib.hid hbj
                clear hrcj hrowj hbj
                by_cases hjm : j < m
                · have hji : (j : Int) < (m : Int) := by omega
                  have hjL : j < L.length := by rw [← Hm.out]; exact hjm
                  obtain ⟨b, off, hA, hblt, hcel⟩ := Hrcj.out (by intro e; rw [e] at hjL; simp at hjL)
                  obtain ⟨hra, hrest, hbody, hone⟩ := hcel j hjL
                  obtain ⟨y1, y2⟩ := Z3.out j hjL
                  obtain ⟨x, hx⟩ : ∃ x, x = L[j] := ⟨_, rfl⟩
                  rw [← hx] at hra y1 y2
                  have ct : wr.cell? ⟨b, off + j * 68 + 2, none⟩ = some (.int .i64 x.time) := hra 2 _ rfl
                  have ck : wr.cell? ⟨b, off + j * 68 + 1, none⟩ = some (.int .i64 x.kind) := hra 1 _ rfl
                  have hok' := Hokb.out hok
                  have e1 : now - ra < x.time := by omega
                  have d1 : decide (x.time ≤ now - ra) = false := by simp only [decide_eq_false_iff_not]; omega
                  subst hA
                  clear hra hrest hbody hone hx hcel hjL y1
                  by_cases hk2 : x.kind = 2
                  · have e2 : now - rl < x.time := by have := y2 hk2; omega
                    have d2 : decide (x.time ≤ now - rl) = false := by simp only [decide_eq_false_iff_not]; omega
                    have d3 : (x.kind == 2) = true := by rw [hk2]; rfl
                    clear y2 hk2
                    go_wp2_with fail
                    go_quiet (fail)
                    go_wp2_with fail
                    refine ⟨⟨j + 1, hjm, by go_num, Hrcj.out.kept (grownBy_drewN _ nq none), Hrowj.out.kept (grownBy_drewN _ nq none) (by simp), below_drewN' Hbj.out _⟩, by simp [intOf]; omega⟩
                  · have d3 : (x.kind == 2) = false := by simpa using hk2
                    clear y2 hk2
                    go_wp2_with fail
                    go_quiet (fail)
                    go_wp2_with fail
                    refine ⟨⟨j + 1, hjm, by go_num, Hrcj.out.kept (grownBy_drewN _ nq none), Hrowj.out.kept (grownBy_drewN _ nq none) (by simp), below_drewN' Hbj.out _⟩, by simp [intOf]; omega⟩
                · have hji : (m : Int) ≤ (j : Int) := by omega
                  go_wp2_with fail
                  refine (FI'.out _ Hrcj.out).mono ?_
                  rintro _ w5 ⟨rfl, hb5⟩
                  have Hb5 := Lib.hid (two_below Hbj.out hb5)
                  clear hb5 q0 q1 q2 q3
                  go_wp2_with fail
                  go_ret
                  exact ⟨rfl, Hb5.out⟩
            · have hnz : ((n : Int) == 0) = false := by simp; omega
              have hn1 : 1 ≤ n := by omega
              have hLne : L ≠ [] := by intro e; have := Hm.out; rw [e] at this; simp at this; omega
              obtain ⟨b, off, hA, hblt, hcel⟩ := Hrc4.out hLne
              subst hA
              clear hcel h0
              by_cases hcn : c' = n
              · subst hcn
                obtain rfl : m = c' := by omega
                have hLd : L.drop m = [] := List.drop_of_length_le (by rw [← Hm.out]; omega)
                go_wp2_with fail
                refine ⟨⟨k + 1, m - m, m - m, some ⟨b, off, none⟩, [], by go_num, ?_, RcsAt.nil _ _, by simp, by omega, by omega, by omega, Hrow4.out, Hb4.out⟩, by simp [intOf]; omega⟩
                simp
              · have hck2 : ¬ (c' : Int) = (n : Int) := by omega
                have hnc : (n : Int) ≤ (c' : Int) := by omega
                have hmc2 : (m : Int) ≤ (c' : Int) := by omega
                go_wp2_with fail
                refine ⟨⟨k + 1, m - n, c' - n, some ⟨b, off + n * 68, none⟩, L.drop n, by go_num, ?_, Hrc4.out.drop n, by rw [List.length_drop, ← Hm.out], by omega, by omega, by omega, Hrow4.out, Hb4.out⟩, by simp [intOf]; omega⟩
                rfl
        · have hq2 : 1099511627776 < now := by omega
          go_enter Try.func6, Try.ntmps6
          go_wp2_with fail
          refine (awake_any _).mono ?_
          rintro _ w1 ⟨rfl, hb1⟩
          have hr1 : Row w1 w.heap.size 24 [.int .i64 rp, .int .i64 rb, .int .i64 ra, .int .i64 rl] := (Row.new w _ _).kept (grownBy_of_below hb1 none) (by simp)
          have hl1 : RcsAt w1 A l := (HL.out.kept (grownBy_alloc _ _ none)).kept (grownBy_of_below hb1 none)
          have hb1' : Below w.heap.size w w1 := ((Below.refl w.heap.size w).alloc (Nat.le_refl _) _).grown (grownBy_of_below hb1 none) (by simp) (fun k hk => by cases hk)
          have q0 := hr1.cell 0 (by simp)
          have q1 := hr1.cell 1 (by simp)
          have q2 := hr1.cell 2 (by simp)
          have q3 := hr1.cell 3 (by simp)
          simp only [List.getElem_cons_zero, List.getElem_cons_succ] at q0 q1 q2 q3
          have Hr1 := Lib.hid hr1
          have HL1 := Lib.hid hl1
          have Hb1 := Lib.hid hb1'
          clear hr1 hl1 hb1 hb1'
          go_wp2_with fail
          refine (CH.out _ _ HCE.out).mono ?_
          rintro _ w2 ⟨rfl, hb2⟩
          have hb2' := two_below Hb1.out hb2
          have hr2 := Hr1.out.kept (grownBy_of_below hb2 none) (by simp)
          have hl2 := HL1.out.kept (grownBy_of_below hb2 none)
          have Hr2 := Lib.hid hr2
          have HL2 := Lib.hid hl2
          have Hb2 := Lib.hid hb2'
          clear hr2 hl2 hb2 hb2' q0 q1 q2 q3
          go_wp2_with fail
          refine (awake_any _).mono ?_
          rintro _ w3 ⟨rfl, hb3⟩
          have Hb3 := Lib.hid (two_below Hb2.out hb3)
          clear hb3
          go_wp2_with fail
          go_ret
          exact ⟨rfl, Hb3.out⟩
    · have hce := HEn.out hok
      have HCE := Lib.hid hce
      clear hce
      go_enter Try.func6, Try.ntmps6
      go_wp2_with fail
      refine (awake_any _).mono ?_
      rintro _ w1 ⟨rfl, hb1⟩
      have hr1 : Row w1 w.heap.size 24 [.int .i64 rp, .int .i64 rb, .int .i64 ra, .int .i64 rl] := (Row.new w _ _).kept (grownBy_of_below hb1 none) (by simp)
      have hl1 : RcsAt w1 A l := (HL.out.kept (grownBy_alloc _ _ none)).kept (grownBy_of_below hb1 none)
      have hb1' : Below w.heap.size w w1 := ((Below.refl w.heap.size w).alloc (Nat.le_refl _) _).grown (grownBy_of_below hb1 none) (by simp) (fun k hk => by cases hk)
      have q0 := hr1.cell 0 (by simp)
      have q1 := hr1.cell 1 (by simp)
      have q2 := hr1.cell 2 (by simp)
      have q3 := hr1.cell 3 (by simp)
      simp only [List.getElem_cons_zero, List.getElem_cons_succ] at q0 q1 q2 q3
      have Hr1 := Lib.hid hr1
      have HL1 := Lib.hid hl1
      have Hb1 := Lib.hid hb1'
      clear hr1 hl1 hb1 hb1'
      go_wp2_with fail
      refine (CH.out _ _ HCE.out).mono ?_
      rintro _ w2 ⟨rfl, hb2⟩
      have hb2' := two_below Hb1.out hb2
      have hr2 := Hr1.out.kept (grownBy_of_below hb2 none) (by simp)
      have hl2 := HL1.out.kept (grownBy_of_below hb2 none)
      have Hr2 := Lib.hid hr2
      have HL2 := Lib.hid hl2
      have Hb2 := Lib.hid hb2'
      clear hr2 hl2 hb2 hb2' q0 q1 q2 q3
      go_wp2_with fail
      refine (awake_any _).mono ?_
      rintro _ w3 ⟨rfl, hb3⟩
      have Hb3 := Lib.hid (two_below Hb2.out hb3)
      clear hb3
      go_wp2_with fail
      go_ret
      exact ⟨rfl, Hb3.out⟩
end Go.Proofs.Ytncahgjmdeepeaa
