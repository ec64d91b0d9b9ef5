/- The reference of layer 21: Fits. -/
import Derived.Test.YtncahgjmdeepeaaCutFits
namespace Go.Proofs.Ytncahgjmdeepeaa
open Go.RowKit
set_option linter.unusedVariables false
set_option linter.unusedSimpArgs false

set_option maxRecDepth 20000 in
set_option maxHeartbeats 800000 in
theorem refFits_any (A : Option Addr) (c : Nat) (l : List Rc) (r : Cut.Rules) (w : World) (hl : RcsAt w A l) (hlen : l.length ≤ 9223372036854775807) :
    Calls Try.prog 12 #[.slice A l.length c, r.v] w fun e w' => e = .returned (.int .i64 (Cut.fits r (lens l))) ∧ Below w.heap.size w w' := by
  have HL := Lib.hid hl
  clear hl
  obtain ⟨rp, rb, ra, rl⟩ := r
  by_cases hok : Cut.okR ⟨rp, rb, ra, rl⟩ = true
  · have hE : checkE ⟨rp, rb, ra, rl⟩ = 0 := if_pos hok
    have hst := Cut.Upto.start (l := lens l) hok
    have hok' := Cut.okR_iff.1 hok
    simp only at hok' hst
    have HE := Lib.hid hE
    have Hst := Lib.hid hst
    have hck := refCheck_any ⟨rp, rb, ra, rl⟩
    unfold Cut.Rules.v at *
    simp only at hck
    have Hck := Lib.hid hck
    clear hE hst hok hck
    go_enter Try.func12, Try.ntmps12
    go_wp2_with fail
    refine (Hck.out _).mono ?_
    rintro _ w1 ⟨rfl, hg1⟩
    rw [HE.out]
    have hrow1 : Row w1 w.heap.size 24 [.int .i64 rp, .int .i64 rb, .int .i64 ra, .int .i64 rl] := (Row.new w _ _).kept hg1 (by simp)
    have hb1 : Below w.heap.size w w1 := ((Below.refl w.heap.size w).alloc (Nat.le_refl _) _).grown hg1 (by simp) (fun k hk => by cases hk)
    have Hrow1 := Lib.hid hrow1
    have Hb1 := Lib.hid hb1
    clear hg1 hrow1 hb1
    go_wp2_with fail
    go_loopw [5, 6] (fun sm i wr => ∃ (k m : Nat) (s : Int), i = .int .i64 k ∧ sm = .int .i64 s ∧ Cut.Upto ⟨rp, rb, ra, rl⟩ (lens l) k (rb - s) ∧ wr = w1.drewN m) (fun _ i _ => l.length - (intOf i).toNat)
    case atStart => exact ⟨0, 0, 0, rfl, rfl, by rw [Int.sub_zero]; exact Hst.out, rfl⟩
    case round =>
      obtain ⟨k, m, s, rfl, rfl, hup, hw⟩ := hrel
      have hk : k ≤ l.length := by have := hup.1; simpa [lens] using this
      have hup0 := hup.2.1
      have hup1 := hup.2.2.1
      have hup2 := hup.2.2.2.1
      simp only at hup1 hup2
      have Hup := Lib.hid hup
      have hrow : Row wr w.heap.size 24 [.int .i64 rp, .int .i64 rb, .int .i64 ra, .int .i64 rl] := by rw [hw]; exact Hrow1.out.kept (grownBy_drewN _ _ none) (by simp)
      have hbr : Below w.heap.size w wr := by rw [hw]; exact below_drewN' Hb1.out _
      have q0 : wr.cell? ⟨w.heap.size, 0, none⟩ = some (.int .i64 rp) := hrow.cell 0 (by simp)
      have q1 : wr.cell? ⟨w.heap.size, 1, none⟩ = some (.int .i64 rb) := hrow.cell 1 (by simp)
      have Hbr := Lib.hid hbr
      have Hw := Lib.hid hw
      clear hup hbr hrow hw
      by_cases hlt : k < l.length
      · have hki : (k : Int) < (l.length : Int) := by omega
        by_cases hkp : (k : Int) < rp
        · have hne : l ≠ [] := by intro e; rw [e] at hlt; simp at hlt
          obtain ⟨b, off, rfl, hblt, hc⟩ := (HL.out) hne
          obtain ⟨hra, hrest, hbody, hone⟩ := hc k hlt
          have hx : (lens l)[k]? = some l[k].body.size := by simp [lens, hlt]
          obtain ⟨x, hxe⟩ : ∃ x, x = l[k] := ⟨_, rfl⟩
          rw [← hxe] at hra hrest hbody hx
          have cb : wr.cell? ⟨b, off + k * 68 + 3, none⟩ = some (.string x.body) := (Hbr.out.cell (p := ⟨b, off + k * 68 + 3, none⟩) hblt).trans (hra 3 _ rfl)
          have Hx := Lib.hid hx
          have hs1 : IntKind.i64.wrap (rb - s) = rb - s := IntWalk.i64_in _ (by omega)
          have Hs1 := Lib.hid hs1
          clear hc hra hrest hx hxe hne hs1
          by_cases hfu : rb - s < (x.body.size : Int) ∧ 0 < k
          · have hres := Hup.out.full Hx.out (.inr ⟨hfu.2, hfu.1⟩)
            have Hres := Lib.hid hres
            have d1 : decide (rb - s < (x.body.size : Int)) = true := by simpa using hfu.1
            have d2 : decide ((0 : Int) < (k : Int)) = true := by simp only [decide_eq_true_eq]; omega
            have d2' : decide (0 < k) = true := by simp only [decide_eq_true_eq]; omega
            clear hres hfu
            go_wp2_with fail
            have hs1 := Hs1.out
            go_quiet (fail)
            clear hs1
            go_wp2_with fail
            go_ret
            rw [Hres.out]
            exact ⟨rfl, below_drewN' Hbr.out _⟩
          · have hnx := Hup.out.next Hx.out (by simp only; omega)
            have hsp : IntKind.i64.wrap (s + (x.body.size : Int)) = s + (x.body.size : Int) := IntWalk.i64_in _ (by omega)
            have Hsp := Lib.hid hsp
            have Hnx := Lib.hid hnx
            clear hnx hsp
            have hcs : (rb - s < (x.body.size : Int) ∧ k = 0) ∨ (x.body.size : Int) ≤ rb - s := by omega
            have e1 : (s + (x.body.size : Int) < rb ∧ Cut.Upto ⟨rp, rb, ra, rl⟩ (lens l) (k + 1) (rb - (s + (x.body.size : Int)))) ∨ (rb ≤ s + (x.body.size : Int) ∧ Cut.Upto ⟨rp, rb, ra, rl⟩ (lens l) (k + 1) (rb - rb)) := by
              by_cases h : s + (x.body.size : Int) < rb
              · refine .inl ⟨h, ?_⟩
                have := Hnx.out
                rwa [show max (rb - s - (x.body.size : Int)) 0 = rb - (s + (x.body.size : Int)) by omega] at this
              · refine .inr ⟨by omega, ?_⟩
                have := Hnx.out
                rwa [show max (rb - s - (x.body.size : Int)) 0 = rb - rb by omega] at this
            clear hfu
            rcases hcs with ⟨h1, h2⟩ | h1
            · have d1 : decide (rb - s < (x.body.size : Int)) = true := by simpa using h1
              subst h2
              rcases e1 with ⟨h3, hn⟩ | ⟨h3, hn⟩
              · exfalso; omega
              · have d3 : decide (s + (x.body.size : Int) < rb) = false := by simp only [decide_eq_false_iff_not]; omega
                have Hn := Lib.hid hn
                clear hn
                go_wp2_with fail
                have hs1 := Hs1.out
                go_quiet (fail)
                clear hs1
                obtain ⟨w5, hw5⟩ : ∃ w5, w5 = wr.drewN nq := ⟨_, rfl⟩
                rw [← hw5]
                have q1' := (show w5.cell? ⟨w.heap.size, 1, none⟩ = some (.int .i64 rb) from by rw [hw5]; exact q1)
                have cb' := (show w5.cell? ⟨b, off + 0 * 68 + 3, none⟩ = some (.string x.body) from by rw [hw5]; exact cb)
                obtain ⟨m5, hm5⟩ : ∃ m5, w5 = w1.drewN m5 := ⟨m + nq, by rw [hw5, Hw.out]; exact World.drewN_drewN _ _ _⟩
                have Hm5 := Lib.hid hm5
                clear hw5 hm5
                go_wp2_with fail
                have hsp := Hsp.out
                go_quiet (fail)
                clear hsp
                go_wp2_with fail
                refine ⟨⟨0 + 1, m5 + nq, rb, by go_num, rfl, Hn.out, ?_⟩, by simp [intOf]; omega⟩
                rw [Hm5.out]; exact World.drewN_drewN _ _ _
            · have d1 : decide (rb - s < (x.body.size : Int)) = false := by simp only [decide_eq_false_iff_not]; omega
              have hle : s + (x.body.size : Int) ≤ rb := by omega
              have d3 : decide (rb < s + (x.body.size : Int)) = false := by simp only [decide_eq_false_iff_not]; omega
              have hn : Cut.Upto ⟨rp, rb, ra, rl⟩ (lens l) (k + 1) (rb - (s + (x.body.size : Int))) := by
                have := Hnx.out
                rwa [show max (rb - s - (x.body.size : Int)) 0 = rb - (s + (x.body.size : Int)) by omega] at this
              clear e1
              have Hn := Lib.hid hn
              clear hn
              go_wp2_with fail
              have hs1 := Hs1.out
              go_quiet (fail)
              clear hs1
              obtain ⟨w5, hw5⟩ : ∃ w5, w5 = wr.drewN nq := ⟨_, rfl⟩
              rw [← hw5]
              have q1' := (show w5.cell? ⟨w.heap.size, 1, none⟩ = some (.int .i64 rb) from by rw [hw5]; exact q1)
              have cb' := (show w5.cell? ⟨b, off + k * 68 + 3, none⟩ = some (.string x.body) from by rw [hw5]; exact cb)
              obtain ⟨m5, hm5⟩ : ∃ m5, w5 = w1.drewN m5 := ⟨m + nq, by rw [hw5, Hw.out]; exact World.drewN_drewN _ _ _⟩
              have Hm5 := Lib.hid hm5
              clear hw5 hm5
              go_wp2_with fail
              have hsp := Hsp.out
              go_quiet (fail)
              clear hsp
              go_wp2_with fail
              refine ⟨⟨k + 1, m5 + nq, s + (x.body.size : Int), by go_num, rfl, Hn.out, ?_⟩, by simp [intOf]; omega⟩
              rw [Hm5.out]; exact World.drewN_drewN _ _ _
        · have hkp' : rp ≤ (k : Int) := by omega
          have hres : Cut.fits ⟨rp, rb, ra, rl⟩ (lens l) = k := by
            have hx : (lens l)[k]? = some l[k].body.size := by simp [lens, hlt]
            exact Hup.out.full hx (.inl (by simp only; omega))
          have Hres := Lib.hid hres
          clear hres
          go_wp2_with fail
          go_ret
          rw [Hres.out]
          exact ⟨rfl, Hbr.out⟩
      · have hki : (l.length : Int) ≤ (k : Int) := by omega
        have hres := Hup.out.stop (by simp [lens]; omega)
        have Hres := Lib.hid hres
        clear hres
        go_wp2_with fail
        go_ret
        rw [Hres.out]
        exact ⟨rfl, Hbr.out⟩
  · have hE : checkE ⟨rp, rb, ra, rl⟩ = 2 := if_neg hok
    have hres : Cut.fits ⟨rp, rb, ra, rl⟩ (lens l) = 0 := by unfold Cut.fits; rw [if_neg hok]
    have HE := Lib.hid hE
    have Hres := Lib.hid hres
    have hck := refCheck_any ⟨rp, rb, ra, rl⟩
    unfold Cut.Rules.v at *
    simp only at hck
    have Hck := Lib.hid hck
    clear hE hres hok hck
    go_enter Try.func12, Try.ntmps12
    go_wp2_with fail
    refine (Hck.out _).mono ?_
    rintro _ w1 ⟨rfl, hg1⟩
    rw [HE.out]
    have hb1 : Below w.heap.size w w1 := ((Below.refl w.heap.size w).alloc (Nat.le_refl _) _).grown hg1 (by simp) (fun k hk => by cases hk)
    have Hb1 := Lib.hid hb1
    clear hg1 hb1
    go_wp2_with fail
    go_ret
    rw [Hres.out]
    exact ⟨rfl, Hb1.out⟩
end Go.Proofs.Ytncahgjmdeepeaa
