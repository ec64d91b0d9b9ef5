/- The reference of layer 21: Due. -/
import Derived.Test.YtncahgjmdeepeaaCutRef
import Derived.Test.YtncahgjmdeepeaaCutDue
namespace Go.Proofs.Ytncahgjmdeepeaa
open Go.RowKit
set_option linter.unusedVariables false
set_option linter.unusedSimpArgs false

theorem take_any_next {α : Type _} (p : α → Bool) (l : List α) (k : Nat) (h : k < l.length) : (l.take (k + 1)).any p = ((l.take k).any p || p l[k]) := by
  rw [List.take_succ_eq_append_getElem h, List.any_append]
  simp

set_option maxRecDepth 20000 in
set_option maxHeartbeats 1600000 in
theorem refDue_any (A : Option Addr) (c : Nat) (l : List Rc) (now : Int) (r : Cut.Rules) (w : World) (hl : RcsAt w A l) (hlen : l.length ≤ 9223372036854775807) (hn1 : now ≤ 9223372036854775807) :
    Calls Try.prog 14 #[.slice A l.length c, .int .i64 now, r.v] w fun e w' => e = .returned (.int .i64 (Cut.due r now l)) ∧ Below w.heap.size w w' := by
  have HL := Lib.hid hl
  clear hl
  obtain ⟨n, hn⟩ : ∃ n, n = Cut.fits r (lens l) := ⟨_, rfl⟩
  have hnl : n ≤ l.length := by rw [hn]; have := Cut.fits_le r (lens l); simpa [lens] using this
  have hFi : ∀ W, RcsAt W A l → Calls Try.prog 12 #[.slice A l.length c, r.v] W fun e w' => e = .returned (.int .i64 (n : Int)) ∧ Below W.heap.size W w' := fun W hW => by
    have := refFits_any A c l r W hW hlen
    rw [← hn] at this
    exact this
  have hdue : Cut.due r now l = if n = 0 ∨ n < l.length ∨ (n : Int) = r.parts then n else if l.any (Cut.oldR r now) = true then n else 0 := by unfold Cut.due; rw [← hn]
  have hokn : n ≠ 0 → Cut.okR r = true := by
    intro h0
    rcases Bool.eq_false_or_eq_true (Cut.okR r) with e | e
    · exact e
    · exact absurd (by rw [hn]; unfold Cut.fits; rw [if_neg (by rw [e]; simp)]) h0
  obtain ⟨rp, rb, ra, rl⟩ := r
  unfold Cut.Rules.v at hFi ⊢
  simp only at hFi hdue ⊢
  obtain ⟨f0, hf0⟩ : ∃ f0, f0 = (decide (n < l.length) || ((n : Int) == rp)) := ⟨_, rfl⟩
  have hend : Cut.due ⟨rp, rb, ra, rl⟩ now l = if (f0 || (l.take n).any (Cut.oldR ⟨rp, rb, ra, rl⟩ now)) = true then n else 0 := by
    rw [hdue]
    by_cases h0 : n = 0
    · rw [if_pos (.inl h0), h0]; simp
    · by_cases h1 : n < l.length
      · rw [if_pos (.inr (.inl h1)), hf0]; simp [h1]
      · by_cases h2 : (n : Int) = rp
        · rw [if_pos (.inr (.inr h2)), hf0]; simp [h2]
        · rw [if_neg (by rintro (h | h | h) <;> contradiction), hf0, List.take_of_length_le (by omega)]
          have e2 : ((n : Int) == rp) = false := by simpa using h2
          rw [e2]
          simp [h1]
  have hcs : ((n : Int) < (l.length : Int) ∧ f0 = true) ∨ ((l.length : Int) ≤ (n : Int) ∧ ((n : Int) == rp) = f0) := by
    by_cases h1 : n < l.length
    · exact .inl ⟨by omega, by rw [hf0]; simp [h1]⟩
    · exact .inr ⟨by omega, by rw [hf0]; simp [h1]⟩
  have HFi := Lib.hid hFi
  have Hend := Lib.hid hend
  have Hokn := Lib.hid hokn
  have Hcs := Lib.hid hcs
  clear hFi hdue hokn hn hend hcs hf0
  have fin : ∀ v : Nat, Cut.due ⟨rp, rb, ra, rl⟩ now l = v → ∀ W, Below w.heap.size w W → ∀ e, e = Ending.returned (.int .i64 (v : Int)) → e = Ending.returned (.int .i64 (Cut.due ⟨rp, rb, ra, rl⟩ now l)) ∧ Below w.heap.size w W := fun v hv W hW e he => ⟨by rw [hv]; exact he, hW⟩
  have Fin := Lib.hid fin
  clear fin
  go_enter Try.func14, Try.ntmps14
  go_wp2_with fail
  refine (HFi.out _ (HL.out.below ((Below.refl _ _).alloc (Nat.le_refl _) _))).mono ?_
  rintro _ w1 ⟨rfl, hb1⟩
  have hb1' : Below w.heap.size w w1 := ((Below.refl w.heap.size w).alloc (Nat.le_refl _) _).trans (hb1.mono (by simp))
  have hrow1 : Row w1 w.heap.size 24 [.int .i64 rp, .int .i64 rb, .int .i64 ra, .int .i64 rl] := (Row.new w _ _).below hb1
  have q0 : w1.cell? ⟨w.heap.size, 0, none⟩ = some (.int .i64 rp) := hrow1.cell 0 (by simp)
  have Hrow1 := Lib.hid hrow1
  have Hb1 := Lib.hid hb1'
  clear hb1 hb1' hrow1
  rcases Hcs.out with ⟨d1, hf⟩ | ⟨d1, hf⟩
  all_goals
    go_wp2_with fail
    clear q0
    go_loopw [8, 9] (fun g i wr => ∃ (k m : Nat), k ≤ n ∧ i = .int .i64 k ∧ g = .bool (f0 || (l.take k).any (Cut.oldR ⟨rp, rb, ra, rl⟩ now)) ∧ wr = w1.drewN m) (fun _ i _ => n - (intOf i).toNat)
    case atStart => exact ⟨0, 0, Nat.zero_le _, rfl, by first | (simp [hf]; done) | (simp [hf]; intro h; omega), rfl⟩
    case round =>
      clear hf d1
      obtain ⟨k, m, hk, rfl, rfl, hw⟩ := hrel
      have hrow : Row wr w.heap.size 24 [.int .i64 rp, .int .i64 rb, .int .i64 ra, .int .i64 rl] := by rw [hw]; exact Hrow1.out.kept (grownBy_drewN _ _ none) (by simp)
      have hbr : Below w.heap.size w wr := by rw [hw]; exact below_drewN' Hb1.out _
      obtain ⟨g, hg⟩ : ∃ g, g = (f0 || (l.take k).any (Cut.oldR ⟨rp, rb, ra, rl⟩ now)) := ⟨_, rfl⟩
      rw [← hg]
      have qa := rules_age hrow
      have ql := rules_lag hrow
      have Hg := Lib.hid hg
      have Hbr := Lib.hid hbr
      have Hw := Lib.hid hw
      clear hg hbr hrow hw
      by_cases hlt : k < n
      · have hkn : (k : Int) < (n : Int) := by omega
        have hkl : k < l.length := by omega
        have hki : (k : Int) < (l.length : Int) := by omega
        have hne : l ≠ [] := by intro e; rw [e] at hkl; simp at hkl
        have hok := Cut.okR_iff.1 (Hokn.out (by omega))
        simp only at hok
        obtain ⟨b, off, rfl, hblt, hc⟩ := (HL.out) hne
        obtain ⟨hra, hrest, hbody, hone⟩ := hc k hkl
        have hst : ∀ v, Cut.oldR ⟨rp, rb, ra, rl⟩ now l[k] = v → (f0 || (l.take (k + 1)).any (Cut.oldR ⟨rp, rb, ra, rl⟩ now)) = (g || v) := by
          intro v hv
          rw [take_any_next _ _ _ hkl, hv, Hg.out, Bool.or_assoc]
        obtain ⟨x, hxe⟩ : ∃ x, x = l[k] := ⟨_, rfl⟩
        rw [← hxe] at hra hst
        have ct : wr.cell? ⟨b, off + k * 68 + 2, none⟩ = some (.int .i64 x.time) := (Hbr.out.cell (p := ⟨b, off + k * 68 + 2, none⟩) hblt).trans (hra 2 _ rfl)
        have ck : wr.cell? ⟨b, off + k * 68 + 1, none⟩ = some (.int .i64 x.kind) := (Hbr.out.cell (p := ⟨b, off + k * 68 + 1, none⟩) hblt).trans (hra 1 _ rfl)
        have hold : ∀ b1 b2 : Bool, Cut.old x.time now ra = b1 → (x.kind = 2 → Cut.old x.time now rl = b2) → Cut.oldR ⟨rp, rb, ra, rl⟩ now x = (b1 || (decide (x.kind = 2) && b2)) := by
          intro b1 b2 h1 h2
          unfold Cut.oldR
          simp only [h1]
          by_cases e : x.kind = 2
          · simp only [h2 e]
          · simp [e]
        have hc1 : ∀ v, Cut.old x.time now ra = v → ∀ W, Calls Try.prog 21 #[.int .i64 x.time, .int .i64 now, .int .i64 ra] W fun e w' => e = .returned (.bool v) ∧ W = w' := by
          intro v hv W
          rw [← hv]
          exact refOld_any x.time now ra W (by omega) (by omega) hn1
        have hc2 : ∀ v, Cut.old x.time now rl = v → ∀ W, Calls Try.prog 21 #[.int .i64 x.time, .int .i64 now, .int .i64 rl] W fun e w' => e = .returned (.bool v) ∧ W = w' := by
          intro v hv W
          rw [← hv]
          exact refOld_any x.time now rl W (by omega) (by omega) hn1
        have Hst := Lib.hid hst
        clear hc hra hrest hbody hone hxe hne hst
        rcases Bool.eq_false_or_eq_true (Cut.old x.time now ra) with o1 | o1
        · have H1 := Lib.hid (hc1 _ o1)
          have hres := Hst.out true (by rw [hold true (Cut.old x.time now rl) o1 (fun _ => rfl)]; rfl)
          have Hres := Lib.hid hres
          clear hres hc1 hc2 hold o1
          go_wp2_with fail
          go_quiet ((with_reducible exact quiet_eq (H1.out _)))
          go_wp2_with fail
          refine ⟨⟨k + 1, m + nq, hlt, by go_num, by rw [Hres.out]; simp, by rw [Hw.out]; exact World.drewN_drewN _ _ _⟩, by simp [intOf]; omega⟩
        · by_cases hk2 : x.kind = 2
          · have dk : (x.kind == 2) = true := by rw [hk2]; rfl
            rcases Bool.eq_false_or_eq_true (Cut.old x.time now rl) with o2 | o2
            · have H1 := Lib.hid (hc1 _ o1)
              have H2 := Lib.hid (hc2 _ o2)
              have hres := Hst.out true (by rw [hold false true o1 (fun _ => o2), hk2]; rfl)
              have Hres := Lib.hid hres
              clear hres hc1 hc2 hold o1 o2 hk2
              go_wp2_with fail
              go_quiet (first | (with_reducible exact quiet_eq (H1.out _)) | (with_reducible exact quiet_eq (H2.out _)))
              go_wp2_with fail
              refine ⟨⟨k + 1, m + nq, hlt, by go_num, by rw [Hres.out]; simp, by rw [Hw.out]; exact World.drewN_drewN _ _ _⟩, by simp [intOf]; omega⟩
            · have H1 := Lib.hid (hc1 _ o1)
              have H2 := Lib.hid (hc2 _ o2)
              have hres := Hst.out false (by rw [hold false false o1 (fun _ => o2), hk2]; rfl)
              have Hres := Lib.hid hres
              clear hres hc1 hc2 hold o1 o2 hk2
              go_wp2_with fail
              go_quiet (first | (with_reducible exact quiet_eq (H1.out _)) | (with_reducible exact quiet_eq (H2.out _)))
              go_wp2_with fail
              refine ⟨⟨k + 1, m + nq, hlt, by go_num, by rw [Hres.out]; simp, by rw [Hw.out]; exact World.drewN_drewN _ _ _⟩, by simp [intOf]; omega⟩
          · have dk : (x.kind == 2) = false := by simpa using hk2
            have H1 := Lib.hid (hc1 _ o1)
            have hres := Hst.out false (by rw [hold false false o1 (fun e => absurd e hk2)]; simp)
            have Hres := Lib.hid hres
            clear hres hc1 hc2 hold o1 hk2
            go_wp2_with fail
            go_quiet ((with_reducible exact quiet_eq (H1.out _)))
            go_wp2_with fail
            refine ⟨⟨k + 1, m + nq, hlt, by go_num, by rw [Hres.out]; simp, by rw [Hw.out]; exact World.drewN_drewN _ _ _⟩, by simp [intOf]; omega⟩
      · have hkn : (n : Int) ≤ (k : Int) := by omega
        have ekn : k = n := by omega
        have Ekn := Lib.hid ekn
        clear ekn
        rcases Bool.eq_false_or_eq_true g with rfl | rfl
        · have hres : Cut.due ⟨rp, rb, ra, rl⟩ now l = n := by exact Hend.out.trans (if_pos (by rw [← Ekn.out]; exact Hg.out.symm))
          have Hres := Lib.hid hres
          clear hres
          go_wp2_with fail
          go_ret
          exact Fin.out n Hres.out _ Hbr.out _ rfl
        · have hres : Cut.due ⟨rp, rb, ra, rl⟩ now l = 0 := by rw [Hend.out, if_neg (by rw [← Ekn.out, ← Hg.out]; exact Bool.false_ne_true)]
          have Hres := Lib.hid hres
          clear hres
          go_wp2_with fail
          go_ret
          exact Fin.out 0 Hres.out _ Hbr.out _ rfl
end Go.Proofs.Ytncahgjmdeepeaa
