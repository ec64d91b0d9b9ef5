/- The reference of layer 9: Append. -/
import Derived.Test.YtfebknhggapljaaDiskRops
namespace Go.Proofs.Ytfebknhggapljaa
open Go.RowKit
set_option linter.unusedVariables false
set_option linter.unusedSimpArgs false

set_option maxRecDepth 20000 in
set_option maxHeartbeats 3200000 in
theorem rappend9 {w : World} {B g : Nat} {v : Value} {l : List Fl} {r : Int} (nm s : Fl.Nm) (hn9 : nm.length ≤ 140737488351232) (hs9 : s.length ≤ 140737488351232) (hd : RefIn w B g v l r) :
    Calls Try.prog 26 #[.pointer (some ⟨g, 0, none⟩), Sb nm, Sb s] w fun e w' => e = .returned (.int .i64 (appendR l r nm s).2.2) ∧ RefTo w w' B g v (appendR l r nm s).1 (appendR l r nm s).2.1 := by
  have HD := Lib.hid hd
  have HW := Lib.hid (rdown9 hd)
  obtain ⟨R, hR⟩ : ∃ R, R = appendR l r nm s := ⟨_, rfl⟩
  rw [← hR]
  unfold appendR at hR
  have HI : Hid (∀ w, Calls Try.prog 38 #[Sb nm] w fun e w' => e = .returned (.bool (Disk.word nm)) ∧ w = w') := Lib.hid fun w => word9_any ⟨nm.toArray⟩ w (show nm.toArray.size ≤ _ by simpa using hn9)
  by_cases h0 : r = 0
  · rw [if_pos h0] at hR
    have HR := Lib.hid hR
    subst h0
    clear hR hd
    go_enter Try.func26, Try.ntmps26
    go_wp2_with fail
    refine HW.out.mono ?_
    rintro _ w1 ⟨rfl, rfl⟩
    go_wp2_with fail
    go_ret
    exact ⟨by rw [HR.out]; rfl, by rw [HR.out]; exact .same HD.out (Below.refl _ _)⟩
  · rw [if_neg h0] at hR
    have h0b : (r == 0) = false := by simpa using h0
    by_cases hw : Disk.word nm = false
    · rw [if_pos hw] at hR
      rw [hw] at HI
      have HR := Lib.hid hR
      clear hR hd h0 hw
      go_enter Try.func26, Try.ntmps26
      go_wp2_with fail
      refine HW.out.mono ?_
      rintro _ w1 ⟨rfl, rfl⟩
      go_wp2_with fail
      refine (HI.out _).mono ?_
      rintro _ w2 ⟨rfl, rfl⟩
      go_wp2_with fail
      go_ret
      exact ⟨by rw [HR.out]; rfl, by rw [HR.out]; exact .same HD.out (Below.refl _ _)⟩
    · rw [if_neg hw] at hR
      rw [Bool.not_eq_false] at hw
      rw [hw] at HI
      have hbE := Below.alloc (Below.refl w.heap.size w) (Nat.le_refl _) (.cells #[Sb nm, .string ByteArray.empty, .int .i64 0] 60)
      have hgl : g < w.heap.size := Row.lt hd.row
      rcases hd.found nm with hx | ⟨h0', hf, ha⟩ | ⟨h0', i, b, c, n, f, hf, ha, hnm, hok, rfl, hn, hin, hb, c0, c1, c2, c3⟩
      · exact absurd hx h0
      · have hbr : bytesR l r nm = [] := by unfold bytesR; rw [if_neg h0, hf]
        have hsr : safeR l r nm = 0 := by unfold safeR; rw [if_neg h0, hf]
        rw [hbr, hsr] at hR
        obtain ⟨A, c, rfl⟩ := hd.files.form
        obtain ⟨n, hn⟩ : ∃ n, n = l.length := ⟨_, rfl⟩
        have hn8 : n ≤ 8 := by have := hd.len; omega
        have hgq : g ≠ w.heap.size := by omega
        have c0 : w.cell? ⟨g, 0, none⟩ = some (.slice A n c) := by rw [hn]; exact Row.cell hd.row 0 (by simp)
        have c0 := (hbE.cell (p := ⟨g, 0, none⟩) hgl).trans c0
        have hT1 := rat9 nm (hd.below hbE)
        rw [ha] at hT1
        have HT := Lib.hid hT1
        have hbz := hbE
        have HBz := Lib.hid hbz
        by_cases hbig : 1048576 < ([] : List UInt8).length + s.length
        · rw [if_pos hbig] at hR
          have HR := Lib.hid hR
          have hw1 : IntKind.i64.wrap ((0 : Int) + (s.length : Int)) = (s.length : Int) := by rw [Int.zero_add]; exact IntWalk.i64_in _ (by omega)
          have d1 : decide ((1048576 : Int) < (s.length : Int)) = true := by rw [decide_eq_true_eq]; simp at hbig; omega
          clear hR hd h0 h0' hf ha hw hbig hbE hbz hT1 hbr hsr hgl hn
          go_enter Try.func26, Try.ntmps26
          go_wp2_with fail
          refine HW.out.mono ?_
          rintro _ w1 ⟨rfl, rfl⟩
          go_wp2_with fail
          refine (HI.out _).mono ?_
          rintro _ w2 ⟨rfl, rfl⟩
          go_wp2_with fail
          refine HT.out.mono ?_
          rintro _ w1 ⟨rfl, rfl⟩
          go_wp2_with fail
          go_ret
          exact ⟨by rw [HR.out]; rfl, by rw [HR.out]; exact .same HD.out HBz.out⟩
        · rw [if_neg hbig] at hR
          by_cases hfl : 8 ≤ n
          · rw [if_pos ⟨hf, by rw [← hn]; exact hfl⟩] at hR
            have HR := Lib.hid hR
            have hw1 : IntKind.i64.wrap ((0 : Int) + (s.length : Int)) = (s.length : Int) := by rw [Int.zero_add]; exact IntWalk.i64_in _ (by omega)
            have d1 : decide ((1048576 : Int) < (s.length : Int)) = false := by rw [decide_eq_false_iff_not]; simp at hbig; omega
            have d2 : decide ((8 : Int) ≤ (n : Int)) = true := by rw [decide_eq_true_eq]; omega
            clear hR hd h0 h0' hf ha hw hbig hbE hbz hT1 hbr hsr hgl hn hfl
            go_enter Try.func26, Try.ntmps26
            go_wp2_with fail
            refine HW.out.mono ?_
            rintro _ w1 ⟨rfl, rfl⟩
            go_wp2_with fail
            refine (HI.out _).mono ?_
            rintro _ w2 ⟨rfl, rfl⟩
            go_wp2_with fail
            refine HT.out.mono ?_
            rintro _ w1 ⟨rfl, rfl⟩
            go_wp2_with fail
            go_ret
            exact ⟨by rw [HR.out]; rfl, by rw [HR.out]; exact .same HD.out HBz.out⟩
          · rw [if_neg (fun h => hfl (by rw [hn]; exact h.2))] at hR
            have hlp := Fl.length_put l hd.sorted ⟨nm, [] ++ s, 0⟩
            have hl8 : (Fl.put l ⟨nm, [] ++ s, 0⟩).length ≤ 8 := by
              rw [hlp]
              simp only [hf]
              simp; omega
            have hpok : ∀ x ∈ Fl.put l ⟨nm, [] ++ s, 0⟩, FileOk x := fun x hx => by
              rcases Fl.mem_put hx with rfl | hx
              · exact ⟨Int.le_refl _, show (0 : Int) ≤ (([] ++ s).length : Int) by rw [List.length_append]; simp, show ([] ++ s).length ≤ 1048576 by rw [List.length_append]; omega, word_len hw⟩
              · exact hd.ok x hx
            have hfin := fun (w2 w3 : World) (v' : Value) (h12 : (w.alloc (.cells #[Sb nm, Sb ([] ++ s), .int .i64 0] 60)).grownBy w2 (some g)) (hfx : FlsAt w2 (w.alloc (.cells #[Sb nm, Sb ([] ++ s), .int .i64 0] 60)).heap.size v' (Fl.put l ⟨nm, [] ++ s, 0⟩)) (h3 : RkAt w3 g v' (oneR r)) (h23 : w2.grownBy w3 (some g)) =>
              @RefTo.fin w _ w2 w3 B g _ v' l (Fl.put l ⟨nm, [] ++ s, 0⟩) r (oneR r) hd (grownBy_alloc _ _ _) h12 hfx h3 h23 (hd.sorted.put _) hl8 hpok (oneR_le hd.top)
            have hput := rput_any (w := (w.alloc (.cells #[Sb nm, Sb ([] ++ s), .int .i64 0] 60))) (lo := B) (left := r) (l := l) ⟨nm, [] ++ s, 0⟩ (Row.below hd.row (Below.alloc (Below.refl _ _) (Nat.le_refl _) _)) (hd.files.alloc _) (by have := hd.len; omega) hd.sorted
            have HR := Lib.hid hR
            have Hfin := Lib.hid hfin
            have Hput := Lib.hid hput
            have Htop := Lib.hid hd.top
            have Hn := Lib.hid hn
            have hw1 : IntKind.i64.wrap ((0 : Int) + (s.length : Int)) = (s.length : Int) := by rw [Int.zero_add]; exact IntWalk.i64_in _ (by omega)
            have d1 : decide ((1048576 : Int) < (s.length : Int)) = false := by rw [decide_eq_false_iff_not]; simp at hbig; omega
            have d2 : decide ((8 : Int) ≤ (n : Int)) = false := by rw [decide_eq_false_iff_not]; omega
            clear hR hd h0 h0' hf ha hw hbig hbE hbz hT1 hbr hsr hgl hfl hlp hl8 hpok hfin hput HD hn
            go_enter Try.func26, Try.ntmps26
            go_wp2_with fail
            refine HW.out.mono ?_
            rintro _ w1 ⟨rfl, rfl⟩
            go_wp2_with fail
            refine (HI.out _).mono ?_
            rintro _ w2 ⟨rfl, rfl⟩
            go_wp2_with fail
            refine HT.out.mono ?_
            rintro _ w1 ⟨rfl, rfl⟩
            go_wp2_with fail
            refine Hput.out.mono ?_
            rintro _ w2 ⟨rfl, v', hr2, hf2, hg2⟩
            have Hr2 := Lib.hid hr2
            have Hf2 := Lib.hid hf2
            have Hg2 := Lib.hid hg2
            clear hr2 hf2 hg2
            go_wp2_with fail
            refine (rone_at Hr2.out Htop.out).mono ?_
            rintro _ w3 ⟨rfl, hr3, hg3⟩
            have Hto := Lib.hid (Hfin.out w2 w3 v' Hg2.out Hf2.out hr3 hg3)
            clear hr3 hg3
            go_wp2_with fail
            go_ret
            exact ⟨by rw [HR.out]; rfl, by rw [HR.out]; exact Hto.out⟩
      · have hbr : bytesR l r nm = f.b := by unfold bytesR; rw [if_neg h0, hf]
        have hsr : safeR l r nm = f.safe := by unfold safeR; rw [if_neg h0, hf]
        rw [hbr, hsr] at hR
        have hfull : ¬ (Fl.find l nm = none ∧ 8 ≤ l.length) := fun h => by rw [hf] at h; cases h.1
        have hil : (i : Int) < (n : Int) := by omega
        have hgq : g ≠ w.heap.size := by omega
        have hbq : b ≠ w.heap.size := by omega
        have hb20 := hok.2.2.1
        have c0 := (hbE.cell (p := ⟨g, 0, none⟩) hgl).trans c0
        have c1 := (hbE.cell (p := ⟨b, i * 3, none⟩) hb).trans c1
        have c2 := (hbE.cell (p := ⟨b, i * 3 + 1, none⟩) hb).trans c2
        have c3 := (hbE.cell (p := ⟨b, i * 3 + 2, none⟩) hb).trans c3
        have hT1 := rat9 nm (hd.below hbE)
        rw [ha] at hT1
        have HT := Lib.hid hT1
        have hbz : Below w.heap.size w (w.alloc (.cells #[Sb nm, Sb f.b, .int .i64 f.safe] 60)) := Below.alloc (Below.refl w.heap.size w) (Nat.le_refl _) _
        have HBz := Lib.hid hbz
        by_cases hbig : 1048576 < (f.b : List UInt8).length + s.length
        · rw [if_pos hbig] at hR
          have HR := Lib.hid hR
          have hw1 : IntKind.i64.wrap ((f.b.length : Int) + (s.length : Int)) = (f.b.length : Int) + (s.length : Int) := IntWalk.i64_in _ (by omega)
          have d1 : decide ((1048576 : Int) < (f.b.length : Int) + (s.length : Int)) = true := by rw [decide_eq_true_eq]; omega
          clear hR hd h0 h0' hf ha hw hbig hbE hbz hT1 hbr hsr hgl hok hnm hn hfull
          go_enter Try.func26, Try.ntmps26
          go_wp2_with fail
          refine HW.out.mono ?_
          rintro _ w1 ⟨rfl, rfl⟩
          go_wp2_with fail
          refine (HI.out _).mono ?_
          rintro _ w2 ⟨rfl, rfl⟩
          go_wp2_with fail
          refine HT.out.mono ?_
          rintro _ w1 ⟨rfl, rfl⟩
          go_wp2_with fail
          go_ret
          exact ⟨by rw [HR.out]; rfl, by rw [HR.out]; exact .same HD.out HBz.out⟩
        · rw [if_neg hbig] at hR
          · rw [if_neg hfull] at hR
            have hlp := Fl.length_put l hd.sorted ⟨nm, f.b ++ s, f.safe⟩
            have hl8 : (Fl.put l ⟨nm, f.b ++ s, f.safe⟩).length ≤ 8 := by
              rw [hlp]
              simp only [hf]
              simpa using hd.len
            have hpok : ∀ x ∈ Fl.put l ⟨nm, f.b ++ s, f.safe⟩, FileOk x := fun x hx => by
              rcases Fl.mem_put hx with rfl | hx
              · exact ⟨hok.1, show (f.safe : Int) ≤ ((f.b ++ s).length : Int) by rw [List.length_append]; have := hok.2.1; omega, show (f.b ++ s).length ≤ 1048576 by rw [List.length_append]; omega, word_len hw⟩
              · exact hd.ok x hx
            have hfin := fun (w2 w3 : World) (v' : Value) (h12 : (w.alloc (.cells #[Sb nm, Sb (f.b ++ s), .int .i64 f.safe] 60)).grownBy w2 (some g)) (hfx : FlsAt w2 (w.alloc (.cells #[Sb nm, Sb (f.b ++ s), .int .i64 f.safe] 60)).heap.size v' (Fl.put l ⟨nm, f.b ++ s, f.safe⟩)) (h3 : RkAt w3 g v' (oneR r)) (h23 : w2.grownBy w3 (some g)) =>
              @RefTo.fin w _ w2 w3 B g _ v' l (Fl.put l ⟨nm, f.b ++ s, f.safe⟩) r (oneR r) hd (grownBy_alloc _ _ _) h12 hfx h3 h23 (hd.sorted.put _) hl8 hpok (oneR_le hd.top)
            have hput := rput_any (w := (w.alloc (.cells #[Sb nm, Sb (f.b ++ s), .int .i64 f.safe] 60))) (lo := B) (left := r) (l := l) ⟨nm, f.b ++ s, f.safe⟩ (Row.below hd.row (Below.alloc (Below.refl _ _) (Nat.le_refl _) _)) (hd.files.alloc _) (by have := hd.len; omega) hd.sorted
            have HR := Lib.hid hR
            have Hfin := Lib.hid hfin
            have Hput := Lib.hid hput
            have Htop := Lib.hid hd.top
            have Hn := Lib.hid hn
            have hw1 : IntKind.i64.wrap ((f.b.length : Int) + (s.length : Int)) = (f.b.length : Int) + (s.length : Int) := IntWalk.i64_in _ (by omega)
            have d1 : decide ((1048576 : Int) < (f.b.length : Int) + (s.length : Int)) = false := by rw [decide_eq_false_iff_not]; omega
            clear hR hd h0 h0' hf ha hw hbig hbE hbz hT1 hbr hsr hgl hok hnm hfull hlp hl8 hpok hfin hput HD hn
            go_enter Try.func26, Try.ntmps26
            go_wp2_with fail
            refine HW.out.mono ?_
            rintro _ w1 ⟨rfl, rfl⟩
            go_wp2_with fail
            refine (HI.out _).mono ?_
            rintro _ w2 ⟨rfl, rfl⟩
            go_wp2_with fail
            refine HT.out.mono ?_
            rintro _ w1 ⟨rfl, rfl⟩
            go_wp2_with fail
            refine Hput.out.mono ?_
            rintro _ w2 ⟨rfl, v', hr2, hf2, hg2⟩
            have Hr2 := Lib.hid hr2
            have Hf2 := Lib.hid hf2
            have Hg2 := Lib.hid hg2
            clear hr2 hf2 hg2
            go_wp2_with fail
            refine (rone_at Hr2.out Htop.out).mono ?_
            rintro _ w3 ⟨rfl, hr3, hg3⟩
            have Hto := Lib.hid (Hfin.out w2 w3 v' Hg2.out Hf2.out hr3 hg3)
            clear hr3 hg3
            go_wp2_with fail
            go_ret
            exact ⟨by rw [HR.out]; rfl, by rw [HR.out]; exact Hto.out⟩
end Go.Proofs.Ytfebknhggapljaa
