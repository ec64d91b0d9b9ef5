/- JournalKeeps: the walk. -/
import Derived.Test.YtpphljdnnlfjhaaDoorJrKq
import Derived.Test.YtpphljdnnlfjhaaDoorJrAwk
import Derived.Deep.RegionHeld3
namespace Go.Proofs.YtpphljdnnlfjhaaDoor
open Go.RowKit
set_option maxRecDepth 100000
set_option linter.unusedVariables false
set_option linter.unusedSimpArgs false

theorem lstA_lst {w : World} {base : Nat} {S0 : Nat → Prop} {q : Nat} {v : Value} {L : List (List UInt8)} (h : LstA w base S0 q v L) : Lst w base v L := by
  obtain ⟨A, c, hv, hr⟩ := h
  refine ⟨A, c, hv, fun hne => ?_⟩
  obtain ⟨b, h1, h2, h3, _, _, h4⟩ := hr hne
  exact ⟨b, h1, h2, h3, h4⟩
set_option maxHeartbeats 8000000 in
theorem journalKeeps_any (v kv : Value) (acts : List Act10) (arm : Int) (ks : List Int) (w : World) (hl : ActsJ w v acts) (hlen : acts.length ≤ 9223372036854775806) (ha : 0 ≤ arm ∧ arm ≤ 255) (hk : KeepV w kv ks) :
    Calls Tryd.prog 4 #[v, .int .u8 arm, kv] w fun e w' => e = .returned (.bool true) ∧ Below w.heap.size w w' := by
  obtain ⟨A, c, rfl, hfits, hcs⟩ := hl
  have Hfits := Lib.hid hfits
  have Hcs := Lib.hid hcs
  have Hk := Lib.hid hk
  have hwa : IntKind.i64.wrap arm = arm := IntWalk.i64_in _ (by omega)
  clear hfits hcs hk
  go_enter Tryd.func4, Tryd.ntmps4
  go_wp2_with fail
  refine (new9 w w.heap.size (Nat.le_refl _)).mono ?_
  rintro _ w1 ⟨rfl, hd1, hb1, hs1⟩
  obtain ⟨g, hg⟩ : ∃ g, g = w.heap.size + 1 := ⟨_, rfl⟩
  rw [← hg] at hd1 ⊢
  have hS1 : ∀ k, Plus (fun _ => False) w w1 k → w.heap.size ≤ k := fun k hk => by
    rcases hk with h | h
    · exact absurd h id
    · exact h.1
  generalize Plus (fun _ => False) w w1 = S1 at *
  have Hd1 := Lib.hid hd1
  have Hb1 := Lib.hid hb1
  have HS1 := Lib.hid hS1
  clear hd1 hb1 hs1 hg hS1
  go_wp2_with fail
  refine (jopen_up (o := none) (x := none) Hd1.out (by simp [Jr.by_])).mono ?_
  rintro _ w2 ⟨q, v2, S2, rfl, hJ2, hq, _, hP2, hC2, _⟩
  have Hb2 := Lib.hid (chg_below hC2 HS1.out Hb1.out)
  have HS2 : Hid (∀ k, S2 k → w.heap.size ≤ k) := Lib.hid fun k hk => by
    rcases hP2 k hk with h | h
    · exact HS1.out k h
    · have := Hb1.out.size; omega
  have hq0 : w.heap.size ≤ q := by have := Hb1.out.size; omega
  have hJ2' : JS w2 w.heap.size S2 g q (Jr.St none none) (-1) ⟨0, 0, false⟩ := hJ2
  have HJ2 := Lib.hid hJ2'
  clear hJ2 hJ2' hP2 hC2 hq
  go_wp2_with fail
  refine (awake10 _).mono ?_
  rintro _ w3 ⟨rfl, hb3⟩
  have HJ3 := Lib.hid (HJ2.out.below hb3)
  have Hb3 := Lib.hid (Hb2.out.trans (hb3.mono Hb2.out.size))
  clear hb3
  go_wp2_with fail
  refine (arm_S arm HJ3.out.disk (by omega)).mono ?_
  rintro _ w4 ⟨rfl, hd4, hc4⟩
  have t4 := HJ3.out.diskTo hd4 hc4
  obtain ⟨r4, hr4⟩ : ∃ r, (armR (-1) arm).1 = r := ⟨_, rfl⟩
  rw [hr4] at t4
  obtain ⟨S4, hJ4, hS4, hb4⟩ := t4.all Hb3.out HS2.out hq0
  have HJ4 := Lib.hid hJ4
  have HS4 := Lib.hid hS4
  have Hb4 := Lib.hid hb4
  clear hd4 hc4 t4 hr4 hJ4 hS4 hb4
  go_wp2_with fail
  go_loopw [11, 12, 13, 14] (fun a sf_ ot ix wr => ∃ (Z : Nat → Prop) (l : List Fl) (r : Int) (j : Jr.J) (all : List (List UInt8)) (safe i : Nat), sf_ = .int .i64 (safe : Int) ∧ ix = .int .i64 (i : Int) ∧ JS wr w.heap.size Z g q l r j ∧ (∀ k, Z k → w.heap.size ≤ k) ∧ Below w.heap.size w wr ∧ wr.ownsRow w.heap.size 9 1 a all.length (all.map S) ∧ (∀ k, a.ownBlock = some k → ¬ Z k ∧ k ≠ q) ∧ all.length ≤ 2000000 ∧
    ((∃ o, l = Jr.St o none ∧ Jr.Inv o j all safe ∧ i ≤ acts.length ∧ i ≤ 50 ∧ all.length ≤ 1048576 + i) ∨ (i = acts.length + 1 ∧ Jr.Done l all safe))) (fun _ _ _ ix _ => acts.length + 1 - (intOf ix).toNat)
  case atStart =>
    exact ⟨S4, _, r4, _, [], 0, 0, rfl, rfl, HJ4.out, HS4.out, Hb4.out, World.ownsRow_nil _ _ _ _, by simp [Value.ownBlock], by simp, .inl ⟨none, rfl, ⟨rfl, by simp [Jr.lays, Jr.sf], by simp [Jr.sf], by simp [Jr.sf], by simp [Jr.by_], by simp, rfl, rfl, Nat.le_refl _⟩, by omega, by omega, by simp⟩⟩
  case round =>
    obtain ⟨Z, l, r, j, all, safe, i, rfl, rfl, hJ, hZ, hb, hown, hap, hal, hmode⟩ := hrel
    have HJ := Lib.hid hJ
    have HZ := Lib.hid hZ
    have Hb := Lib.hid hb
    have Hown := Lib.hid hown
    have Hap := Lib.hid hap
    clear hJ hZ hb hown hap
    rcases hmode with ⟨o, rfl, hinv, hin, hi50, hal2⟩ | ⟨rfl, hdone⟩
    · have Hinv0 := Lib.hid hinv
      clear hinv
      by_cases hlt : i < acts.length
      · have d0 : decide ((i : Int) < (acts.length : Int)) = true := by simp only [decide_eq_true_eq]; omega
        have d0' : decide (i < acts.length) = true := by simp only [decide_eq_true_eq]; exact hlt
        by_cases h50 : i < 50
        · have d50 : decide ((i : Int) < 50) = true := by simp only [decide_eq_true_eq]; omega
          have d50' : decide (i < 50) = true := by simp only [decide_eq_true_eq]; exact h50
          obtain ⟨b, off, rfl, hbl, hcell⟩ := Hcs.out (by rintro rfl; simp at hlt)
          obtain ⟨hcw0, hcw1, hcw2⟩ := hcell i hlt
          have hfx := Hfits.out _ (List.getElem_mem hlt)
          obtain ⟨x, hx⟩ : ∃ x, acts[i] = x := ⟨_, rfl⟩
          rw [hx] at hcw0 hcw1 hcw2 hfx
          obtain ⟨hxs, htx, hxL, hxr⟩ := hfx
          obtain ⟨sv, hsv⟩ : ∃ s : ByteArray, (⟨x.s.toArray⟩ : ByteArray) = s := ⟨_, rfl⟩
          have hsz : sv.size = x.s.length := by rw [← hsv]; rfl
          have hSb : Sb x.s = .string sv := by rw [← hsv]
          have hSs : S x.s = .string sv := by rw [← hsv]
          rw [hSb] at hcw1
          have hcell0 : wr.cell? ⟨b, off + i * 5, none⟩ = some (.int .i64 x.kind) := (World.cell?_of_block (a := ⟨b, off + i * 5, none⟩) (Hb.out.block b hbl)).trans hcw0
          have hcell1 : wr.cell? ⟨b, off + i * 5 + 1, none⟩ = some (.string sv) := (World.cell?_of_block (a := ⟨b, off + i * 5 + 1, none⟩) (Hb.out.block b hbl)).trans hcw1
          have hcell2 : wr.cell? ⟨b, off + i * 5 + 2, none⟩ = some x.lv := (World.cell?_of_block (a := ⟨b, off + i * 5 + 2, none⟩) (Hb.out.block b hbl)).trans hcw2
          have htxr : TextsV wr x.lv x.L := by
            obtain ⟨AL, cL, hv, ht⟩ := htx
            refine ⟨AL, cL, hv, fun hne => ?_⟩
            obtain ⟨b2, off2, e1, e2, e3⟩ := ht hne
            exact ⟨b2, off2, e1, Nat.lt_of_lt_of_le e2 Hb.out.size, fun m hm => (World.cell?_of_block (a := ⟨b2, off2 + m, none⟩) (Hb.out.block b2 e2)).trans (e3 m hm)⟩
          have HSb := Lib.hid hSb
          have HSs := Lib.hid hSs
          have Hcw1 := Lib.hid hcw1
          have Htxr := Lib.hid htxr
          have Hsmall := Lib.hid hxr
          have Hsz := Lib.hid hsz
          obtain ⟨kd, hkd⟩ : ∃ kd, x.kind = kd := ⟨_, rfl⟩
          rw [hkd] at hcell0
          clear hcell hcw0 hcw1 hcw2 hx hsv hSb hSs htx htxr hxr hkd
          by_cases k0 : kd = 0
          · subst k0
            as_aux_lemma =>
              by_cases h4 : sv.size ≤ 4096
              · have d2 : decide ((sv.size : Int) ≤ 4096) = true := by simp only [decide_eq_true_eq]; omega
                have d2' : decide (sv.size ≤ 4096) = true := by simp only [decide_eq_true_eq]; exact h4
                have kA := jadd_at HJ.out x.s (by omega) (by have := Hinv0.out.len; omega)
                have hI := Jr.Inv.add (r := r) Hinv0.out x.s (by omega)
                rcases hA : Jr.addR (Jr.St o none) r j x.s with ⟨l5, r5, j5, c5⟩
                rw [hA] at kA hI
                rw [HSb.out] at kA
                have KA := Lib.hid kA
                have HI : Hid ((c5 = 0 ∧ ∃ o', l5 = Jr.St o' none ∧ Jr.Inv o' j5 (all ++ [x.s]) safe) ∨ (c5 ≠ 0 ∧ Jr.Done l5 (all ++ [x.s]) safe)) := Lib.hid hI
                clear kA hI hA
                go_wp2_with fail
                refine KA.out.mono ?_
                rintro _ w5 ⟨rfl, t⟩
                obtain ⟨Z5, hJ5, hP5, hC5⟩ := t
                have hZ5 : ∀ k, Z5 k → w.heap.size ≤ k := fun k hk => by
                  rcases hP5 k hk with h | h
                  · exact HZ.out k h
                  · have := Hb.out.size; omega
                have ho5 := hC5.ownsRow Hown.out (fun k hk hp => by
                  rcases hp with h | h
                  · exact (Hap.out k hk).1 h
                  · exact (Hap.out k hk).2 h)
                have hap5 : ∀ k, u11.ownBlock = some k → ¬ Z5 k ∧ k ≠ q := fun k hk => ⟨fun hz => by
                  rcases hP5 k hz with h | h
                  · exact (Hap.out k hk).1 h
                  · have := (Hown.out.lt k hk).2; omega, (Hap.out k hk).2⟩
                have Hb5 := Lib.hid (chg_below hC5 (fun k hk => by
                  rcases hk with h | h
                  · exact HZ.out k h
                  · omega) Hb.out)
                have HJ5 := Lib.hid hJ5
                have HZ5 := Lib.hid hZ5
                have Hown5 := Lib.hid ho5
                have Hap5 := Lib.hid hap5
                clear hJ5 hP5 hC5 hZ5 ho5 hap5
                have hcv : ∀ w', Below w5.heap.size w5 w' → w'.cell? ⟨b, off + i * 5 + 1, none⟩ = some (.string sv) := fun w' hb => by
                  have h := Hb5.out.trans (hb.mono Hb5.out.size)
                  exact (World.cell?_of_block (a := ⟨b, off + i * 5 + 1, none⟩) (h.block b hbl)).trans Hcw1.out
                have Hcv := Lib.hid hcv
                clear hcv
                go_wp2_with fail
                refine wp_region_noPanic ?_
                refine wp_region_held_drew (S := fun w' => Below w5.heap.size w5 w') (by kernel_rfl) ((Below.refl _ _).drew) (fun hHeld => ?_)
                generalize w5.drew = wd at *
                refine wpAnyH_take (i := 1) (v := u11) rfl (by kernel_rfl) (by kernel_rfl) (by kernel_rfl) (fun _ _ _ h => h) (Or.inl ⟨by rfl, fun w' hSw => by go_simp⟩) hHeld ?_
                try simp only [Act.put, List.getElem_toArray, List.getElem_cons_succ, List.getElem_cons_zero, List.setIfInBounds_toArray, List.set_cons_zero, List.set_cons_succ]
                refine wpAnyH_take (i := 3) (v := .slice (some ⟨b, off, none⟩) acts.length c) rfl (by kernel_rfl) (by kernel_rfl) (by kernel_rfl) (fun _ _ _ h => h) (Or.inl ⟨by rfl, fun w' hSw => by go_simp⟩) hHeld ?_
                try simp only [Act.put, List.getElem_toArray, List.getElem_cons_succ, List.getElem_cons_zero, List.setIfInBounds_toArray, List.set_cons_zero, List.set_cons_succ]
                refine wpAnyH_take (i := 4) (v := .int .i64 (i : Int)) rfl (by kernel_rfl) (by kernel_rfl) (by kernel_rfl) (fun _ _ _ h => h) (Or.inl ⟨by rfl, fun w' hSw => by go_simp⟩) hHeld ?_
                try simp only [Act.put, List.getElem_toArray, List.getElem_cons_succ, List.getElem_cons_zero, List.setIfInBounds_toArray, List.set_cons_zero, List.set_cons_succ]
                refine wpAnyH_take (i := 5) (v := .pointer (some ⟨b, off + i * 5, none⟩)) rfl (by kernel_rfl) (by kernel_rfl) (by kernel_rfl) (fun _ _ _ h => h) (Or.inl ⟨by rfl, fun w' hSw => by go_simp⟩) hHeld ?_
                try simp only [Act.put, List.getElem_toArray, List.getElem_cons_succ, List.getElem_cons_zero, List.setIfInBounds_toArray, List.set_cons_zero, List.set_cons_succ]
                refine wpAnyH_take (i := 6) (v := .pointer (some ⟨b, off + i * 5 + 1, none⟩)) rfl (by kernel_rfl) (by kernel_rfl) (by kernel_rfl) (fun _ _ _ h => h) (Or.inl ⟨by rfl, fun w' hSw => by go_simp⟩) hHeld ?_
                try simp only [Act.put, List.getElem_toArray, List.getElem_cons_succ, List.getElem_cons_zero, List.setIfInBounds_toArray, List.set_cons_zero, List.set_cons_succ]
                refine wpAnyH_take (i := 7) (v := .string sv) rfl (by kernel_rfl) (by kernel_rfl) (by kernel_rfl) (fun _ _ _ h => h) (Or.inl ⟨by rfl, fun w' hSw => by have hq := hSw; have hcl := Hcv.out w' hq; go_simp⟩) hHeld ?_
                try simp only [Act.put, List.getElem_toArray, List.getElem_cons_succ, List.getElem_cons_zero, List.setIfInBounds_toArray, List.set_cons_zero, List.set_cons_succ]
                refine wpAnyH_ready (rs := [0, 8]) (by kernel_rfl) (by simp) (AllReadyH.cons rfl (fun K1 hK1 => ?_) (AllReadyH.cons rfl (fun K1 hK1 => ?_) AllReadyH.nil))
                · skip
                  try simp only [Act.put, List.getElem_toArray, List.getElem_cons_succ, List.getElem_cons_zero, List.setIfInBounds_toArray, List.set_cons_zero, List.set_cons_succ]
                  go_simp
                  have hE : (wd.alloc (.cells #[] 9)).ownsRow w5.heap.size 9 1 (.slice (some ⟨wd.heap.size, 0, none⟩) 0 0) 0 [] := ⟨rfl, .inr ⟨wd.heap.size, 0, #[], rfl, hHeld.size, heap_alloc_new _ _, Nat.le_refl _, Nat.zero_le _, rfl, rfl⟩⟩
                  have hby2 := (Below.refl wd.heap.size wd).alloc (Nat.le_refl _) (.cells #[] 9)
                  have hHeld2 := hHeld.trans (hby2.mono hHeld.size)
                  generalize wd.alloc (.cells #[] 9) = wy1 at *
                  obtain ⟨gE, hgEe⟩ : ∃ gE, gE = wd.heap.size := ⟨_, rfl⟩
                  rw [← hgEe] at hE ⊢
                  refine hK1.out _ _ (hHeld2) (fun hHeld => ?_)
                  clear hK1 K1
                  try simp only [Act.put, List.getElem_toArray, List.getElem_cons_succ, List.getElem_cons_zero, List.setIfInBounds_toArray, List.set_cons_zero, List.set_cons_succ]
                  clear hgEe
                  refine wpAnyH_ready (rs := [2, 8]) (by kernel_rfl) (by simp) (AllReadyH.cons rfl (fun K1 hK1 => ?_) (AllReadyH.cons rfl (fun K1 hK1 => ?_) AllReadyH.nil))
                  · skip
                    try simp only [Act.put, List.getElem_toArray, List.getElem_cons_succ, List.getElem_cons_zero, List.setIfInBounds_toArray, List.set_cons_zero, List.set_cons_succ]
                    refine wp_append_texts _ _ rfl w5.heap.size w.heap.size _ 0 [] rfl hE _ all.length all rfl (own_below Hown5.out hHeld) (by omega) hHeld.size fun vF wy3 hF hgrow => ?_
                    have hF : wy3.ownsRow w5.heap.size 9 1 vF all.length (all.map S) := by have h := hF; rw [Nat.zero_add] at h; exact h
                    have hby4 := hHeld.grown hgrow hHeld.size (fun k hk => (hE.lt k hk).1)
                    clear hE hgrow
                    refine hK1.out _ _ (hby4) (fun hHeld => ?_)
                    clear hK1 K1
                    try simp only [Act.put, List.getElem_toArray, List.getElem_cons_succ, List.getElem_cons_zero, List.setIfInBounds_toArray, List.set_cons_zero, List.set_cons_succ]
                    refine wpAnyH_ready (rs := [8]) (by kernel_rfl) (by simp) (AllReadyH.cons rfl (fun K1 hK1 => ?_) AllReadyH.nil)
                    try simp only [Act.put, List.getElem_toArray, List.getElem_cons_succ, List.getElem_cons_zero, List.setIfInBounds_toArray, List.set_cons_zero, List.set_cons_succ]
                    go_simp
                    have hby6 := (Below.refl wy3.heap.size wy3).alloc (Nat.le_refl _) (.cells #[.string sv] 9)
                    have hF := own_below hF hby6
                    have hZ : Row (wy3.alloc (.cells #[.string sv] 9)) wy3.heap.size 9 [.string sv] := Row.new _ _ _
                    have hHeld2 := hHeld.trans (hby6.mono hHeld.size)
                    generalize wy3.alloc (.cells #[.string sv] 9) = wy5 at *
                    obtain ⟨gZ, hgZe⟩ : ∃ gZ, gZ = wy3.heap.size := ⟨_, rfl⟩
                    rw [← hgZe] at hZ ⊢
                    refine hK1.out _ _ (hHeld2) (fun hHeld => ?_)
                    clear hK1 K1
                    try simp only [Act.put, List.getElem_toArray, List.getElem_cons_succ, List.getElem_cons_zero, List.setIfInBounds_toArray, List.set_cons_zero, List.set_cons_succ]
                    clear hgZe
                    refine wpAnyH_ready (rs := [9]) (by kernel_rfl) (by simp) (AllReadyH.cons rfl (fun K1 hK1 => ?_) AllReadyH.nil)
                    try simp only [Act.put, List.getElem_toArray, List.getElem_cons_succ, List.getElem_cons_zero, List.setIfInBounds_toArray, List.set_cons_zero, List.set_cons_succ]
                    obtain ⟨i0, hi, hz0, hz1, hz2⟩ := info_parts str_info
                    have hZc := Row.cell hZ 0 (by simp)
                    refine wp_append_own wy5 _ _ 22 rfl w5.heap.size 9 i0 (.string ByteArray.empty) 1 16 Tryd.underlying22 hi hz0 hz1 hz2 rfl (by decide) _ all.length (all.map S) rfl hF ⟨gZ, 0, none⟩ 1 1 [.string sv] rfl rfl (fun m u hm => by
                        have hml : m < 1 := (List.getElem?_eq_some_iff.1 hm).1
                        obtain rfl : m = 0 := by omega
                        have hu : Value.string sv = u := by simpa using hm
                        rw [← hu]; exact hZc) (by simp [Value.oneCell']) (Nat.le_trans (show all.length + 1 ≤ 1000000000 by omega) (by decide)) (by omega) hHeld.size fun vG wy7 hG hgrow _ => ?_
                    have hby8 := hHeld.grown hgrow hHeld.size (fun k hk => (hF.lt k hk).1)
                    clear hF hZ hgrow hZc
                    refine hK1.out _ _ (hby8) (fun hHeld => ?_)
                    clear hK1 K1
                    try simp only [Act.put, List.getElem_toArray, List.getElem_cons_succ, List.getElem_cons_zero, List.setIfInBounds_toArray, List.set_cons_zero, List.set_cons_succ]
                    refine wpAnyH_take (i := 10) (v := vG) rfl (by kernel_rfl) (by kernel_rfl) (by kernel_rfl) (fun _ _ _ h => h) (Or.inl ⟨by rfl, fun w' hSw => by go_simp⟩) hHeld ?_
                    try simp only [Act.put, List.getElem_toArray, List.getElem_cons_succ, List.getElem_cons_zero, List.setIfInBounds_toArray, List.set_cons_zero, List.set_cons_succ]
                    refine wpAnyH_done (by kernel_rfl) ?_ _
                    refine NoPanic.normal ?_
                    have hown9 : wy7.ownsRow w.heap.size 9 1 vG (all ++ [x.s]).length ((all ++ [x.s]).map S) := by
                      have h := own_base hG Hb5.out.size
                      rw [List.length_append, List.map_append, List.map_singleton, HSs.out]
                      exact h
                    have hlt9 := fun k hk => (hG.lt k hk).1
                    have HX := Lib.hid hHeld
                    have Hown9 := Lib.hid hown9
                    have Hlt9 := Lib.hid hlt9
                    clear hHeld hG hown9 hlt9
                    have hJ9 := HJ5.out.below HX.out
                    have hb9 := Hb5.out.trans (HX.out.mono Hb5.out.size)
                    have hap9 : ∀ k, vG.ownBlock = some k → ¬ Z5 k ∧ k ≠ q := fun k hk => by
                      have h := Hlt9.out k hk
                      refine ⟨fun hz => ?_, ?_⟩
                      · have := (HJ5.out.disk.1 k hz).2; omega
                      · have := Row.lt HJ5.out.row; omega
                    have HJ9 := Lib.hid hJ9
                    have Hb9 := Lib.hid hb9
                    have Hap9 := Lib.hid hap9
                    clear hJ9 hb9 hap9
                    have hI := HI.out
                    rcases hI with ⟨hc, o5, hl5, hinv⟩ | ⟨hc, hdn⟩
                    · subst hc
                      subst hl5
                      have Hinv := Lib.hid hinv
                      clear hinv
                      go_wp2_with fail
                      refine ⟨⟨Z5, _, r5, j5, all ++ [x.s], safe, i + 1, rfl, by go_num, HJ9.out, HZ5.out, Hb9.out, Hown9.out, Hap9.out, by rw [List.length_append]; show all.length + 1 ≤ _; omega, .inl ⟨o5, rfl, Hinv.out, by omega, by omega, by rw [List.length_append]; show all.length + 1 ≤ _; omega⟩⟩, by simp [intOf]; omega⟩
                    · have d5 : (c5 != 0) = true := by simpa using hc
                      have Hdn := Lib.hid hdn
                      clear hdn hc
                      go_wp2_with fail
                      refine ⟨⟨Z5, _, r5, j5, all ++ [x.s], safe, acts.length + 1, rfl, by go_num, HJ9.out, HZ5.out, Hb9.out, Hown9.out, Hap9.out, by rw [List.length_append]; show all.length + 1 ≤ _; omega, .inr ⟨rfl, Hdn.out⟩⟩, by simp [intOf]; omega⟩
                  · skip
                    try simp only [Act.put, List.getElem_toArray, List.getElem_cons_succ, List.getElem_cons_zero, List.setIfInBounds_toArray, List.set_cons_zero, List.set_cons_succ]
                    go_simp
                    have hby10 := (Below.refl wy1.heap.size wy1).alloc (Nat.le_refl _) (.cells #[.string sv] 9)
                    have hEZ : wy1.heap.size ≠ gE := by have := (hE.lt gE rfl).2; omega
                    have hE := own_below hE hby10
                    have hZ : Row (wy1.alloc (.cells #[.string sv] 9)) wy1.heap.size 9 [.string sv] := Row.new _ _ _
                    have hHeld2 := hHeld.trans (hby10.mono hHeld.size)
                    generalize wy1.alloc (.cells #[.string sv] 9) = wy9 at *
                    obtain ⟨gZ, hgZe⟩ : ∃ gZ, gZ = wy1.heap.size := ⟨_, rfl⟩
                    rw [← hgZe] at hZ hEZ ⊢
                    refine hK1.out _ _ (hHeld2) (fun hHeld => ?_)
                    clear hK1 K1
                    try simp only [Act.put, List.getElem_toArray, List.getElem_cons_succ, List.getElem_cons_zero, List.setIfInBounds_toArray, List.set_cons_zero, List.set_cons_succ]
                    clear hgZe
                    refine wpAnyH_ready (rs := [2]) (by kernel_rfl) (by simp) (AllReadyH.cons rfl (fun K1 hK1 => ?_) AllReadyH.nil)
                    try simp only [Act.put, List.getElem_toArray, List.getElem_cons_succ, List.getElem_cons_zero, List.setIfInBounds_toArray, List.set_cons_zero, List.set_cons_succ]
                    refine wp_append_texts _ _ rfl w5.heap.size w.heap.size _ 0 [] rfl hE _ all.length all rfl (own_below Hown5.out hHeld) (by omega) hHeld.size fun vF wy11 hF hgrow => ?_
                    have hF : wy11.ownsRow w5.heap.size 9 1 vF all.length (all.map S) := by have h := hF; rw [Nat.zero_add] at h; exact h
                    have hby12 := hHeld.grown hgrow hHeld.size (fun k hk => (hE.lt k hk).1)
                    have hZ := Row.kept hZ hgrow (by intro h; injection h with h; exact hEZ h)
                    clear hE hgrow
                    refine hK1.out _ _ (hby12) (fun hHeld => ?_)
                    clear hK1 K1
                    try simp only [Act.put, List.getElem_toArray, List.getElem_cons_succ, List.getElem_cons_zero, List.setIfInBounds_toArray, List.set_cons_zero, List.set_cons_succ]
                    refine wpAnyH_ready (rs := [9]) (by kernel_rfl) (by simp) (AllReadyH.cons rfl (fun K1 hK1 => ?_) AllReadyH.nil)
                    try simp only [Act.put, List.getElem_toArray, List.getElem_cons_succ, List.getElem_cons_zero, List.setIfInBounds_toArray, List.set_cons_zero, List.set_cons_succ]
                    obtain ⟨i0, hi, hz0, hz1, hz2⟩ := info_parts str_info
                    have hZc := Row.cell hZ 0 (by simp)
                    refine wp_append_own wy11 _ _ 22 rfl w5.heap.size 9 i0 (.string ByteArray.empty) 1 16 Tryd.underlying22 hi hz0 hz1 hz2 rfl (by decide) _ all.length (all.map S) rfl hF ⟨gZ, 0, none⟩ 1 1 [.string sv] rfl rfl (fun m u hm => by
                        have hml : m < 1 := (List.getElem?_eq_some_iff.1 hm).1
                        obtain rfl : m = 0 := by omega
                        have hu : Value.string sv = u := by simpa using hm
                        rw [← hu]; exact hZc) (by simp [Value.oneCell']) (Nat.le_trans (show all.length + 1 ≤ 1000000000 by omega) (by decide)) (by omega) hHeld.size fun vG wy13 hG hgrow _ => ?_
                    have hby14 := hHeld.grown hgrow hHeld.size (fun k hk => (hF.lt k hk).1)
                    clear hF hZ hgrow hZc
                    refine hK1.out _ _ (hby14) (fun hHeld => ?_)
                    clear hK1 K1
                    try simp only [Act.put, List.getElem_toArray, List.getElem_cons_succ, List.getElem_cons_zero, List.setIfInBounds_toArray, List.set_cons_zero, List.set_cons_succ]
                    refine wpAnyH_take (i := 10) (v := vG) rfl (by kernel_rfl) (by kernel_rfl) (by kernel_rfl) (fun _ _ _ h => h) (Or.inl ⟨by rfl, fun w' hSw => by go_simp⟩) hHeld ?_
                    try simp only [Act.put, List.getElem_toArray, List.getElem_cons_succ, List.getElem_cons_zero, List.setIfInBounds_toArray, List.set_cons_zero, List.set_cons_succ]
                    refine wpAnyH_done (by kernel_rfl) ?_ _
                    refine NoPanic.normal ?_
                    have hown9 : wy13.ownsRow w.heap.size 9 1 vG (all ++ [x.s]).length ((all ++ [x.s]).map S) := by
                      have h := own_base hG Hb5.out.size
                      rw [List.length_append, List.map_append, List.map_singleton, HSs.out]
                      exact h
                    have hlt9 := fun k hk => (hG.lt k hk).1
                    have HX := Lib.hid hHeld
                    have Hown9 := Lib.hid hown9
                    have Hlt9 := Lib.hid hlt9
                    clear hHeld hG hown9 hlt9
                    have hJ9 := HJ5.out.below HX.out
                    have hb9 := Hb5.out.trans (HX.out.mono Hb5.out.size)
                    have hap9 : ∀ k, vG.ownBlock = some k → ¬ Z5 k ∧ k ≠ q := fun k hk => by
                      have h := Hlt9.out k hk
                      refine ⟨fun hz => ?_, ?_⟩
                      · have := (HJ5.out.disk.1 k hz).2; omega
                      · have := Row.lt HJ5.out.row; omega
                    have HJ9 := Lib.hid hJ9
                    have Hb9 := Lib.hid hb9
                    have Hap9 := Lib.hid hap9
                    clear hJ9 hb9 hap9
                    have hI := HI.out
                    rcases hI with ⟨hc, o5, hl5, hinv⟩ | ⟨hc, hdn⟩
                    · subst hc
                      subst hl5
                      have Hinv := Lib.hid hinv
                      clear hinv
                      go_wp2_with fail
                      refine ⟨⟨Z5, _, r5, j5, all ++ [x.s], safe, i + 1, rfl, by go_num, HJ9.out, HZ5.out, Hb9.out, Hown9.out, Hap9.out, by rw [List.length_append]; show all.length + 1 ≤ _; omega, .inl ⟨o5, rfl, Hinv.out, by omega, by omega, by rw [List.length_append]; show all.length + 1 ≤ _; omega⟩⟩, by simp [intOf]; omega⟩
                    · have d5 : (c5 != 0) = true := by simpa using hc
                      have Hdn := Lib.hid hdn
                      clear hdn hc
                      go_wp2_with fail
                      refine ⟨⟨Z5, _, r5, j5, all ++ [x.s], safe, acts.length + 1, rfl, by go_num, HJ9.out, HZ5.out, Hb9.out, Hown9.out, Hap9.out, by rw [List.length_append]; show all.length + 1 ≤ _; omega, .inr ⟨rfl, Hdn.out⟩⟩, by simp [intOf]; omega⟩
                · skip
                  try simp only [Act.put, List.getElem_toArray, List.getElem_cons_succ, List.getElem_cons_zero, List.setIfInBounds_toArray, List.set_cons_zero, List.set_cons_succ]
                  go_simp
                  have hby16 := (Below.refl wd.heap.size wd).alloc (Nat.le_refl _) (.cells #[.string sv] 9)
                  have hZ : Row (wd.alloc (.cells #[.string sv] 9)) wd.heap.size 9 [.string sv] := Row.new _ _ _
                  have hHeld2 := hHeld.trans (hby16.mono hHeld.size)
                  generalize wd.alloc (.cells #[.string sv] 9) = wy15 at *
                  obtain ⟨gZ, hgZe⟩ : ∃ gZ, gZ = wd.heap.size := ⟨_, rfl⟩
                  rw [← hgZe] at hZ ⊢
                  refine hK1.out _ _ (hHeld2) (fun hHeld => ?_)
                  clear hK1 K1
                  try simp only [Act.put, List.getElem_toArray, List.getElem_cons_succ, List.getElem_cons_zero, List.setIfInBounds_toArray, List.set_cons_zero, List.set_cons_succ]
                  clear hgZe
                  refine wpAnyH_ready (rs := [0]) (by kernel_rfl) (by simp) (AllReadyH.cons rfl (fun K1 hK1 => ?_) AllReadyH.nil)
                  try simp only [Act.put, List.getElem_toArray, List.getElem_cons_succ, List.getElem_cons_zero, List.setIfInBounds_toArray, List.set_cons_zero, List.set_cons_succ]
                  go_simp
                  have hE : (wy15.alloc (.cells #[] 9)).ownsRow w5.heap.size 9 1 (.slice (some ⟨wy15.heap.size, 0, none⟩) 0 0) 0 [] := ⟨rfl, .inr ⟨wy15.heap.size, 0, #[], rfl, hHeld.size, heap_alloc_new _ _, Nat.le_refl _, Nat.zero_le _, rfl, rfl⟩⟩
                  have hby18 := (Below.refl wy15.heap.size wy15).alloc (Nat.le_refl _) (.cells #[] 9)
                  have hEZ : gZ ≠ wy15.heap.size := by have := Row.lt hZ; omega
                  have hZ := hZ.below hby18
                  have hHeld2 := hHeld.trans (hby18.mono hHeld.size)
                  generalize wy15.alloc (.cells #[] 9) = wy17 at *
                  obtain ⟨gE, hgEe⟩ : ∃ gE, gE = wy15.heap.size := ⟨_, rfl⟩
                  rw [← hgEe] at hE hEZ ⊢
                  refine hK1.out _ _ (hHeld2) (fun hHeld => ?_)
                  clear hK1 K1
                  try simp only [Act.put, List.getElem_toArray, List.getElem_cons_succ, List.getElem_cons_zero, List.setIfInBounds_toArray, List.set_cons_zero, List.set_cons_succ]
                  clear hgEe
                  refine wpAnyH_ready (rs := [2]) (by kernel_rfl) (by simp) (AllReadyH.cons rfl (fun K1 hK1 => ?_) AllReadyH.nil)
                  try simp only [Act.put, List.getElem_toArray, List.getElem_cons_succ, List.getElem_cons_zero, List.setIfInBounds_toArray, List.set_cons_zero, List.set_cons_succ]
                  refine wp_append_texts _ _ rfl w5.heap.size w.heap.size _ 0 [] rfl hE _ all.length all rfl (own_below Hown5.out hHeld) (by omega) hHeld.size fun vF wy19 hF hgrow => ?_
                  have hF : wy19.ownsRow w5.heap.size 9 1 vF all.length (all.map S) := by have h := hF; rw [Nat.zero_add] at h; exact h
                  have hby20 := hHeld.grown hgrow hHeld.size (fun k hk => (hE.lt k hk).1)
                  have hZ := Row.kept hZ hgrow (by intro h; injection h with h; exact hEZ h)
                  clear hE hgrow
                  refine hK1.out _ _ (hby20) (fun hHeld => ?_)
                  clear hK1 K1
                  try simp only [Act.put, List.getElem_toArray, List.getElem_cons_succ, List.getElem_cons_zero, List.setIfInBounds_toArray, List.set_cons_zero, List.set_cons_succ]
                  refine wpAnyH_ready (rs := [9]) (by kernel_rfl) (by simp) (AllReadyH.cons rfl (fun K1 hK1 => ?_) AllReadyH.nil)
                  try simp only [Act.put, List.getElem_toArray, List.getElem_cons_succ, List.getElem_cons_zero, List.setIfInBounds_toArray, List.set_cons_zero, List.set_cons_succ]
                  obtain ⟨i0, hi, hz0, hz1, hz2⟩ := info_parts str_info
                  have hZc := Row.cell hZ 0 (by simp)
                  refine wp_append_own wy19 _ _ 22 rfl w5.heap.size 9 i0 (.string ByteArray.empty) 1 16 Tryd.underlying22 hi hz0 hz1 hz2 rfl (by decide) _ all.length (all.map S) rfl hF ⟨gZ, 0, none⟩ 1 1 [.string sv] rfl rfl (fun m u hm => by
                      have hml : m < 1 := (List.getElem?_eq_some_iff.1 hm).1
                      obtain rfl : m = 0 := by omega
                      have hu : Value.string sv = u := by simpa using hm
                      rw [← hu]; exact hZc) (by simp [Value.oneCell']) (Nat.le_trans (show all.length + 1 ≤ 1000000000 by omega) (by decide)) (by omega) hHeld.size fun vG wy21 hG hgrow _ => ?_
                  have hby22 := hHeld.grown hgrow hHeld.size (fun k hk => (hF.lt k hk).1)
                  clear hF hZ hgrow hZc
                  refine hK1.out _ _ (hby22) (fun hHeld => ?_)
                  clear hK1 K1
                  try simp only [Act.put, List.getElem_toArray, List.getElem_cons_succ, List.getElem_cons_zero, List.setIfInBounds_toArray, List.set_cons_zero, List.set_cons_succ]
                  refine wpAnyH_take (i := 10) (v := vG) rfl (by kernel_rfl) (by kernel_rfl) (by kernel_rfl) (fun _ _ _ h => h) (Or.inl ⟨by rfl, fun w' hSw => by go_simp⟩) hHeld ?_
                  try simp only [Act.put, List.getElem_toArray, List.getElem_cons_succ, List.getElem_cons_zero, List.setIfInBounds_toArray, List.set_cons_zero, List.set_cons_succ]
                  refine wpAnyH_done (by kernel_rfl) ?_ _
                  refine NoPanic.normal ?_
                  have hown9 : wy21.ownsRow w.heap.size 9 1 vG (all ++ [x.s]).length ((all ++ [x.s]).map S) := by
                    have h := own_base hG Hb5.out.size
                    rw [List.length_append, List.map_append, List.map_singleton, HSs.out]
                    exact h
                  have hlt9 := fun k hk => (hG.lt k hk).1
                  have HX := Lib.hid hHeld
                  have Hown9 := Lib.hid hown9
                  have Hlt9 := Lib.hid hlt9
                  clear hHeld hG hown9 hlt9
                  have hJ9 := HJ5.out.below HX.out
                  have hb9 := Hb5.out.trans (HX.out.mono Hb5.out.size)
                  have hap9 : ∀ k, vG.ownBlock = some k → ¬ Z5 k ∧ k ≠ q := fun k hk => by
                    have h := Hlt9.out k hk
                    refine ⟨fun hz => ?_, ?_⟩
                    · have := (HJ5.out.disk.1 k hz).2; omega
                    · have := Row.lt HJ5.out.row; omega
                  have HJ9 := Lib.hid hJ9
                  have Hb9 := Lib.hid hb9
                  have Hap9 := Lib.hid hap9
                  clear hJ9 hb9 hap9
                  have hI := HI.out
                  rcases hI with ⟨hc, o5, hl5, hinv⟩ | ⟨hc, hdn⟩
                  · subst hc
                    subst hl5
                    have Hinv := Lib.hid hinv
                    clear hinv
                    go_wp2_with fail
                    refine ⟨⟨Z5, _, r5, j5, all ++ [x.s], safe, i + 1, rfl, by go_num, HJ9.out, HZ5.out, Hb9.out, Hown9.out, Hap9.out, by rw [List.length_append]; show all.length + 1 ≤ _; omega, .inl ⟨o5, rfl, Hinv.out, by omega, by omega, by rw [List.length_append]; show all.length + 1 ≤ _; omega⟩⟩, by simp [intOf]; omega⟩
                  · have d5 : (c5 != 0) = true := by simpa using hc
                    have Hdn := Lib.hid hdn
                    clear hdn hc
                    go_wp2_with fail
                    refine ⟨⟨Z5, _, r5, j5, all ++ [x.s], safe, acts.length + 1, rfl, by go_num, HJ9.out, HZ5.out, Hb9.out, Hown9.out, Hap9.out, by rw [List.length_append]; show all.length + 1 ≤ _; omega, .inr ⟨rfl, Hdn.out⟩⟩, by simp [intOf]; omega⟩
              · have d2 : decide ((sv.size : Int) ≤ 4096) = false := by simp only [decide_eq_false_iff_not]; omega
                have d2' : decide (sv.size ≤ 4096) = false := by simp only [decide_eq_false_iff_not]; exact h4
                go_wp2_with fail
                refine ⟨⟨Z, _, r, j, all, safe, i + 1, rfl, by go_num, HJ.out, HZ.out, Hb.out, Hown.out, Hap.out, by omega, .inl ⟨o, rfl, Hinv0.out, by omega, by omega, by omega⟩⟩, by simp [intOf]; omega⟩
          by_cases k1 : kd = 1
          · subst k1
            clear k0
            as_aux_lemma =>
              by_cases h4 : sv.size ≤ 4096
              · have d2 : decide ((sv.size : Int) ≤ 4096) = true := by simp only [decide_eq_true_eq]; omega
                have d2' : decide (sv.size ≤ 4096) = true := by simp only [decide_eq_true_eq]; exact h4
                have kA := jadd_at HJ.out x.s (by omega) (by have := Hinv0.out.len; omega)
                have hI := Jr.Inv.add (r := r) Hinv0.out x.s (by omega)
                rcases hA : Jr.addR (Jr.St o none) r j x.s with ⟨l5, r5, j5, c5⟩
                rw [hA] at kA hI
                rw [HSb.out] at kA
                have KA := Lib.hid kA
                have HI : Hid ((c5 = 0 ∧ ∃ o', l5 = Jr.St o' none ∧ Jr.Inv o' j5 (all ++ [x.s]) safe) ∨ (c5 ≠ 0 ∧ Jr.Done l5 (all ++ [x.s]) safe)) := Lib.hid hI
                clear kA hI hA
                go_wp2_with fail
                refine KA.out.mono ?_
                rintro _ w5 ⟨rfl, t⟩
                obtain ⟨Z5, hJ5, hP5, hC5⟩ := t
                have hZ5 : ∀ k, Z5 k → w.heap.size ≤ k := fun k hk => by
                  rcases hP5 k hk with h | h
                  · exact HZ.out k h
                  · have := Hb.out.size; omega
                have ho5 := hC5.ownsRow Hown.out (fun k hk hp => by
                  rcases hp with h | h
                  · exact (Hap.out k hk).1 h
                  · exact (Hap.out k hk).2 h)
                have hap5 : ∀ k, u11.ownBlock = some k → ¬ Z5 k ∧ k ≠ q := fun k hk => ⟨fun hz => by
                  rcases hP5 k hz with h | h
                  · exact (Hap.out k hk).1 h
                  · have := (Hown.out.lt k hk).2; omega, (Hap.out k hk).2⟩
                have Hb5 := Lib.hid (chg_below hC5 (fun k hk => by
                  rcases hk with h | h
                  · exact HZ.out k h
                  · omega) Hb.out)
                have HJ5 := Lib.hid hJ5
                have HZ5 := Lib.hid hZ5
                have Hown5 := Lib.hid ho5
                have Hap5 := Lib.hid hap5
                clear hJ5 hP5 hC5 hZ5 ho5 hap5
                have hcv : ∀ w', Below w5.heap.size w5 w' → w'.cell? ⟨b, off + i * 5 + 1, none⟩ = some (.string sv) := fun w' hb => by
                  have h := Hb5.out.trans (hb.mono Hb5.out.size)
                  exact (World.cell?_of_block (a := ⟨b, off + i * 5 + 1, none⟩) (h.block b hbl)).trans Hcw1.out
                have Hcv := Lib.hid hcv
                clear hcv
                go_wp2_with fail
                refine wp_region_noPanic ?_
                refine wp_region_held_drew (S := fun w' => Below w5.heap.size w5 w') (by kernel_rfl) ((Below.refl _ _).drew) (fun hHeld => ?_)
                generalize w5.drew = wd at *
                refine wpAnyH_take (i := 1) (v := u11) rfl (by kernel_rfl) (by kernel_rfl) (by kernel_rfl) (fun _ _ _ h => h) (Or.inl ⟨by rfl, fun w' hSw => by go_simp⟩) hHeld ?_
                try simp only [Act.put, List.getElem_toArray, List.getElem_cons_succ, List.getElem_cons_zero, List.setIfInBounds_toArray, List.set_cons_zero, List.set_cons_succ]
                refine wpAnyH_take (i := 3) (v := .slice (some ⟨b, off, none⟩) acts.length c) rfl (by kernel_rfl) (by kernel_rfl) (by kernel_rfl) (fun _ _ _ h => h) (Or.inl ⟨by rfl, fun w' hSw => by go_simp⟩) hHeld ?_
                try simp only [Act.put, List.getElem_toArray, List.getElem_cons_succ, List.getElem_cons_zero, List.setIfInBounds_toArray, List.set_cons_zero, List.set_cons_succ]
                refine wpAnyH_take (i := 4) (v := .int .i64 (i : Int)) rfl (by kernel_rfl) (by kernel_rfl) (by kernel_rfl) (fun _ _ _ h => h) (Or.inl ⟨by rfl, fun w' hSw => by go_simp⟩) hHeld ?_
                try simp only [Act.put, List.getElem_toArray, List.getElem_cons_succ, List.getElem_cons_zero, List.setIfInBounds_toArray, List.set_cons_zero, List.set_cons_succ]
                refine wpAnyH_take (i := 5) (v := .pointer (some ⟨b, off + i * 5, none⟩)) rfl (by kernel_rfl) (by kernel_rfl) (by kernel_rfl) (fun _ _ _ h => h) (Or.inl ⟨by rfl, fun w' hSw => by go_simp⟩) hHeld ?_
                try simp only [Act.put, List.getElem_toArray, List.getElem_cons_succ, List.getElem_cons_zero, List.setIfInBounds_toArray, List.set_cons_zero, List.set_cons_succ]
                refine wpAnyH_take (i := 6) (v := .pointer (some ⟨b, off + i * 5 + 1, none⟩)) rfl (by kernel_rfl) (by kernel_rfl) (by kernel_rfl) (fun _ _ _ h => h) (Or.inl ⟨by rfl, fun w' hSw => by go_simp⟩) hHeld ?_
                try simp only [Act.put, List.getElem_toArray, List.getElem_cons_succ, List.getElem_cons_zero, List.setIfInBounds_toArray, List.set_cons_zero, List.set_cons_succ]
                refine wpAnyH_take (i := 7) (v := .string sv) rfl (by kernel_rfl) (by kernel_rfl) (by kernel_rfl) (fun _ _ _ h => h) (Or.inl ⟨by rfl, fun w' hSw => by have hq := hSw; have hcl := Hcv.out w' hq; go_simp⟩) hHeld ?_
                try simp only [Act.put, List.getElem_toArray, List.getElem_cons_succ, List.getElem_cons_zero, List.setIfInBounds_toArray, List.set_cons_zero, List.set_cons_succ]
                refine wpAnyH_ready (rs := [0, 8]) (by kernel_rfl) (by simp) (AllReadyH.cons rfl (fun K1 hK1 => ?_) (AllReadyH.cons rfl (fun K1 hK1 => ?_) AllReadyH.nil))
                · skip
                  try simp only [Act.put, List.getElem_toArray, List.getElem_cons_succ, List.getElem_cons_zero, List.setIfInBounds_toArray, List.set_cons_zero, List.set_cons_succ]
                  go_simp
                  have hE : (wd.alloc (.cells #[] 9)).ownsRow w5.heap.size 9 1 (.slice (some ⟨wd.heap.size, 0, none⟩) 0 0) 0 [] := ⟨rfl, .inr ⟨wd.heap.size, 0, #[], rfl, hHeld.size, heap_alloc_new _ _, Nat.le_refl _, Nat.zero_le _, rfl, rfl⟩⟩
                  have hby24 := (Below.refl wd.heap.size wd).alloc (Nat.le_refl _) (.cells #[] 9)
                  have hHeld2 := hHeld.trans (hby24.mono hHeld.size)
                  generalize wd.alloc (.cells #[] 9) = wy23 at *
                  obtain ⟨gE, hgEe⟩ : ∃ gE, gE = wd.heap.size := ⟨_, rfl⟩
                  rw [← hgEe] at hE ⊢
                  refine hK1.out _ _ (hHeld2) (fun hHeld => ?_)
                  clear hK1 K1
                  try simp only [Act.put, List.getElem_toArray, List.getElem_cons_succ, List.getElem_cons_zero, List.setIfInBounds_toArray, List.set_cons_zero, List.set_cons_succ]
                  clear hgEe
                  refine wpAnyH_ready (rs := [2, 8]) (by kernel_rfl) (by simp) (AllReadyH.cons rfl (fun K1 hK1 => ?_) (AllReadyH.cons rfl (fun K1 hK1 => ?_) AllReadyH.nil))
                  · skip
                    try simp only [Act.put, List.getElem_toArray, List.getElem_cons_succ, List.getElem_cons_zero, List.setIfInBounds_toArray, List.set_cons_zero, List.set_cons_succ]
                    refine wp_append_texts _ _ rfl w5.heap.size w.heap.size _ 0 [] rfl hE _ all.length all rfl (own_below Hown5.out hHeld) (by omega) hHeld.size fun vF wy25 hF hgrow => ?_
                    have hF : wy25.ownsRow w5.heap.size 9 1 vF all.length (all.map S) := by have h := hF; rw [Nat.zero_add] at h; exact h
                    have hby26 := hHeld.grown hgrow hHeld.size (fun k hk => (hE.lt k hk).1)
                    clear hE hgrow
                    refine hK1.out _ _ (hby26) (fun hHeld => ?_)
                    clear hK1 K1
                    try simp only [Act.put, List.getElem_toArray, List.getElem_cons_succ, List.getElem_cons_zero, List.setIfInBounds_toArray, List.set_cons_zero, List.set_cons_succ]
                    refine wpAnyH_ready (rs := [8]) (by kernel_rfl) (by simp) (AllReadyH.cons rfl (fun K1 hK1 => ?_) AllReadyH.nil)
                    try simp only [Act.put, List.getElem_toArray, List.getElem_cons_succ, List.getElem_cons_zero, List.setIfInBounds_toArray, List.set_cons_zero, List.set_cons_succ]
                    go_simp
                    have hby28 := (Below.refl wy25.heap.size wy25).alloc (Nat.le_refl _) (.cells #[.string sv] 9)
                    have hF := own_below hF hby28
                    have hZ : Row (wy25.alloc (.cells #[.string sv] 9)) wy25.heap.size 9 [.string sv] := Row.new _ _ _
                    have hHeld2 := hHeld.trans (hby28.mono hHeld.size)
                    generalize wy25.alloc (.cells #[.string sv] 9) = wy27 at *
                    obtain ⟨gZ, hgZe⟩ : ∃ gZ, gZ = wy25.heap.size := ⟨_, rfl⟩
                    rw [← hgZe] at hZ ⊢
                    refine hK1.out _ _ (hHeld2) (fun hHeld => ?_)
                    clear hK1 K1
                    try simp only [Act.put, List.getElem_toArray, List.getElem_cons_succ, List.getElem_cons_zero, List.setIfInBounds_toArray, List.set_cons_zero, List.set_cons_succ]
                    clear hgZe
                    refine wpAnyH_ready (rs := [9]) (by kernel_rfl) (by simp) (AllReadyH.cons rfl (fun K1 hK1 => ?_) AllReadyH.nil)
                    try simp only [Act.put, List.getElem_toArray, List.getElem_cons_succ, List.getElem_cons_zero, List.setIfInBounds_toArray, List.set_cons_zero, List.set_cons_succ]
                    obtain ⟨i0, hi, hz0, hz1, hz2⟩ := info_parts str_info
                    have hZc := Row.cell hZ 0 (by simp)
                    refine wp_append_own wy27 _ _ 22 rfl w5.heap.size 9 i0 (.string ByteArray.empty) 1 16 Tryd.underlying22 hi hz0 hz1 hz2 rfl (by decide) _ all.length (all.map S) rfl hF ⟨gZ, 0, none⟩ 1 1 [.string sv] rfl rfl (fun m u hm => by
                        have hml : m < 1 := (List.getElem?_eq_some_iff.1 hm).1
                        obtain rfl : m = 0 := by omega
                        have hu : Value.string sv = u := by simpa using hm
                        rw [← hu]; exact hZc) (by simp [Value.oneCell']) (Nat.le_trans (show all.length + 1 ≤ 1000000000 by omega) (by decide)) (by omega) hHeld.size fun vG wy29 hG hgrow _ => ?_
                    have hby30 := hHeld.grown hgrow hHeld.size (fun k hk => (hF.lt k hk).1)
                    clear hF hZ hgrow hZc
                    refine hK1.out _ _ (hby30) (fun hHeld => ?_)
                    clear hK1 K1
                    try simp only [Act.put, List.getElem_toArray, List.getElem_cons_succ, List.getElem_cons_zero, List.setIfInBounds_toArray, List.set_cons_zero, List.set_cons_succ]
                    refine wpAnyH_take (i := 10) (v := vG) rfl (by kernel_rfl) (by kernel_rfl) (by kernel_rfl) (fun _ _ _ h => h) (Or.inl ⟨by rfl, fun w' hSw => by go_simp⟩) hHeld ?_
                    try simp only [Act.put, List.getElem_toArray, List.getElem_cons_succ, List.getElem_cons_zero, List.setIfInBounds_toArray, List.set_cons_zero, List.set_cons_succ]
                    refine wpAnyH_done (by kernel_rfl) ?_ _
                    refine NoPanic.normal ?_
                    have hown9 : wy29.ownsRow w.heap.size 9 1 vG (all ++ [x.s]).length ((all ++ [x.s]).map S) := by
                      have h := own_base hG Hb5.out.size
                      rw [List.length_append, List.map_append, List.map_singleton, HSs.out]
                      exact h
                    have hlt9 := fun k hk => (hG.lt k hk).1
                    have HX := Lib.hid hHeld
                    have Hown9 := Lib.hid hown9
                    have Hlt9 := Lib.hid hlt9
                    clear hHeld hG hown9 hlt9
                    have hJ9 := HJ5.out.below HX.out
                    have hb9 := Hb5.out.trans (HX.out.mono Hb5.out.size)
                    have hap9 : ∀ k, vG.ownBlock = some k → ¬ Z5 k ∧ k ≠ q := fun k hk => by
                      have h := Hlt9.out k hk
                      refine ⟨fun hz => ?_, ?_⟩
                      · have := (HJ5.out.disk.1 k hz).2; omega
                      · have := Row.lt HJ5.out.row; omega
                    have HJ9 := Lib.hid hJ9
                    have Hb9 := Lib.hid hb9
                    have Hap9 := Lib.hid hap9
                    clear hJ9 hb9 hap9
                    have hI := HI.out
                    rcases hI with ⟨hc, o5, hl5, hinv⟩ | ⟨hc, hdn⟩
                    · subst hc
                      subst hl5
                      have Hinv := Lib.hid hinv
                      clear hinv
                      go_wp2_with fail
                      refine ⟨⟨Z5, _, r5, j5, all ++ [x.s], safe, i + 1, rfl, by go_num, HJ9.out, HZ5.out, Hb9.out, Hown9.out, Hap9.out, by rw [List.length_append]; show all.length + 1 ≤ _; omega, .inl ⟨o5, rfl, Hinv.out, by omega, by omega, by rw [List.length_append]; show all.length + 1 ≤ _; omega⟩⟩, by simp [intOf]; omega⟩
                    · have d5 : (c5 != 0) = true := by simpa using hc
                      have Hdn := Lib.hid hdn
                      clear hdn hc
                      go_wp2_with fail
                      refine ⟨⟨Z5, _, r5, j5, all ++ [x.s], safe, acts.length + 1, rfl, by go_num, HJ9.out, HZ5.out, Hb9.out, Hown9.out, Hap9.out, by rw [List.length_append]; show all.length + 1 ≤ _; omega, .inr ⟨rfl, Hdn.out⟩⟩, by simp [intOf]; omega⟩
                  · skip
                    try simp only [Act.put, List.getElem_toArray, List.getElem_cons_succ, List.getElem_cons_zero, List.setIfInBounds_toArray, List.set_cons_zero, List.set_cons_succ]
                    go_simp
                    have hby32 := (Below.refl wy23.heap.size wy23).alloc (Nat.le_refl _) (.cells #[.string sv] 9)
                    have hEZ : wy23.heap.size ≠ gE := by have := (hE.lt gE rfl).2; omega
                    have hE := own_below hE hby32
                    have hZ : Row (wy23.alloc (.cells #[.string sv] 9)) wy23.heap.size 9 [.string sv] := Row.new _ _ _
                    have hHeld2 := hHeld.trans (hby32.mono hHeld.size)
                    generalize wy23.alloc (.cells #[.string sv] 9) = wy31 at *
                    obtain ⟨gZ, hgZe⟩ : ∃ gZ, gZ = wy23.heap.size := ⟨_, rfl⟩
                    rw [← hgZe] at hZ hEZ ⊢
                    refine hK1.out _ _ (hHeld2) (fun hHeld => ?_)
                    clear hK1 K1
                    try simp only [Act.put, List.getElem_toArray, List.getElem_cons_succ, List.getElem_cons_zero, List.setIfInBounds_toArray, List.set_cons_zero, List.set_cons_succ]
                    clear hgZe
                    refine wpAnyH_ready (rs := [2]) (by kernel_rfl) (by simp) (AllReadyH.cons rfl (fun K1 hK1 => ?_) AllReadyH.nil)
                    try simp only [Act.put, List.getElem_toArray, List.getElem_cons_succ, List.getElem_cons_zero, List.setIfInBounds_toArray, List.set_cons_zero, List.set_cons_succ]
                    refine wp_append_texts _ _ rfl w5.heap.size w.heap.size _ 0 [] rfl hE _ all.length all rfl (own_below Hown5.out hHeld) (by omega) hHeld.size fun vF wy33 hF hgrow => ?_
                    have hF : wy33.ownsRow w5.heap.size 9 1 vF all.length (all.map S) := by have h := hF; rw [Nat.zero_add] at h; exact h
                    have hby34 := hHeld.grown hgrow hHeld.size (fun k hk => (hE.lt k hk).1)
                    have hZ := Row.kept hZ hgrow (by intro h; injection h with h; exact hEZ h)
                    clear hE hgrow
                    refine hK1.out _ _ (hby34) (fun hHeld => ?_)
                    clear hK1 K1
                    try simp only [Act.put, List.getElem_toArray, List.getElem_cons_succ, List.getElem_cons_zero, List.setIfInBounds_toArray, List.set_cons_zero, List.set_cons_succ]
                    refine wpAnyH_ready (rs := [9]) (by kernel_rfl) (by simp) (AllReadyH.cons rfl (fun K1 hK1 => ?_) AllReadyH.nil)
                    try simp only [Act.put, List.getElem_toArray, List.getElem_cons_succ, List.getElem_cons_zero, List.setIfInBounds_toArray, List.set_cons_zero, List.set_cons_succ]
                    obtain ⟨i0, hi, hz0, hz1, hz2⟩ := info_parts str_info
                    have hZc := Row.cell hZ 0 (by simp)
                    refine wp_append_own wy33 _ _ 22 rfl w5.heap.size 9 i0 (.string ByteArray.empty) 1 16 Tryd.underlying22 hi hz0 hz1 hz2 rfl (by decide) _ all.length (all.map S) rfl hF ⟨gZ, 0, none⟩ 1 1 [.string sv] rfl rfl (fun m u hm => by
                        have hml : m < 1 := (List.getElem?_eq_some_iff.1 hm).1
                        obtain rfl : m = 0 := by omega
                        have hu : Value.string sv = u := by simpa using hm
                        rw [← hu]; exact hZc) (by simp [Value.oneCell']) (Nat.le_trans (show all.length + 1 ≤ 1000000000 by omega) (by decide)) (by omega) hHeld.size fun vG wy35 hG hgrow _ => ?_
                    have hby36 := hHeld.grown hgrow hHeld.size (fun k hk => (hF.lt k hk).1)
                    clear hF hZ hgrow hZc
                    refine hK1.out _ _ (hby36) (fun hHeld => ?_)
                    clear hK1 K1
                    try simp only [Act.put, List.getElem_toArray, List.getElem_cons_succ, List.getElem_cons_zero, List.setIfInBounds_toArray, List.set_cons_zero, List.set_cons_succ]
                    refine wpAnyH_take (i := 10) (v := vG) rfl (by kernel_rfl) (by kernel_rfl) (by kernel_rfl) (fun _ _ _ h => h) (Or.inl ⟨by rfl, fun w' hSw => by go_simp⟩) hHeld ?_
                    try simp only [Act.put, List.getElem_toArray, List.getElem_cons_succ, List.getElem_cons_zero, List.setIfInBounds_toArray, List.set_cons_zero, List.set_cons_succ]
                    refine wpAnyH_done (by kernel_rfl) ?_ _
                    refine NoPanic.normal ?_
                    have hown9 : wy35.ownsRow w.heap.size 9 1 vG (all ++ [x.s]).length ((all ++ [x.s]).map S) := by
                      have h := own_base hG Hb5.out.size
                      rw [List.length_append, List.map_append, List.map_singleton, HSs.out]
                      exact h
                    have hlt9 := fun k hk => (hG.lt k hk).1
                    have HX := Lib.hid hHeld
                    have Hown9 := Lib.hid hown9
                    have Hlt9 := Lib.hid hlt9
                    clear hHeld hG hown9 hlt9
                    have hJ9 := HJ5.out.below HX.out
                    have hb9 := Hb5.out.trans (HX.out.mono Hb5.out.size)
                    have hap9 : ∀ k, vG.ownBlock = some k → ¬ Z5 k ∧ k ≠ q := fun k hk => by
                      have h := Hlt9.out k hk
                      refine ⟨fun hz => ?_, ?_⟩
                      · have := (HJ5.out.disk.1 k hz).2; omega
                      · have := Row.lt HJ5.out.row; omega
                    have HJ9 := Lib.hid hJ9
                    have Hb9 := Lib.hid hb9
                    have Hap9 := Lib.hid hap9
                    clear hJ9 hb9 hap9
                    have hI := HI.out
                    rcases hI with ⟨hc, o5, hl5, hinv⟩ | ⟨hc, hdn⟩
                    · subst hc
                      subst hl5
                      have Hinv := Lib.hid hinv
                      clear hinv
                      go_wp2_with fail
                      refine ⟨⟨Z5, _, r5, j5, all ++ [x.s], safe, i + 1, rfl, by go_num, HJ9.out, HZ5.out, Hb9.out, Hown9.out, Hap9.out, by rw [List.length_append]; show all.length + 1 ≤ _; omega, .inl ⟨o5, rfl, Hinv.out, by omega, by omega, by rw [List.length_append]; show all.length + 1 ≤ _; omega⟩⟩, by simp [intOf]; omega⟩
                    · have d5 : (c5 != 0) = true := by simpa using hc
                      have Hdn := Lib.hid hdn
                      clear hdn hc
                      go_wp2_with fail
                      refine ⟨⟨Z5, _, r5, j5, all ++ [x.s], safe, acts.length + 1, rfl, by go_num, HJ9.out, HZ5.out, Hb9.out, Hown9.out, Hap9.out, by rw [List.length_append]; show all.length + 1 ≤ _; omega, .inr ⟨rfl, Hdn.out⟩⟩, by simp [intOf]; omega⟩
                · skip
                  try simp only [Act.put, List.getElem_toArray, List.getElem_cons_succ, List.getElem_cons_zero, List.setIfInBounds_toArray, List.set_cons_zero, List.set_cons_succ]
                  go_simp
                  have hby38 := (Below.refl wd.heap.size wd).alloc (Nat.le_refl _) (.cells #[.string sv] 9)
                  have hZ : Row (wd.alloc (.cells #[.string sv] 9)) wd.heap.size 9 [.string sv] := Row.new _ _ _
                  have hHeld2 := hHeld.trans (hby38.mono hHeld.size)
                  generalize wd.alloc (.cells #[.string sv] 9) = wy37 at *
                  obtain ⟨gZ, hgZe⟩ : ∃ gZ, gZ = wd.heap.size := ⟨_, rfl⟩
                  rw [← hgZe] at hZ ⊢
                  refine hK1.out _ _ (hHeld2) (fun hHeld => ?_)
                  clear hK1 K1
                  try simp only [Act.put, List.getElem_toArray, List.getElem_cons_succ, List.getElem_cons_zero, List.setIfInBounds_toArray, List.set_cons_zero, List.set_cons_succ]
                  clear hgZe
                  refine wpAnyH_ready (rs := [0]) (by kernel_rfl) (by simp) (AllReadyH.cons rfl (fun K1 hK1 => ?_) AllReadyH.nil)
                  try simp only [Act.put, List.getElem_toArray, List.getElem_cons_succ, List.getElem_cons_zero, List.setIfInBounds_toArray, List.set_cons_zero, List.set_cons_succ]
                  go_simp
                  have hE : (wy37.alloc (.cells #[] 9)).ownsRow w5.heap.size 9 1 (.slice (some ⟨wy37.heap.size, 0, none⟩) 0 0) 0 [] := ⟨rfl, .inr ⟨wy37.heap.size, 0, #[], rfl, hHeld.size, heap_alloc_new _ _, Nat.le_refl _, Nat.zero_le _, rfl, rfl⟩⟩
                  have hby40 := (Below.refl wy37.heap.size wy37).alloc (Nat.le_refl _) (.cells #[] 9)
                  have hEZ : gZ ≠ wy37.heap.size := by have := Row.lt hZ; omega
                  have hZ := hZ.below hby40
                  have hHeld2 := hHeld.trans (hby40.mono hHeld.size)
                  generalize wy37.alloc (.cells #[] 9) = wy39 at *
                  obtain ⟨gE, hgEe⟩ : ∃ gE, gE = wy37.heap.size := ⟨_, rfl⟩
                  rw [← hgEe] at hE hEZ ⊢
                  refine hK1.out _ _ (hHeld2) (fun hHeld => ?_)
                  clear hK1 K1
                  try simp only [Act.put, List.getElem_toArray, List.getElem_cons_succ, List.getElem_cons_zero, List.setIfInBounds_toArray, List.set_cons_zero, List.set_cons_succ]
                  clear hgEe
                  refine wpAnyH_ready (rs := [2]) (by kernel_rfl) (by simp) (AllReadyH.cons rfl (fun K1 hK1 => ?_) AllReadyH.nil)
                  try simp only [Act.put, List.getElem_toArray, List.getElem_cons_succ, List.getElem_cons_zero, List.setIfInBounds_toArray, List.set_cons_zero, List.set_cons_succ]
                  refine wp_append_texts _ _ rfl w5.heap.size w.heap.size _ 0 [] rfl hE _ all.length all rfl (own_below Hown5.out hHeld) (by omega) hHeld.size fun vF wy41 hF hgrow => ?_
                  have hF : wy41.ownsRow w5.heap.size 9 1 vF all.length (all.map S) := by have h := hF; rw [Nat.zero_add] at h; exact h
                  have hby42 := hHeld.grown hgrow hHeld.size (fun k hk => (hE.lt k hk).1)
                  have hZ := Row.kept hZ hgrow (by intro h; injection h with h; exact hEZ h)
                  clear hE hgrow
                  refine hK1.out _ _ (hby42) (fun hHeld => ?_)
                  clear hK1 K1
                  try simp only [Act.put, List.getElem_toArray, List.getElem_cons_succ, List.getElem_cons_zero, List.setIfInBounds_toArray, List.set_cons_zero, List.set_cons_succ]
                  refine wpAnyH_ready (rs := [9]) (by kernel_rfl) (by simp) (AllReadyH.cons rfl (fun K1 hK1 => ?_) AllReadyH.nil)
                  try simp only [Act.put, List.getElem_toArray, List.getElem_cons_succ, List.getElem_cons_zero, List.setIfInBounds_toArray, List.set_cons_zero, List.set_cons_succ]
                  obtain ⟨i0, hi, hz0, hz1, hz2⟩ := info_parts str_info
                  have hZc := Row.cell hZ 0 (by simp)
                  refine wp_append_own wy41 _ _ 22 rfl w5.heap.size 9 i0 (.string ByteArray.empty) 1 16 Tryd.underlying22 hi hz0 hz1 hz2 rfl (by decide) _ all.length (all.map S) rfl hF ⟨gZ, 0, none⟩ 1 1 [.string sv] rfl rfl (fun m u hm => by
                      have hml : m < 1 := (List.getElem?_eq_some_iff.1 hm).1
                      obtain rfl : m = 0 := by omega
                      have hu : Value.string sv = u := by simpa using hm
                      rw [← hu]; exact hZc) (by simp [Value.oneCell']) (Nat.le_trans (show all.length + 1 ≤ 1000000000 by omega) (by decide)) (by omega) hHeld.size fun vG wy43 hG hgrow _ => ?_
                  have hby44 := hHeld.grown hgrow hHeld.size (fun k hk => (hF.lt k hk).1)
                  clear hF hZ hgrow hZc
                  refine hK1.out _ _ (hby44) (fun hHeld => ?_)
                  clear hK1 K1
                  try simp only [Act.put, List.getElem_toArray, List.getElem_cons_succ, List.getElem_cons_zero, List.setIfInBounds_toArray, List.set_cons_zero, List.set_cons_succ]
                  refine wpAnyH_take (i := 10) (v := vG) rfl (by kernel_rfl) (by kernel_rfl) (by kernel_rfl) (fun _ _ _ h => h) (Or.inl ⟨by rfl, fun w' hSw => by go_simp⟩) hHeld ?_
                  try simp only [Act.put, List.getElem_toArray, List.getElem_cons_succ, List.getElem_cons_zero, List.setIfInBounds_toArray, List.set_cons_zero, List.set_cons_succ]
                  refine wpAnyH_done (by kernel_rfl) ?_ _
                  refine NoPanic.normal ?_
                  have hown9 : wy43.ownsRow w.heap.size 9 1 vG (all ++ [x.s]).length ((all ++ [x.s]).map S) := by
                    have h := own_base hG Hb5.out.size
                    rw [List.length_append, List.map_append, List.map_singleton, HSs.out]
                    exact h
                  have hlt9 := fun k hk => (hG.lt k hk).1
                  have HX := Lib.hid hHeld
                  have Hown9 := Lib.hid hown9
                  have Hlt9 := Lib.hid hlt9
                  clear hHeld hG hown9 hlt9
                  have hJ9 := HJ5.out.below HX.out
                  have hb9 := Hb5.out.trans (HX.out.mono Hb5.out.size)
                  have hap9 : ∀ k, vG.ownBlock = some k → ¬ Z5 k ∧ k ≠ q := fun k hk => by
                    have h := Hlt9.out k hk
                    refine ⟨fun hz => ?_, ?_⟩
                    · have := (HJ5.out.disk.1 k hz).2; omega
                    · have := Row.lt HJ5.out.row; omega
                  have HJ9 := Lib.hid hJ9
                  have Hb9 := Lib.hid hb9
                  have Hap9 := Lib.hid hap9
                  clear hJ9 hb9 hap9
                  have hI := HI.out
                  rcases hI with ⟨hc, o5, hl5, hinv⟩ | ⟨hc, hdn⟩
                  · subst hc
                    subst hl5
                    have Hinv := Lib.hid hinv
                    clear hinv
                    go_wp2_with fail
                    refine ⟨⟨Z5, _, r5, j5, all ++ [x.s], safe, i + 1, rfl, by go_num, HJ9.out, HZ5.out, Hb9.out, Hown9.out, Hap9.out, by rw [List.length_append]; show all.length + 1 ≤ _; omega, .inl ⟨o5, rfl, Hinv.out, by omega, by omega, by rw [List.length_append]; show all.length + 1 ≤ _; omega⟩⟩, by simp [intOf]; omega⟩
                  · have d5 : (c5 != 0) = true := by simpa using hc
                    have Hdn := Lib.hid hdn
                    clear hdn hc
                    go_wp2_with fail
                    refine ⟨⟨Z5, _, r5, j5, all ++ [x.s], safe, acts.length + 1, rfl, by go_num, HJ9.out, HZ5.out, Hb9.out, Hown9.out, Hap9.out, by rw [List.length_append]; show all.length + 1 ≤ _; omega, .inr ⟨rfl, Hdn.out⟩⟩, by simp [intOf]; omega⟩
              · have d2 : decide ((sv.size : Int) ≤ 4096) = false := by simp only [decide_eq_false_iff_not]; omega
                have d2' : decide (sv.size ≤ 4096) = false := by simp only [decide_eq_false_iff_not]; exact h4
                go_wp2_with fail
                refine ⟨⟨Z, _, r, j, all, safe, i + 1, rfl, by go_num, HJ.out, HZ.out, Hb.out, Hown.out, Hap.out, by omega, .inl ⟨o, rfl, Hinv0.out, by omega, by omega, by omega⟩⟩, by simp [intOf]; omega⟩
          by_cases k2 : kd = 2
          · subst k2
            clear k0 k1
            as_aux_lemma =>
              by_cases h4 : sv.size ≤ 4096
              · have d2 : decide ((sv.size : Int) ≤ 4096) = true := by simp only [decide_eq_true_eq]; omega
                have d2' : decide (sv.size ≤ 4096) = true := by simp only [decide_eq_true_eq]; exact h4
                have kA := jadd_at HJ.out x.s (by omega) (by have := Hinv0.out.len; omega)
                have hI := Jr.Inv.add (r := r) Hinv0.out x.s (by omega)
                rcases hA : Jr.addR (Jr.St o none) r j x.s with ⟨l5, r5, j5, c5⟩
                rw [hA] at kA hI
                rw [HSb.out] at kA
                have KA := Lib.hid kA
                have HI : Hid ((c5 = 0 ∧ ∃ o', l5 = Jr.St o' none ∧ Jr.Inv o' j5 (all ++ [x.s]) safe) ∨ (c5 ≠ 0 ∧ Jr.Done l5 (all ++ [x.s]) safe)) := Lib.hid hI
                clear kA hI hA
                go_wp2_with fail
                refine KA.out.mono ?_
                rintro _ w5 ⟨rfl, t⟩
                obtain ⟨Z5, hJ5, hP5, hC5⟩ := t
                have hZ5 : ∀ k, Z5 k → w.heap.size ≤ k := fun k hk => by
                  rcases hP5 k hk with h | h
                  · exact HZ.out k h
                  · have := Hb.out.size; omega
                have ho5 := hC5.ownsRow Hown.out (fun k hk hp => by
                  rcases hp with h | h
                  · exact (Hap.out k hk).1 h
                  · exact (Hap.out k hk).2 h)
                have hap5 : ∀ k, u11.ownBlock = some k → ¬ Z5 k ∧ k ≠ q := fun k hk => ⟨fun hz => by
                  rcases hP5 k hz with h | h
                  · exact (Hap.out k hk).1 h
                  · have := (Hown.out.lt k hk).2; omega, (Hap.out k hk).2⟩
                have Hb5 := Lib.hid (chg_below hC5 (fun k hk => by
                  rcases hk with h | h
                  · exact HZ.out k h
                  · omega) Hb.out)
                have HJ5 := Lib.hid hJ5
                have HZ5 := Lib.hid hZ5
                have Hown5 := Lib.hid ho5
                have Hap5 := Lib.hid hap5
                clear hJ5 hP5 hC5 hZ5 ho5 hap5
                have hcv : ∀ w', Below w5.heap.size w5 w' → w'.cell? ⟨b, off + i * 5 + 1, none⟩ = some (.string sv) := fun w' hb => by
                  have h := Hb5.out.trans (hb.mono Hb5.out.size)
                  exact (World.cell?_of_block (a := ⟨b, off + i * 5 + 1, none⟩) (h.block b hbl)).trans Hcw1.out
                have Hcv := Lib.hid hcv
                clear hcv
                go_wp2_with fail
                refine wp_region_noPanic ?_
                refine wp_region_held_drew (S := fun w' => Below w5.heap.size w5 w') (by kernel_rfl) ((Below.refl _ _).drew) (fun hHeld => ?_)
                generalize w5.drew = wd at *
                refine wpAnyH_take (i := 1) (v := u11) rfl (by kernel_rfl) (by kernel_rfl) (by kernel_rfl) (fun _ _ _ h => h) (Or.inl ⟨by rfl, fun w' hSw => by go_simp⟩) hHeld ?_
                try simp only [Act.put, List.getElem_toArray, List.getElem_cons_succ, List.getElem_cons_zero, List.setIfInBounds_toArray, List.set_cons_zero, List.set_cons_succ]
                refine wpAnyH_take (i := 3) (v := .slice (some ⟨b, off, none⟩) acts.length c) rfl (by kernel_rfl) (by kernel_rfl) (by kernel_rfl) (fun _ _ _ h => h) (Or.inl ⟨by rfl, fun w' hSw => by go_simp⟩) hHeld ?_
                try simp only [Act.put, List.getElem_toArray, List.getElem_cons_succ, List.getElem_cons_zero, List.setIfInBounds_toArray, List.set_cons_zero, List.set_cons_succ]
                refine wpAnyH_take (i := 4) (v := .int .i64 (i : Int)) rfl (by kernel_rfl) (by kernel_rfl) (by kernel_rfl) (fun _ _ _ h => h) (Or.inl ⟨by rfl, fun w' hSw => by go_simp⟩) hHeld ?_
                try simp only [Act.put, List.getElem_toArray, List.getElem_cons_succ, List.getElem_cons_zero, List.setIfInBounds_toArray, List.set_cons_zero, List.set_cons_succ]
                refine wpAnyH_take (i := 5) (v := .pointer (some ⟨b, off + i * 5, none⟩)) rfl (by kernel_rfl) (by kernel_rfl) (by kernel_rfl) (fun _ _ _ h => h) (Or.inl ⟨by rfl, fun w' hSw => by go_simp⟩) hHeld ?_
                try simp only [Act.put, List.getElem_toArray, List.getElem_cons_succ, List.getElem_cons_zero, List.setIfInBounds_toArray, List.set_cons_zero, List.set_cons_succ]
                refine wpAnyH_take (i := 6) (v := .pointer (some ⟨b, off + i * 5 + 1, none⟩)) rfl (by kernel_rfl) (by kernel_rfl) (by kernel_rfl) (fun _ _ _ h => h) (Or.inl ⟨by rfl, fun w' hSw => by go_simp⟩) hHeld ?_
                try simp only [Act.put, List.getElem_toArray, List.getElem_cons_succ, List.getElem_cons_zero, List.setIfInBounds_toArray, List.set_cons_zero, List.set_cons_succ]
                refine wpAnyH_take (i := 7) (v := .string sv) rfl (by kernel_rfl) (by kernel_rfl) (by kernel_rfl) (fun _ _ _ h => h) (Or.inl ⟨by rfl, fun w' hSw => by have hq := hSw; have hcl := Hcv.out w' hq; go_simp⟩) hHeld ?_
                try simp only [Act.put, List.getElem_toArray, List.getElem_cons_succ, List.getElem_cons_zero, List.setIfInBounds_toArray, List.set_cons_zero, List.set_cons_succ]
                refine wpAnyH_ready (rs := [0, 8]) (by kernel_rfl) (by simp) (AllReadyH.cons rfl (fun K1 hK1 => ?_) (AllReadyH.cons rfl (fun K1 hK1 => ?_) AllReadyH.nil))
                · skip
                  try simp only [Act.put, List.getElem_toArray, List.getElem_cons_succ, List.getElem_cons_zero, List.setIfInBounds_toArray, List.set_cons_zero, List.set_cons_succ]
                  go_simp
                  have hE : (wd.alloc (.cells #[] 9)).ownsRow w5.heap.size 9 1 (.slice (some ⟨wd.heap.size, 0, none⟩) 0 0) 0 [] := ⟨rfl, .inr ⟨wd.heap.size, 0, #[], rfl, hHeld.size, heap_alloc_new _ _, Nat.le_refl _, Nat.zero_le _, rfl, rfl⟩⟩
                  have hby46 := (Below.refl wd.heap.size wd).alloc (Nat.le_refl _) (.cells #[] 9)
                  have hHeld2 := hHeld.trans (hby46.mono hHeld.size)
                  generalize wd.alloc (.cells #[] 9) = wy45 at *
                  obtain ⟨gE, hgEe⟩ : ∃ gE, gE = wd.heap.size := ⟨_, rfl⟩
                  rw [← hgEe] at hE ⊢
                  refine hK1.out _ _ (hHeld2) (fun hHeld => ?_)
                  clear hK1 K1
                  try simp only [Act.put, List.getElem_toArray, List.getElem_cons_succ, List.getElem_cons_zero, List.setIfInBounds_toArray, List.set_cons_zero, List.set_cons_succ]
                  clear hgEe
                  refine wpAnyH_ready (rs := [2, 8]) (by kernel_rfl) (by simp) (AllReadyH.cons rfl (fun K1 hK1 => ?_) (AllReadyH.cons rfl (fun K1 hK1 => ?_) AllReadyH.nil))
                  · skip
                    try simp only [Act.put, List.getElem_toArray, List.getElem_cons_succ, List.getElem_cons_zero, List.setIfInBounds_toArray, List.set_cons_zero, List.set_cons_succ]
                    refine wp_append_texts _ _ rfl w5.heap.size w.heap.size _ 0 [] rfl hE _ all.length all rfl (own_below Hown5.out hHeld) (by omega) hHeld.size fun vF wy47 hF hgrow => ?_
                    have hF : wy47.ownsRow w5.heap.size 9 1 vF all.length (all.map S) := by have h := hF; rw [Nat.zero_add] at h; exact h
                    have hby48 := hHeld.grown hgrow hHeld.size (fun k hk => (hE.lt k hk).1)
                    clear hE hgrow
                    refine hK1.out _ _ (hby48) (fun hHeld => ?_)
                    clear hK1 K1
                    try simp only [Act.put, List.getElem_toArray, List.getElem_cons_succ, List.getElem_cons_zero, List.setIfInBounds_toArray, List.set_cons_zero, List.set_cons_succ]
                    refine wpAnyH_ready (rs := [8]) (by kernel_rfl) (by simp) (AllReadyH.cons rfl (fun K1 hK1 => ?_) AllReadyH.nil)
                    try simp only [Act.put, List.getElem_toArray, List.getElem_cons_succ, List.getElem_cons_zero, List.setIfInBounds_toArray, List.set_cons_zero, List.set_cons_succ]
                    go_simp
                    have hby50 := (Below.refl wy47.heap.size wy47).alloc (Nat.le_refl _) (.cells #[.string sv] 9)
                    have hF := own_below hF hby50
                    have hZ : Row (wy47.alloc (.cells #[.string sv] 9)) wy47.heap.size 9 [.string sv] := Row.new _ _ _
                    have hHeld2 := hHeld.trans (hby50.mono hHeld.size)
                    generalize wy47.alloc (.cells #[.string sv] 9) = wy49 at *
                    obtain ⟨gZ, hgZe⟩ : ∃ gZ, gZ = wy47.heap.size := ⟨_, rfl⟩
                    rw [← hgZe] at hZ ⊢
                    refine hK1.out _ _ (hHeld2) (fun hHeld => ?_)
                    clear hK1 K1
                    try simp only [Act.put, List.getElem_toArray, List.getElem_cons_succ, List.getElem_cons_zero, List.setIfInBounds_toArray, List.set_cons_zero, List.set_cons_succ]
                    clear hgZe
                    refine wpAnyH_ready (rs := [9]) (by kernel_rfl) (by simp) (AllReadyH.cons rfl (fun K1 hK1 => ?_) AllReadyH.nil)
                    try simp only [Act.put, List.getElem_toArray, List.getElem_cons_succ, List.getElem_cons_zero, List.setIfInBounds_toArray, List.set_cons_zero, List.set_cons_succ]
                    obtain ⟨i0, hi, hz0, hz1, hz2⟩ := info_parts str_info
                    have hZc := Row.cell hZ 0 (by simp)
                    refine wp_append_own wy49 _ _ 22 rfl w5.heap.size 9 i0 (.string ByteArray.empty) 1 16 Tryd.underlying22 hi hz0 hz1 hz2 rfl (by decide) _ all.length (all.map S) rfl hF ⟨gZ, 0, none⟩ 1 1 [.string sv] rfl rfl (fun m u hm => by
                        have hml : m < 1 := (List.getElem?_eq_some_iff.1 hm).1
                        obtain rfl : m = 0 := by omega
                        have hu : Value.string sv = u := by simpa using hm
                        rw [← hu]; exact hZc) (by simp [Value.oneCell']) (Nat.le_trans (show all.length + 1 ≤ 1000000000 by omega) (by decide)) (by omega) hHeld.size fun vG wy51 hG hgrow _ => ?_
                    have hby52 := hHeld.grown hgrow hHeld.size (fun k hk => (hF.lt k hk).1)
                    clear hF hZ hgrow hZc
                    refine hK1.out _ _ (hby52) (fun hHeld => ?_)
                    clear hK1 K1
                    try simp only [Act.put, List.getElem_toArray, List.getElem_cons_succ, List.getElem_cons_zero, List.setIfInBounds_toArray, List.set_cons_zero, List.set_cons_succ]
                    refine wpAnyH_take (i := 10) (v := vG) rfl (by kernel_rfl) (by kernel_rfl) (by kernel_rfl) (fun _ _ _ h => h) (Or.inl ⟨by rfl, fun w' hSw => by go_simp⟩) hHeld ?_
                    try simp only [Act.put, List.getElem_toArray, List.getElem_cons_succ, List.getElem_cons_zero, List.setIfInBounds_toArray, List.set_cons_zero, List.set_cons_succ]
                    refine wpAnyH_done (by kernel_rfl) ?_ _
                    refine NoPanic.normal ?_
                    have hown9 : wy51.ownsRow w.heap.size 9 1 vG (all ++ [x.s]).length ((all ++ [x.s]).map S) := by
                      have h := own_base hG Hb5.out.size
                      rw [List.length_append, List.map_append, List.map_singleton, HSs.out]
                      exact h
                    have hlt9 := fun k hk => (hG.lt k hk).1
                    have HX := Lib.hid hHeld
                    have Hown9 := Lib.hid hown9
                    have Hlt9 := Lib.hid hlt9
                    clear hHeld hG hown9 hlt9
                    have hJ9 := HJ5.out.below HX.out
                    have hb9 := Hb5.out.trans (HX.out.mono Hb5.out.size)
                    have hap9 : ∀ k, vG.ownBlock = some k → ¬ Z5 k ∧ k ≠ q := fun k hk => by
                      have h := Hlt9.out k hk
                      refine ⟨fun hz => ?_, ?_⟩
                      · have := (HJ5.out.disk.1 k hz).2; omega
                      · have := Row.lt HJ5.out.row; omega
                    have HJ9 := Lib.hid hJ9
                    have Hb9 := Lib.hid hb9
                    have Hap9 := Lib.hid hap9
                    clear hJ9 hb9 hap9
                    have hI := HI.out
                    rcases hI with ⟨hc, o5, hl5, hinv⟩ | ⟨hc, hdn⟩
                    · subst hc
                      subst hl5
                      have Hinv := Lib.hid hinv
                      clear hinv
                      go_wp2_with fail
                      refine ⟨⟨Z5, _, r5, j5, all ++ [x.s], safe, i + 1, rfl, by go_num, HJ9.out, HZ5.out, Hb9.out, Hown9.out, Hap9.out, by rw [List.length_append]; show all.length + 1 ≤ _; omega, .inl ⟨o5, rfl, Hinv.out, by omega, by omega, by rw [List.length_append]; show all.length + 1 ≤ _; omega⟩⟩, by simp [intOf]; omega⟩
                    · have d5 : (c5 != 0) = true := by simpa using hc
                      have Hdn := Lib.hid hdn
                      clear hdn hc
                      go_wp2_with fail
                      refine ⟨⟨Z5, _, r5, j5, all ++ [x.s], safe, acts.length + 1, rfl, by go_num, HJ9.out, HZ5.out, Hb9.out, Hown9.out, Hap9.out, by rw [List.length_append]; show all.length + 1 ≤ _; omega, .inr ⟨rfl, Hdn.out⟩⟩, by simp [intOf]; omega⟩
                  · skip
                    try simp only [Act.put, List.getElem_toArray, List.getElem_cons_succ, List.getElem_cons_zero, List.setIfInBounds_toArray, List.set_cons_zero, List.set_cons_succ]
                    go_simp
                    have hby54 := (Below.refl wy45.heap.size wy45).alloc (Nat.le_refl _) (.cells #[.string sv] 9)
                    have hEZ : wy45.heap.size ≠ gE := by have := (hE.lt gE rfl).2; omega
                    have hE := own_below hE hby54
                    have hZ : Row (wy45.alloc (.cells #[.string sv] 9)) wy45.heap.size 9 [.string sv] := Row.new _ _ _
                    have hHeld2 := hHeld.trans (hby54.mono hHeld.size)
                    generalize wy45.alloc (.cells #[.string sv] 9) = wy53 at *
                    obtain ⟨gZ, hgZe⟩ : ∃ gZ, gZ = wy45.heap.size := ⟨_, rfl⟩
                    rw [← hgZe] at hZ hEZ ⊢
                    refine hK1.out _ _ (hHeld2) (fun hHeld => ?_)
                    clear hK1 K1
                    try simp only [Act.put, List.getElem_toArray, List.getElem_cons_succ, List.getElem_cons_zero, List.setIfInBounds_toArray, List.set_cons_zero, List.set_cons_succ]
                    clear hgZe
                    refine wpAnyH_ready (rs := [2]) (by kernel_rfl) (by simp) (AllReadyH.cons rfl (fun K1 hK1 => ?_) AllReadyH.nil)
                    try simp only [Act.put, List.getElem_toArray, List.getElem_cons_succ, List.getElem_cons_zero, List.setIfInBounds_toArray, List.set_cons_zero, List.set_cons_succ]
                    refine wp_append_texts _ _ rfl w5.heap.size w.heap.size _ 0 [] rfl hE _ all.length all rfl (own_below Hown5.out hHeld) (by omega) hHeld.size fun vF wy55 hF hgrow => ?_
                    have hF : wy55.ownsRow w5.heap.size 9 1 vF all.length (all.map S) := by have h := hF; rw [Nat.zero_add] at h; exact h
                    have hby56 := hHeld.grown hgrow hHeld.size (fun k hk => (hE.lt k hk).1)
                    have hZ := Row.kept hZ hgrow (by intro h; injection h with h; exact hEZ h)
                    clear hE hgrow
                    refine hK1.out _ _ (hby56) (fun hHeld => ?_)
                    clear hK1 K1
                    try simp only [Act.put, List.getElem_toArray, List.getElem_cons_succ, List.getElem_cons_zero, List.setIfInBounds_toArray, List.set_cons_zero, List.set_cons_succ]
                    refine wpAnyH_ready (rs := [9]) (by kernel_rfl) (by simp) (AllReadyH.cons rfl (fun K1 hK1 => ?_) AllReadyH.nil)
                    try simp only [Act.put, List.getElem_toArray, List.getElem_cons_succ, List.getElem_cons_zero, List.setIfInBounds_toArray, List.set_cons_zero, List.set_cons_succ]
                    obtain ⟨i0, hi, hz0, hz1, hz2⟩ := info_parts str_info
                    have hZc := Row.cell hZ 0 (by simp)
                    refine wp_append_own wy55 _ _ 22 rfl w5.heap.size 9 i0 (.string ByteArray.empty) 1 16 Tryd.underlying22 hi hz0 hz1 hz2 rfl (by decide) _ all.length (all.map S) rfl hF ⟨gZ, 0, none⟩ 1 1 [.string sv] rfl rfl (fun m u hm => by
                        have hml : m < 1 := (List.getElem?_eq_some_iff.1 hm).1
                        obtain rfl : m = 0 := by omega
                        have hu : Value.string sv = u := by simpa using hm
                        rw [← hu]; exact hZc) (by simp [Value.oneCell']) (Nat.le_trans (show all.length + 1 ≤ 1000000000 by omega) (by decide)) (by omega) hHeld.size fun vG wy57 hG hgrow _ => ?_
                    have hby58 := hHeld.grown hgrow hHeld.size (fun k hk => (hF.lt k hk).1)
                    clear hF hZ hgrow hZc
                    refine hK1.out _ _ (hby58) (fun hHeld => ?_)
                    clear hK1 K1
                    try simp only [Act.put, List.getElem_toArray, List.getElem_cons_succ, List.getElem_cons_zero, List.setIfInBounds_toArray, List.set_cons_zero, List.set_cons_succ]
                    refine wpAnyH_take (i := 10) (v := vG) rfl (by kernel_rfl) (by kernel_rfl) (by kernel_rfl) (fun _ _ _ h => h) (Or.inl ⟨by rfl, fun w' hSw => by go_simp⟩) hHeld ?_
                    try simp only [Act.put, List.getElem_toArray, List.getElem_cons_succ, List.getElem_cons_zero, List.setIfInBounds_toArray, List.set_cons_zero, List.set_cons_succ]
                    refine wpAnyH_done (by kernel_rfl) ?_ _
                    refine NoPanic.normal ?_
                    have hown9 : wy57.ownsRow w.heap.size 9 1 vG (all ++ [x.s]).length ((all ++ [x.s]).map S) := by
                      have h := own_base hG Hb5.out.size
                      rw [List.length_append, List.map_append, List.map_singleton, HSs.out]
                      exact h
                    have hlt9 := fun k hk => (hG.lt k hk).1
                    have HX := Lib.hid hHeld
                    have Hown9 := Lib.hid hown9
                    have Hlt9 := Lib.hid hlt9
                    clear hHeld hG hown9 hlt9
                    have hJ9 := HJ5.out.below HX.out
                    have hb9 := Hb5.out.trans (HX.out.mono Hb5.out.size)
                    have hap9 : ∀ k, vG.ownBlock = some k → ¬ Z5 k ∧ k ≠ q := fun k hk => by
                      have h := Hlt9.out k hk
                      refine ⟨fun hz => ?_, ?_⟩
                      · have := (HJ5.out.disk.1 k hz).2; omega
                      · have := Row.lt HJ5.out.row; omega
                    have HJ9 := Lib.hid hJ9
                    have Hb9 := Lib.hid hb9
                    have Hap9 := Lib.hid hap9
                    clear hJ9 hb9 hap9
                    have hI := HI.out
                    rcases hI with ⟨hc, o5, hl5, hinv⟩ | ⟨hc, hdn⟩
                    · subst hc
                      subst hl5
                      have Hinv := Lib.hid hinv
                      clear hinv
                      go_wp2_with fail
                      refine ⟨⟨Z5, _, r5, j5, all ++ [x.s], safe, i + 1, rfl, by go_num, HJ9.out, HZ5.out, Hb9.out, Hown9.out, Hap9.out, by rw [List.length_append]; show all.length + 1 ≤ _; omega, .inl ⟨o5, rfl, Hinv.out, by omega, by omega, by rw [List.length_append]; show all.length + 1 ≤ _; omega⟩⟩, by simp [intOf]; omega⟩
                    · have d5 : (c5 != 0) = true := by simpa using hc
                      have Hdn := Lib.hid hdn
                      clear hdn hc
                      go_wp2_with fail
                      refine ⟨⟨Z5, _, r5, j5, all ++ [x.s], safe, acts.length + 1, rfl, by go_num, HJ9.out, HZ5.out, Hb9.out, Hown9.out, Hap9.out, by rw [List.length_append]; show all.length + 1 ≤ _; omega, .inr ⟨rfl, Hdn.out⟩⟩, by simp [intOf]; omega⟩
                · skip
                  try simp only [Act.put, List.getElem_toArray, List.getElem_cons_succ, List.getElem_cons_zero, List.setIfInBounds_toArray, List.set_cons_zero, List.set_cons_succ]
                  go_simp
                  have hby60 := (Below.refl wd.heap.size wd).alloc (Nat.le_refl _) (.cells #[.string sv] 9)
                  have hZ : Row (wd.alloc (.cells #[.string sv] 9)) wd.heap.size 9 [.string sv] := Row.new _ _ _
                  have hHeld2 := hHeld.trans (hby60.mono hHeld.size)
                  generalize wd.alloc (.cells #[.string sv] 9) = wy59 at *
                  obtain ⟨gZ, hgZe⟩ : ∃ gZ, gZ = wd.heap.size := ⟨_, rfl⟩
                  rw [← hgZe] at hZ ⊢
                  refine hK1.out _ _ (hHeld2) (fun hHeld => ?_)
                  clear hK1 K1
                  try simp only [Act.put, List.getElem_toArray, List.getElem_cons_succ, List.getElem_cons_zero, List.setIfInBounds_toArray, List.set_cons_zero, List.set_cons_succ]
                  clear hgZe
                  refine wpAnyH_ready (rs := [0]) (by kernel_rfl) (by simp) (AllReadyH.cons rfl (fun K1 hK1 => ?_) AllReadyH.nil)
                  try simp only [Act.put, List.getElem_toArray, List.getElem_cons_succ, List.getElem_cons_zero, List.setIfInBounds_toArray, List.set_cons_zero, List.set_cons_succ]
                  go_simp
                  have hE : (wy59.alloc (.cells #[] 9)).ownsRow w5.heap.size 9 1 (.slice (some ⟨wy59.heap.size, 0, none⟩) 0 0) 0 [] := ⟨rfl, .inr ⟨wy59.heap.size, 0, #[], rfl, hHeld.size, heap_alloc_new _ _, Nat.le_refl _, Nat.zero_le _, rfl, rfl⟩⟩
                  have hby62 := (Below.refl wy59.heap.size wy59).alloc (Nat.le_refl _) (.cells #[] 9)
                  have hEZ : gZ ≠ wy59.heap.size := by have := Row.lt hZ; omega
                  have hZ := hZ.below hby62
                  have hHeld2 := hHeld.trans (hby62.mono hHeld.size)
                  generalize wy59.alloc (.cells #[] 9) = wy61 at *
                  obtain ⟨gE, hgEe⟩ : ∃ gE, gE = wy59.heap.size := ⟨_, rfl⟩
                  rw [← hgEe] at hE hEZ ⊢
                  refine hK1.out _ _ (hHeld2) (fun hHeld => ?_)
                  clear hK1 K1
                  try simp only [Act.put, List.getElem_toArray, List.getElem_cons_succ, List.getElem_cons_zero, List.setIfInBounds_toArray, List.set_cons_zero, List.set_cons_succ]
                  clear hgEe
                  refine wpAnyH_ready (rs := [2]) (by kernel_rfl) (by simp) (AllReadyH.cons rfl (fun K1 hK1 => ?_) AllReadyH.nil)
                  try simp only [Act.put, List.getElem_toArray, List.getElem_cons_succ, List.getElem_cons_zero, List.setIfInBounds_toArray, List.set_cons_zero, List.set_cons_succ]
                  refine wp_append_texts _ _ rfl w5.heap.size w.heap.size _ 0 [] rfl hE _ all.length all rfl (own_below Hown5.out hHeld) (by omega) hHeld.size fun vF wy63 hF hgrow => ?_
                  have hF : wy63.ownsRow w5.heap.size 9 1 vF all.length (all.map S) := by have h := hF; rw [Nat.zero_add] at h; exact h
                  have hby64 := hHeld.grown hgrow hHeld.size (fun k hk => (hE.lt k hk).1)
                  have hZ := Row.kept hZ hgrow (by intro h; injection h with h; exact hEZ h)
                  clear hE hgrow
                  refine hK1.out _ _ (hby64) (fun hHeld => ?_)
                  clear hK1 K1
                  try simp only [Act.put, List.getElem_toArray, List.getElem_cons_succ, List.getElem_cons_zero, List.setIfInBounds_toArray, List.set_cons_zero, List.set_cons_succ]
                  refine wpAnyH_ready (rs := [9]) (by kernel_rfl) (by simp) (AllReadyH.cons rfl (fun K1 hK1 => ?_) AllReadyH.nil)
                  try simp only [Act.put, List.getElem_toArray, List.getElem_cons_succ, List.getElem_cons_zero, List.setIfInBounds_toArray, List.set_cons_zero, List.set_cons_succ]
                  obtain ⟨i0, hi, hz0, hz1, hz2⟩ := info_parts str_info
                  have hZc := Row.cell hZ 0 (by simp)
                  refine wp_append_own wy63 _ _ 22 rfl w5.heap.size 9 i0 (.string ByteArray.empty) 1 16 Tryd.underlying22 hi hz0 hz1 hz2 rfl (by decide) _ all.length (all.map S) rfl hF ⟨gZ, 0, none⟩ 1 1 [.string sv] rfl rfl (fun m u hm => by
                      have hml : m < 1 := (List.getElem?_eq_some_iff.1 hm).1
                      obtain rfl : m = 0 := by omega
                      have hu : Value.string sv = u := by simpa using hm
                      rw [← hu]; exact hZc) (by simp [Value.oneCell']) (Nat.le_trans (show all.length + 1 ≤ 1000000000 by omega) (by decide)) (by omega) hHeld.size fun vG wy65 hG hgrow _ => ?_
                  have hby66 := hHeld.grown hgrow hHeld.size (fun k hk => (hF.lt k hk).1)
                  clear hF hZ hgrow hZc
                  refine hK1.out _ _ (hby66) (fun hHeld => ?_)
                  clear hK1 K1
                  try simp only [Act.put, List.getElem_toArray, List.getElem_cons_succ, List.getElem_cons_zero, List.setIfInBounds_toArray, List.set_cons_zero, List.set_cons_succ]
                  refine wpAnyH_take (i := 10) (v := vG) rfl (by kernel_rfl) (by kernel_rfl) (by kernel_rfl) (fun _ _ _ h => h) (Or.inl ⟨by rfl, fun w' hSw => by go_simp⟩) hHeld ?_
                  try simp only [Act.put, List.getElem_toArray, List.getElem_cons_succ, List.getElem_cons_zero, List.setIfInBounds_toArray, List.set_cons_zero, List.set_cons_succ]
                  refine wpAnyH_done (by kernel_rfl) ?_ _
                  refine NoPanic.normal ?_
                  have hown9 : wy65.ownsRow w.heap.size 9 1 vG (all ++ [x.s]).length ((all ++ [x.s]).map S) := by
                    have h := own_base hG Hb5.out.size
                    rw [List.length_append, List.map_append, List.map_singleton, HSs.out]
                    exact h
                  have hlt9 := fun k hk => (hG.lt k hk).1
                  have HX := Lib.hid hHeld
                  have Hown9 := Lib.hid hown9
                  have Hlt9 := Lib.hid hlt9
                  clear hHeld hG hown9 hlt9
                  have hJ9 := HJ5.out.below HX.out
                  have hb9 := Hb5.out.trans (HX.out.mono Hb5.out.size)
                  have hap9 : ∀ k, vG.ownBlock = some k → ¬ Z5 k ∧ k ≠ q := fun k hk => by
                    have h := Hlt9.out k hk
                    refine ⟨fun hz => ?_, ?_⟩
                    · have := (HJ5.out.disk.1 k hz).2; omega
                    · have := Row.lt HJ5.out.row; omega
                  have HJ9 := Lib.hid hJ9
                  have Hb9 := Lib.hid hb9
                  have Hap9 := Lib.hid hap9
                  clear hJ9 hb9 hap9
                  have hI := HI.out
                  rcases hI with ⟨hc, o5, hl5, hinv⟩ | ⟨hc, hdn⟩
                  · subst hc
                    subst hl5
                    have Hinv := Lib.hid hinv
                    clear hinv
                    go_wp2_with fail
                    refine ⟨⟨Z5, _, r5, j5, all ++ [x.s], safe, i + 1, rfl, by go_num, HJ9.out, HZ5.out, Hb9.out, Hown9.out, Hap9.out, by rw [List.length_append]; show all.length + 1 ≤ _; omega, .inl ⟨o5, rfl, Hinv.out, by omega, by omega, by rw [List.length_append]; show all.length + 1 ≤ _; omega⟩⟩, by simp [intOf]; omega⟩
                  · have d5 : (c5 != 0) = true := by simpa using hc
                    have Hdn := Lib.hid hdn
                    clear hdn hc
                    go_wp2_with fail
                    refine ⟨⟨Z5, _, r5, j5, all ++ [x.s], safe, acts.length + 1, rfl, by go_num, HJ9.out, HZ5.out, Hb9.out, Hown9.out, Hap9.out, by rw [List.length_append]; show all.length + 1 ≤ _; omega, .inr ⟨rfl, Hdn.out⟩⟩, by simp [intOf]; omega⟩
              · have d2 : decide ((sv.size : Int) ≤ 4096) = false := by simp only [decide_eq_false_iff_not]; omega
                have d2' : decide (sv.size ≤ 4096) = false := by simp only [decide_eq_false_iff_not]; exact h4
                go_wp2_with fail
                refine ⟨⟨Z, _, r, j, all, safe, i + 1, rfl, by go_num, HJ.out, HZ.out, Hb.out, Hown.out, Hap.out, by omega, .inl ⟨o, rfl, Hinv0.out, by omega, by omega, by omega⟩⟩, by simp [intOf]; omega⟩
          have f0 : (kd == 0) = false := by simpa using k0
          have f1 : (kd == 1) = false := by simpa using k1
          have f2 : (kd == 2) = false := by simpa using k2
          by_cases k3 : kd = 3
          · subst k3
            clear k0 k1 k2 f0 f1 f2
            as_aux_lemma =>
              have kA := jsync_at HJ.out
              have hI := Jr.Inv.sync (r := r) Hinv0.out
              rcases hA : Jr.syncJ (Jr.St o none) r j with ⟨l5, r5, j5, c5⟩
              rw [hA] at kA hI
              have KA := Lib.hid kA
              have HI : Hid ((c5 = 0 ∧ ∃ o', l5 = Jr.St o' none ∧ Jr.Inv o' j5 all all.length) ∨ (c5 ≠ 0 ∧ Jr.Done l5 all safe)) := Lib.hid hI
              clear kA hI hA
              obtain ⟨A0, c0, hav, _, _⟩ := own_slice Hown.out
              have Hav := Lib.hid hav
              clear hav
              rw [Hav.out]
              go_wp2_with fail
              refine KA.out.mono ?_
              rintro _ w5 ⟨rfl, t⟩
              obtain ⟨Z5, hJ5, hP5, hC5⟩ := t
              have hZ5 : ∀ k, Z5 k → w.heap.size ≤ k := fun k hk => by
                rcases hP5 k hk with h | h
                · exact HZ.out k h
                · have := Hb.out.size; omega
              have ho5 := hC5.ownsRow Hown.out (fun k hk hp => by
                rcases hp with h | h
                · exact (Hap.out k hk).1 h
                · exact (Hap.out k hk).2 h)
              have hap5 : ∀ k, u11.ownBlock = some k → ¬ Z5 k ∧ k ≠ q := fun k hk => ⟨fun hz => by
                rcases hP5 k hz with h | h
                · exact (Hap.out k hk).1 h
                · have := (Hown.out.lt k hk).2; omega, (Hap.out k hk).2⟩
              have Hb5 := Lib.hid (chg_below hC5 (fun k hk => by
                rcases hk with h | h
                · exact HZ.out k h
                · omega) Hb.out)
              have HJ5 := Lib.hid hJ5
              have HZ5 := Lib.hid hZ5
              have Hown5 := Lib.hid ho5
              have Hap5 := Lib.hid hap5
              clear hJ5 hP5 hC5 hZ5 ho5 hap5
              have hI := HI.out
              rcases hI with ⟨hc, o5, hl5, hinv⟩ | ⟨hc, hdn⟩
              · subst hc
                subst hl5
                have Hinv := Lib.hid hinv
                clear hinv
                go_wp2_with fail
                refine ⟨⟨Z5, _, r5, j5, all, all.length, i + 1, by go_num, by go_num, HJ5.out, HZ5.out, Hb5.out, by rw [← Hav.out]; exact Hown5.out, by rw [← Hav.out]; exact Hap5.out, by omega, .inl ⟨o5, rfl, Hinv.out, by omega, by omega, by omega⟩⟩, by simp [intOf]; omega⟩
              · have d5 : (c5 != 0) = true := by simpa using hc
                have Hdn := Lib.hid hdn
                clear hdn hc
                go_wp2_with fail
                refine ⟨⟨Z5, _, r5, j5, all, safe, acts.length + 1, rfl, by go_num, HJ5.out, HZ5.out, Hb5.out, by rw [← Hav.out]; exact Hown5.out, by rw [← Hav.out]; exact Hap5.out, by omega, .inr ⟨rfl, Hdn.out⟩⟩, by simp [intOf]; omega⟩
          by_cases k4 : kd = 4
          · subst k4
            clear k0 k1 k2 k3 f0 f1 f2
            as_aux_lemma =>
              obtain ⟨AL, cL, hlv, htx⟩ := Htxr.out
              have kF := few_own AL cL x.L wr htx (by omega) (fun l hl => by have := Hsmall.out l hl; omega)
              have hFl := fewL_le x.L
              have hFs := fewL_small x.L
              obtain ⟨F, hF⟩ : ∃ F, fewL x.L = F := ⟨_, rfl⟩
              rw [hF] at kF hFl hFs
              have hI := Jr.Inv.renew (r := r) Hinv0.out F hFs
              rcases hA : Jr.renewR (Jr.St o none) r j F with ⟨l5, r5, j5, c5⟩
              rw [hA] at hI
              have KF := Lib.hid kF
              have HI : Hid ((c5 = 0 ∧ ∃ o', l5 = Jr.St o' none ∧ Jr.Inv o' j5 F F.length) ∨ (c5 ≠ 0 ∧ Jr.Done l5 all safe)) := Lib.hid hI
              have HA := Lib.hid hA
              rw [hlv] at hcell2
              have Hlv := Lib.hid hlv
              clear kF hI hF hFs hA htx hlv
              go_wp2_with fail
              refine KF.out.mono ?_
              rintro _ w4 ⟨⟨A6, c6, rfl, hc6, how6⟩, hb4⟩
              have hJ4 := HJ.out.below hb4
              have hin : InL w4 (.slice A6 F.length c6) F := by
                obtain ⟨A7, c7, hv7, _, hl7⟩ := own_slice how6
                rw [hv7]; exact hl7.inL
              have kA := jrenew_at hJ4 _ F hin (by omega)
              rw [HA.out] at kA
              have KA := Lib.hid kA
              have hap6 : ∀ k, (Value.slice A6 F.length c6).ownBlock = some k → ¬ Z k ∧ k ≠ q := fun k hk => by
                have h := (how6.lt k hk).1
                refine ⟨fun hz => ?_, ?_⟩
                · have := (HJ.out.disk.1 k hz).2; omega
                · have := Row.lt HJ.out.row; omega
              have How6 := Lib.hid (own_base how6 Hb.out.size)
              have Hap6 := Lib.hid hap6
              have Ho4 := Lib.hid (own_below Hown.out hb4)
              have HJ4 := Lib.hid hJ4
              have Hb4 := Lib.hid (Hb.out.trans (hb4.mono Hb.out.size))
              have hs4 := hb4.size
              clear kA hb4 hJ4 hin how6 hap6
              go_wp2_with fail
              refine KA.out.mono ?_
              rintro _ w5 ⟨rfl, t⟩
              obtain ⟨Z5, hJ5, hP5, hC5⟩ := t
              have hZ5 : ∀ k, Z5 k → w.heap.size ≤ k := fun k hk => by
                rcases hP5 k hk with h | h
                · exact HZ.out k h
                · have := Hb4.out.size; omega
              have ho5 := hC5.ownsRow Ho4.out (fun k hk hp => by
                rcases hp with h | h
                · exact (Hap.out k hk).1 h
                · exact (Hap.out k hk).2 h)
              have hap5 : ∀ k, u11.ownBlock = some k → ¬ Z5 k ∧ k ≠ q := fun k hk => ⟨fun hz => by
                rcases hP5 k hz with h | h
                · exact (Hap.out k hk).1 h
                · have := (Ho4.out.lt k hk).2; omega, (Hap.out k hk).2⟩
              have ho6 := hC5.ownsRow How6.out (fun k hk hp => by
                rcases hp with h | h
                · exact (Hap6.out k hk).1 h
                · exact (Hap6.out k hk).2 h)
              have hap7 : ∀ k, (Value.slice A6 F.length c6).ownBlock = some k → ¬ Z5 k ∧ k ≠ q := fun k hk => ⟨fun hz => by
                rcases hP5 k hz with h | h
                · exact (Hap6.out k hk).1 h
                · have := (How6.out.lt k hk).2; omega, (Hap6.out k hk).2⟩
              have Hb5 := Lib.hid (chg_below hC5 (fun k hk => by
                rcases hk with h | h
                · exact HZ.out k h
                · omega) Hb4.out)
              have HJ5 := Lib.hid hJ5
              have HZ5 := Lib.hid hZ5
              have Ho5 := Lib.hid ho5
              have Hap5 := Lib.hid hap5
              have Ho6 := Lib.hid ho6
              have Hap7 := Lib.hid hap7
              clear hJ5 hP5 hC5 hZ5 ho5 hap5 ho6 hap7
              have hI := HI.out
              rcases hI with ⟨hc, o5, hl5, hinv⟩ | ⟨hc, hdn⟩
              · subst hc
                subst hl5
                have Hinv := Lib.hid hinv
                clear hinv
                go_wp2_with fail
                refine ⟨⟨Z5, _, r5, j5, F, F.length, i + 1, by go_num, by go_num, HJ5.out, HZ5.out, Hb5.out, Ho6.out, Hap7.out, by omega, .inl ⟨o5, rfl, Hinv.out, by omega, by omega, by omega⟩⟩, by simp [intOf]; omega⟩
              · have d5 : (c5 != 0) = true := by simpa using hc
                have Hdn := Lib.hid hdn
                clear hdn hc
                go_wp2_with fail
                refine ⟨⟨Z5, _, r5, j5, all, safe, acts.length + 1, rfl, by go_num, HJ5.out, HZ5.out, Hb5.out, Ho5.out, Hap5.out, by omega, .inr ⟨rfl, Hdn.out⟩⟩, by simp [intOf]; omega⟩
          have f3 : (kd == 3) = false := by simpa using k3
          have f4 : (kd == 4) = false := by simpa using k4
          go_wp2_with fail
          as_aux_lemma =>
            refine ⟨⟨Z, _, r, j, all, safe, i + 1, rfl, by go_num, HJ.out, HZ.out, Hb.out, Hown.out, Hap.out, by omega, .inl ⟨o, rfl, Hinv0.out, by omega, by omega, by omega⟩⟩, by simp [intOf]; omega⟩
        · have d50 : decide ((i : Int) < 50) = false := by simp only [decide_eq_false_iff_not]; omega
          have d50' : decide (i < 50) = false := by simp only [decide_eq_false_iff_not]; exact h50
          have hdone := Jr.Inv.done Hinv0.out none
          as_aux_lemma =>
            obtain ⟨oo, xx, kk, hcr, hby, hpa, hsk, hkl⟩ := Jr.Done.parse (ks := ks) hdone
            have hlo := fun k hk => (Hown.out.lt k hk).2
            have HC := Lib.hid (crash_S kv ks HJ.out.disk (Hk.out.below Hb.out) (Hk.out.apart HZ.out))
            have Hcr := Lib.hid hcr
            have Hby := Lib.hid hby
            have Hpa := Lib.hid hpa
            have Hlo := Lib.hid hlo
            clear hcr hby hpa hlo hdone
            obtain ⟨A0, c0, hav, hc0, _⟩ := own_slice Hown.out
            have Hav := Lib.hid hav
            clear hav
            go_wp2_with fail
            refine HC.out.mono ?_
            rintro _ w5 ⟨rfl, hd5, hc5⟩
            rw [Hcr.out] at hd5
            have hZ5 : ∀ k, Plus Z wr w5 k → w.heap.size ≤ k := fun k hk => by
              rcases hk with h | h
              · exact HZ.out k h
              · have := Hb.out.size; omega
            have ho5 := hc5.ownsRow Hown.out (fun k hk => (Hap.out k hk).1)
            have Hd5 := Lib.hid hd5
            have HZ5 := Lib.hid hZ5
            have Hb5 := Lib.hid (chg_below hc5 HZ.out Hb.out)
            have Ho5 := Lib.hid ho5
            clear hd5 hc5 hZ5 ho5
            go_wp2_with fail
            refine (jopen_up Hd5.out Hby.out).mono ?_
            rintro _ w6 ⟨q2, v6, Z6, rfl, hJ6, hq6, hq6', hP6, hC6, hl6⟩
            rw [Hpa.out] at hl6
            have ho6 := hC6.ownsRow Ho5.out (fun k hk hp => by
              rcases hp with h | h
              · exact (Hap.out k hk).1 h
              · have := Hlo.out k hk; omega)
            rw [Hav.out] at ho6 ⊢
            obtain ⟨A8, c8, hv8, hc8, hl8⟩ := own_slice ho6
            injection hv8 with e8 _ e9
            subst e8
            subst e9
            have kB := begins_true (safe := safe) (lstA_lst hl6) hl8 hc8 hkl hsk (by omega)
            have KB := Lib.hid kB
            have Hb6 := Lib.hid (chg_below hC6 HZ5.out Hb5.out)
            clear kB hJ6 hq6 hq6' hP6 hC6 hl6 ho6 hl8
            go_wp2_with fail
            refine KB.out.mono ?_
            rintro _ w7 ⟨rfl, hb7⟩
            have Hb7 := Lib.hid (Hb6.out.trans (hb7.mono Hb6.out.size))
            clear hb7
            go_wp2_with fail
            go_ret
            exact ⟨rfl, Hb7.out⟩
      · have d0 : decide ((i : Int) < (acts.length : Int)) = false := by simp only [decide_eq_false_iff_not]; omega
        have d0' : decide (i < acts.length) = false := by simp only [decide_eq_false_iff_not]; exact hlt
        have hdone := Jr.Inv.done Hinv0.out none
        as_aux_lemma =>
          obtain ⟨oo, xx, kk, hcr, hby, hpa, hsk, hkl⟩ := Jr.Done.parse (ks := ks) hdone
          have hlo := fun k hk => (Hown.out.lt k hk).2
          have HC := Lib.hid (crash_S kv ks HJ.out.disk (Hk.out.below Hb.out) (Hk.out.apart HZ.out))
          have Hcr := Lib.hid hcr
          have Hby := Lib.hid hby
          have Hpa := Lib.hid hpa
          have Hlo := Lib.hid hlo
          clear hcr hby hpa hlo hdone
          obtain ⟨A0, c0, hav, hc0, _⟩ := own_slice Hown.out
          have Hav := Lib.hid hav
          clear hav
          go_wp2_with fail
          refine HC.out.mono ?_
          rintro _ w5 ⟨rfl, hd5, hc5⟩
          rw [Hcr.out] at hd5
          have hZ5 : ∀ k, Plus Z wr w5 k → w.heap.size ≤ k := fun k hk => by
            rcases hk with h | h
            · exact HZ.out k h
            · have := Hb.out.size; omega
          have ho5 := hc5.ownsRow Hown.out (fun k hk => (Hap.out k hk).1)
          have Hd5 := Lib.hid hd5
          have HZ5 := Lib.hid hZ5
          have Hb5 := Lib.hid (chg_below hc5 HZ.out Hb.out)
          have Ho5 := Lib.hid ho5
          clear hd5 hc5 hZ5 ho5
          go_wp2_with fail
          refine (jopen_up Hd5.out Hby.out).mono ?_
          rintro _ w6 ⟨q2, v6, Z6, rfl, hJ6, hq6, hq6', hP6, hC6, hl6⟩
          rw [Hpa.out] at hl6
          have ho6 := hC6.ownsRow Ho5.out (fun k hk hp => by
            rcases hp with h | h
            · exact (Hap.out k hk).1 h
            · have := Hlo.out k hk; omega)
          rw [Hav.out] at ho6 ⊢
          obtain ⟨A8, c8, hv8, hc8, hl8⟩ := own_slice ho6
          injection hv8 with e8 _ e9
          subst e8
          subst e9
          have kB := begins_true (safe := safe) (lstA_lst hl6) hl8 hc8 hkl hsk (by omega)
          have KB := Lib.hid kB
          have Hb6 := Lib.hid (chg_below hC6 HZ5.out Hb5.out)
          clear kB hJ6 hq6 hq6' hP6 hC6 hl6 ho6 hl8
          go_wp2_with fail
          refine KB.out.mono ?_
          rintro _ w7 ⟨rfl, hb7⟩
          have Hb7 := Lib.hid (Hb6.out.trans (hb7.mono Hb6.out.size))
          clear hb7
          go_wp2_with fail
          go_ret
          exact ⟨rfl, Hb7.out⟩
    · have d0 : decide (((acts.length + 1 : Nat) : Int) < (acts.length : Int)) = false := by simp only [decide_eq_false_iff_not]; omega
      have d0' : decide (acts.length + 1 < acts.length) = false := by simp only [decide_eq_false_iff_not]; omega
      as_aux_lemma =>
        obtain ⟨oo, xx, kk, hcr, hby, hpa, hsk, hkl⟩ := Jr.Done.parse (ks := ks) hdone
        have hlo := fun k hk => (Hown.out.lt k hk).2
        have HC := Lib.hid (crash_S kv ks HJ.out.disk (Hk.out.below Hb.out) (Hk.out.apart HZ.out))
        have Hcr := Lib.hid hcr
        have Hby := Lib.hid hby
        have Hpa := Lib.hid hpa
        have Hlo := Lib.hid hlo
        clear hcr hby hpa hlo hdone
        obtain ⟨A0, c0, hav, hc0, _⟩ := own_slice Hown.out
        have Hav := Lib.hid hav
        clear hav
        go_wp2_with fail
        refine HC.out.mono ?_
        rintro _ w5 ⟨rfl, hd5, hc5⟩
        rw [Hcr.out] at hd5
        have hZ5 : ∀ k, Plus Z wr w5 k → w.heap.size ≤ k := fun k hk => by
          rcases hk with h | h
          · exact HZ.out k h
          · have := Hb.out.size; omega
        have ho5 := hc5.ownsRow Hown.out (fun k hk => (Hap.out k hk).1)
        have Hd5 := Lib.hid hd5
        have HZ5 := Lib.hid hZ5
        have Hb5 := Lib.hid (chg_below hc5 HZ.out Hb.out)
        have Ho5 := Lib.hid ho5
        clear hd5 hc5 hZ5 ho5
        go_wp2_with fail
        refine (jopen_up Hd5.out Hby.out).mono ?_
        rintro _ w6 ⟨q2, v6, Z6, rfl, hJ6, hq6, hq6', hP6, hC6, hl6⟩
        rw [Hpa.out] at hl6
        have ho6 := hC6.ownsRow Ho5.out (fun k hk hp => by
          rcases hp with h | h
          · exact (Hap.out k hk).1 h
          · have := Hlo.out k hk; omega)
        rw [Hav.out] at ho6 ⊢
        obtain ⟨A8, c8, hv8, hc8, hl8⟩ := own_slice ho6
        injection hv8 with e8 _ e9
        subst e8
        subst e9
        have kB := begins_true (safe := safe) (lstA_lst hl6) hl8 hc8 hkl hsk (by omega)
        have KB := Lib.hid kB
        have Hb6 := Lib.hid (chg_below hC6 HZ5.out Hb5.out)
        clear kB hJ6 hq6 hq6' hP6 hC6 hl6 ho6 hl8
        go_wp2_with fail
        refine KB.out.mono ?_
        rintro _ w7 ⟨rfl, hb7⟩
        have Hb7 := Lib.hid (Hb6.out.trans (hb7.mono Hb6.out.size))
        clear hb7
        go_wp2_with fail
        go_ret
        exact ⟨rfl, Hb7.out⟩
end Go.Proofs.YtpphljdnnlfjhaaDoor
