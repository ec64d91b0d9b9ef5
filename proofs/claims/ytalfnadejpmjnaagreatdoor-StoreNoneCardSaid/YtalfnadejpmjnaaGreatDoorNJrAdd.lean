/- What later texts need of the earlier layers. -/
import Derived.Test.YtalfnadejpmjnaaGreatDoorNSlO
import Derived.Test.YtalfnadejpmjnaaGreatDoorNSlS
import Derived.Test.YtalfnadejpmjnaaGreatDoorNSlT
import Derived.Test.YtalfnadejpmjnaaGreatDoorNDkA
import Derived.Test.YtalfnadejpmjnaaGreatDoorNDkB
import Derived.Test.YtalfnadejpmjnaaGreatDoorNDkC
import Derived.Test.YtalfnadejpmjnaaGreatDoorNDkD
import Derived.Test.YtalfnadejpmjnaaGreatDoorNJrA
import Derived.Test.YtalfnadejpmjnaaGreatDoorNJrB
import Derived.Deep.AppendSrc
import Derived.Deep.DeepAppendWide
import Derived.OwnWalk
import Derived.Below
import Derived.WalkKit
import Derived.Shelf.Sort.Plain
import Derived.Shelf.Slices.In.SortNone
import Derived.Deep.QuietTactic
import Derived.BigQuiet
/- ---- JrAdd ---- -/
/- journal.Add, journal.Sync: what they return. -/
namespace Go.Proofs.YtalfnadejpmjnaaGreatDoor.Jn
set_option maxRecDepth 100000
open Go.RowKit
set_option maxRecDepth 100000
set_option linter.unusedVariables false
set_option linter.unusedSimpArgs false

theorem jadd_at {w : World} {B : Nat} {S : Nat → Prop} {g q : Nat} {l : List Fl} {r : Int} {j : Jr.J} (h : JS w B S g q l r j) (s : List UInt8) (hs : s.length ≤ 140737488351232) (hlen : j.len ≤ 1000000000) : Calls Tryz.prog 28 #[.pointer (some ⟨q, 0, none⟩), Sb s] w fun e w' => e = .returned (.int .i64 (Jr.addR l r j s).2.2.2) ∧ JTo w w' B S g q (Jr.addR l r j s).1 (Jr.addR l r j s).2.1 (Jr.addR l r j s).2.2.1 := by
  unfold Jr.addR
  have kw := jwrong_at h.row
  have Kw := Lib.hid kw
  by_cases hbr : j.broken = true
  · rw [if_pos hbr]
    rw [if_pos hbr] at kw
    have Kw := Lib.hid kw
    have Hto := Lib.hid (JTo.refl h)
    clear kw h
    go_enter Tryz.func28, Tryz.ntmps28
    go_wp2_with fail
    refine Kw.out.mono ?_
    rintro e w1 ⟨rfl, rfl⟩
    go_wp2_with fail
    go_ret
    exact ⟨rfl, Hto.out⟩
  rw [if_neg hbr]
  rw [if_neg hbr] at kw
  have Kw := Lib.hid kw
  clear kw
  obtain ⟨sv, hsv⟩ : ∃ b : ByteArray, (⟨s.toArray⟩ : ByteArray) = b := ⟨_, rfl⟩
  have hsz : sv.size = s.length := by rw [← hsv]; rfl
  have hS : Sb s = .string sv := by rw [← hsv]
  rw [hS]
  by_cases hbig : 4096 < s.length
  · rw [if_pos hbig]
    have d1 : decide ((4096 : Int) < (sv.size : Int)) = true := by simp only [decide_eq_true_eq]; omega
    have d1' : decide (4096 < sv.size) = true := by simp only [decide_eq_true_eq]; omega
    have Hto := Lib.hid (JTo.refl h)
    clear h hbig hsz
    go_enter Tryz.func28, Tryz.ntmps28
    go_wp2_with fail
    refine Kw.out.mono ?_
    rintro e w1 ⟨rfl, rfl⟩
    go_wp2_with fail
    go_ret
    exact ⟨rfl, Hto.out⟩
  rw [if_neg hbig]
  have d1 : decide ((4096 : Int) < (sv.size : Int)) = false := by simp only [decide_eq_false_iff_not]; omega
  have d1' : decide (4096 < sv.size) = false := by simp only [decide_eq_false_iff_not]; omega
  have hsl : sv.data.toList = s := by rw [← hsv]
  have kl := fun w : World => jrLay_any j.len sv w (by omega) (by omega)
  rw [hsl] at kl
  have hjl : Jr.nj.length ≤ 140737488351232 := by decide
  have hll := Jr.lay_le j.len s
  have kA := fun {w : World} {S : Nat → Prop} (h : DiskS w B S g l r) => append_S Jr.nj (Jr.lay j.len s) h hjl (by omega)
  rcases hA : appendR l r Jr.nj (Jr.lay j.len s) with ⟨l1, r1, c1⟩
  rw [hA] at kA
  obtain ⟨lv, hlv⟩ : ∃ v, Sb (Jr.lay j.len s) = v := ⟨_, rfl⟩
  obtain ⟨nv, hnv⟩ : ∃ v, Sb Jr.nj = v := ⟨_, rfl⟩
  have kl' : ∀ w : World, Calls Tryz.prog 62 #[.int .i64 (j.len : Int), .string sv] w fun e w' => e = .returned lv ∧ Below w.heap.size w w' := by
    intro w; rw [← hlv]; exact kl w
  simp only [hlv, hnv] at kA
  have KA := fun {w : World} {S : Nat → Prop} (h : DiskS w B S g l r) => Lib.hid (kA h)
  have KL := fun w : World => Lib.hid (kl' w)
  have Hnv := Lib.hid hnv
  clear kl kl' kA hA hlv hnv hsv hsz hS hbig hjl hll hsl hs
  have hjb : j.broken = false := by simpa using hbr
  clear hbr
  simp only
  by_cases e1 : c1 = 0
  · subst e1
    simp only [ne_eq, not_true_eq_false, if_false]
    have d2 : decide ((0 : Int) ≠ 0) = false := rfl
    go_enter Tryz.func28, Tryz.ntmps28
    go_wp2_with fail
    refine Kw.out.mono ?_
    rintro e w1 ⟨rfl, rfl⟩
    go_wp2_with fail
    have HJ := Lib.hid h
    have q0 := h.row.box.1
    have q1 := h.row.box.2.1
    have q2 := h.row.box.2.2.1
    rw [Hnv.out] at q1
    refine wp_region_noPanic ?_
    refine wp_region_held_drew (S := fun w' => w'.cell? ⟨q, 0, none⟩ = some (.pointer (some ⟨g, 0, none⟩)) ∧ w'.cell? ⟨q, 1, none⟩ = some nv ∧ w'.cell? ⟨q, 2, none⟩ = some (.int .i64 (j.len : Int))) (by kernel_rfl) (⟨(cell_drew rfl q 0).trans q0, (cell_drew rfl q 1).trans q1, (cell_drew rfl q 2).trans q2⟩) (fun hHeld => ?_)
    have hb3 : Below w.heap.size w w.drew := (Below.refl _ _).drew
    have HD3 := Lib.hid (HJ.out.below hb3)
    have Hb3 := Lib.hid hb3
    clear q0 q1 q2 hb3 h
    generalize w.drew = w3 at *
    refine wpAnyH_take (i := 0) (v := .pointer (some ⟨q, 0, none⟩)) rfl (by kernel_rfl) (by kernel_rfl) (by kernel_rfl) (fun _ _ _ h => h) (Or.inl ⟨by rfl, fun w' hSw => by go_simp⟩) hHeld ?_
    try simp only [Act.put, List.getElem_toArray, List.getElem_cons_succ, List.getElem_cons_zero, List.setIfInBounds_toArray, List.set_cons_zero, List.set_cons_succ]
    refine wpAnyH_take (i := 1) (v := .pointer (some ⟨q, 0, none⟩)) rfl (by kernel_rfl) (by kernel_rfl) (by kernel_rfl) (fun _ _ _ h => h) (Or.inl ⟨by rfl, fun w' hSw => by go_simp⟩) hHeld ?_
    try simp only [Act.put, List.getElem_toArray, List.getElem_cons_succ, List.getElem_cons_zero, List.setIfInBounds_toArray, List.set_cons_zero, List.set_cons_succ]
    refine wpAnyH_take (i := 2) (v := .pointer (some ⟨q, 0, none⟩)) rfl (by kernel_rfl) (by kernel_rfl) (by kernel_rfl) (fun _ _ _ h => h) (Or.inl ⟨by rfl, fun w' hSw => by go_simp⟩) hHeld ?_
    try simp only [Act.put, List.getElem_toArray, List.getElem_cons_succ, List.getElem_cons_zero, List.setIfInBounds_toArray, List.set_cons_zero, List.set_cons_succ]
    refine wpAnyH_take (i := 3) (v := .pointer (some ⟨q, 0, none⟩)) rfl (by kernel_rfl) (by kernel_rfl) (by kernel_rfl) (fun _ _ _ h => h) (Or.inl ⟨by rfl, fun w' hSw => by go_simp⟩) hHeld ?_
    try simp only [Act.put, List.getElem_toArray, List.getElem_cons_succ, List.getElem_cons_zero, List.setIfInBounds_toArray, List.set_cons_zero, List.set_cons_succ]
    refine wpAnyH_take (i := 4) (v := .pointer (some ⟨g, 0, none⟩)) rfl (by kernel_rfl) (by kernel_rfl) (by kernel_rfl) (fun _ _ _ h => h) (Or.inl ⟨by rfl, fun w' hSw => by have hq := hSw; obtain ⟨c0, c1, c2⟩ := hq; go_simp⟩) hHeld ?_
    try simp only [Act.put, List.getElem_toArray, List.getElem_cons_succ, List.getElem_cons_zero, List.setIfInBounds_toArray, List.set_cons_zero, List.set_cons_succ]
    refine wpAnyH_take (i := 5) (v := .pointer (some ⟨q, 0, none⟩)) rfl (by kernel_rfl) (by kernel_rfl) (by kernel_rfl) (fun _ _ _ h => h) (Or.inl ⟨by rfl, fun w' hSw => by go_simp⟩) hHeld ?_
    try simp only [Act.put, List.getElem_toArray, List.getElem_cons_succ, List.getElem_cons_zero, List.setIfInBounds_toArray, List.set_cons_zero, List.set_cons_succ]
    refine wpAnyH_take (i := 6) (v := .pointer (some ⟨q, 0, none⟩)) rfl (by kernel_rfl) (by kernel_rfl) (by kernel_rfl) (fun _ _ _ h => h) (Or.inl ⟨by rfl, fun w' hSw => by go_simp⟩) hHeld ?_
    try simp only [Act.put, List.getElem_toArray, List.getElem_cons_succ, List.getElem_cons_zero, List.setIfInBounds_toArray, List.set_cons_zero, List.set_cons_succ]
    refine wpAnyH_take (i := 7) (v := .pointer (some ⟨q, 1, none⟩)) rfl (by kernel_rfl) (by kernel_rfl) (by kernel_rfl) (fun _ _ _ h => h) (Or.inl ⟨by rfl, fun w' hSw => by go_simp⟩) hHeld ?_
    try simp only [Act.put, List.getElem_toArray, List.getElem_cons_succ, List.getElem_cons_zero, List.setIfInBounds_toArray, List.set_cons_zero, List.set_cons_succ]
    refine wpAnyH_take (i := 8) (v := nv) rfl (by kernel_rfl) (by kernel_rfl) (by kernel_rfl) (fun _ _ _ h => h) (Or.inl ⟨by rfl, fun w' hSw => by have hq := hSw; obtain ⟨c0, c1, c2⟩ := hq; go_simp⟩) hHeld ?_
    try simp only [Act.put, List.getElem_toArray, List.getElem_cons_succ, List.getElem_cons_zero, List.setIfInBounds_toArray, List.set_cons_zero, List.set_cons_succ]
    refine wpAnyH_take (i := 9) (v := .pointer (some ⟨q, 0, none⟩)) rfl (by kernel_rfl) (by kernel_rfl) (by kernel_rfl) (fun _ _ _ h => h) (Or.inl ⟨by rfl, fun w' hSw => by go_simp⟩) hHeld ?_
    try simp only [Act.put, List.getElem_toArray, List.getElem_cons_succ, List.getElem_cons_zero, List.setIfInBounds_toArray, List.set_cons_zero, List.set_cons_succ]
    refine wpAnyH_take (i := 10) (v := .pointer (some ⟨q, 0, none⟩)) rfl (by kernel_rfl) (by kernel_rfl) (by kernel_rfl) (fun _ _ _ h => h) (Or.inl ⟨by rfl, fun w' hSw => by go_simp⟩) hHeld ?_
    try simp only [Act.put, List.getElem_toArray, List.getElem_cons_succ, List.getElem_cons_zero, List.setIfInBounds_toArray, List.set_cons_zero, List.set_cons_succ]
    refine wpAnyH_take (i := 11) (v := .pointer (some ⟨q, 2, none⟩)) rfl (by kernel_rfl) (by kernel_rfl) (by kernel_rfl) (fun _ _ _ h => h) (Or.inl ⟨by rfl, fun w' hSw => by go_simp⟩) hHeld ?_
    try simp only [Act.put, List.getElem_toArray, List.getElem_cons_succ, List.getElem_cons_zero, List.setIfInBounds_toArray, List.set_cons_zero, List.set_cons_succ]
    refine wpAnyH_take (i := 12) (v := .int .i64 (j.len : Int)) rfl (by kernel_rfl) (by kernel_rfl) (by kernel_rfl) (fun _ _ _ h => h) (Or.inl ⟨by rfl, fun w' hSw => by have hq := hSw; obtain ⟨c0, c1, c2⟩ := hq; go_simp⟩) hHeld ?_
    try simp only [Act.put, List.getElem_toArray, List.getElem_cons_succ, List.getElem_cons_zero, List.setIfInBounds_toArray, List.set_cons_zero, List.set_cons_succ]
    refine wpAnyH_take (i := 13) (v := .string sv) rfl (by kernel_rfl) (by kernel_rfl) (by kernel_rfl) (fun _ _ _ h => h) (Or.inl ⟨by rfl, fun w' hSw => by go_simp⟩) hHeld ?_
    try simp only [Act.put, List.getElem_toArray, List.getElem_cons_succ, List.getElem_cons_zero, List.setIfInBounds_toArray, List.set_cons_zero, List.set_cons_succ]
    refine wpAnyH_ready (rs := [14]) (by kernel_rfl) (by simp) (AllReadyH.cons rfl (fun K1 hK1 => ?_) AllReadyH.nil)
    try simp only [Act.put, List.getElem_toArray, List.getElem_cons_succ, List.getElem_cons_zero, List.setIfInBounds_toArray, List.set_cons_zero, List.set_cons_succ]
    go_simp
    refine Calls.mono (KL _).out ?_
    rintro e w4 ⟨rfl, hb4⟩
    have hJ4 := HD3.out.below hb4
    have HJ4 := Lib.hid hJ4
    have Hb4 := Lib.hid (Hb3.out.trans (hb4.mono Hb3.out.size))
    refine hK1.out _ _ ⟨hJ4.row.box.1, hJ4.row.box.2.1.trans (congrArg some Hnv.out), hJ4.row.box.2.2.1⟩ (fun hHeld => ?_)
    clear hK1 K1 hb4 hJ4
    try simp only [Act.put, List.getElem_toArray, List.getElem_cons_succ, List.getElem_cons_zero, List.setIfInBounds_toArray, List.set_cons_zero, List.set_cons_succ]
    refine wpAnyH_ready (rs := [15]) (by kernel_rfl) (by simp) (AllReadyH.cons rfl (fun K1 hK1 => ?_) AllReadyH.nil)
    try simp only [Act.put, List.getElem_toArray, List.getElem_cons_succ, List.getElem_cons_zero, List.setIfInBounds_toArray, List.set_cons_zero, List.set_cons_succ]
    go_simp
    refine Calls.mono (KA HJ4.out.disk).out ?_
    rintro e w5 ⟨rfl, hd, hc⟩
    have t5 : JTo w w5 B S g q l1 r1 j := JTo.trans (fun _ h => Or.inl h) ⟨Hb4.out.os, Hb4.out.tape, Hb4.out.output, Hb4.out.size, fun i hi _ => Hb4.out.block i hi⟩ (HJ4.out.diskTo hd hc)
    obtain ⟨S5, hJ5, hP5, hC5⟩ := t5
    have HJ5 := Lib.hid hJ5
    have HP5 := Lib.hid hP5
    have HC5 := Lib.hid hC5
    refine hK1.out _ _ ⟨hJ5.row.box.1, hJ5.row.box.2.1.trans (congrArg some Hnv.out), hJ5.row.box.2.2.1⟩ (fun hHeld => ?_)
    clear hK1 K1 hd hc hJ5 hP5 hC5
    try simp only [Act.put, List.getElem_toArray, List.getElem_cons_succ, List.getElem_cons_zero, List.setIfInBounds_toArray, List.set_cons_zero, List.set_cons_succ]
    refine wpAnyH_ready (rs := [16]) (by kernel_rfl) (by simp) (AllReadyH.cons rfl (fun K1 hK1 => ?_) AllReadyH.nil)
    try simp only [Act.put, List.getElem_toArray, List.getElem_cons_succ, List.getElem_cons_zero, List.setIfInBounds_toArray, List.set_cons_zero, List.set_cons_succ]
    go_simp
    refine Calls.mono (jdid_at HJ5.out 0) ?_
    rintro e w6 ⟨rfl, t6⟩
    have t7 := JTo.trans HP5.out HC5.out t6
    have H7 := Lib.hid t7
    obtain ⟨S6, hJ6, _, _⟩ := t7
    refine hK1.out _ _ ⟨hJ6.row.box.1, hJ6.row.box.2.1.trans (congrArg some Hnv.out), hJ6.row.box.2.2.1⟩ (fun hHeld => ?_)
    clear hK1 K1 t6 hJ6
    try simp only [Act.put, List.getElem_toArray, List.getElem_cons_succ, List.getElem_cons_zero, List.setIfInBounds_toArray, List.set_cons_zero, List.set_cons_succ]
    refine wpAnyH_take (i := 17) (v := .int .i64 0) rfl (by kernel_rfl) (by kernel_rfl) (by kernel_rfl) (fun _ _ _ h => h) (Or.inl ⟨by rfl, fun w' hSw => by go_simp⟩) hHeld ?_
    try simp only [Act.put, List.getElem_toArray, List.getElem_cons_succ, List.getElem_cons_zero, List.setIfInBounds_toArray, List.set_cons_zero, List.set_cons_succ]
    refine wpAnyH_done (by kernel_rfl) ?_ _
    refine NoPanic.normal ?_
    clear hHeld
    obtain ⟨S8, hJ8, hP8, hC8⟩ := H7.out
    have z2 := hJ8.row.box.2.2.1
    have z3 := hJ8.row.box.2.2.2.1
    have zf := Row.free hJ8.row 2
    have zr := Row.set hJ8.row 2 (.int .i64 ((j.len : Int) + 1)) (by simp [jcells])
    have t9 := JTo.trans hP8 hC8 (hJ8.rowTo (j' := ⟨j.len + 1, j.synced, false⟩) (grownBy_set w6 q 2 (.int .i64 ((j.len : Int) + 1))) (by unfold JAt; unfold jcells at zr ⊢; simpa using zr))
    have H9 := Lib.hid t9
    clear hJ8 hP8 hC8 zr t9 H7
    go_wp2_with fail
    go_ret
    exact ⟨rfl, H9.out⟩
  · rw [if_pos e1]
    have d2 : (c1 != 0) = true := by simpa using e1
    have d3 : decide (c1 ≠ 0) = true := by simpa using e1
    clear e1
    go_enter Tryz.func28, Tryz.ntmps28
    go_wp2_with fail
    refine Kw.out.mono ?_
    rintro e w1 ⟨rfl, rfl⟩
    go_wp2_with fail
    have HJ := Lib.hid h
    have q0 := h.row.box.1
    have q1 := h.row.box.2.1
    have q2 := h.row.box.2.2.1
    rw [Hnv.out] at q1
    refine wp_region_noPanic ?_
    refine wp_region_held_drew (S := fun w' => w'.cell? ⟨q, 0, none⟩ = some (.pointer (some ⟨g, 0, none⟩)) ∧ w'.cell? ⟨q, 1, none⟩ = some nv ∧ w'.cell? ⟨q, 2, none⟩ = some (.int .i64 (j.len : Int))) (by kernel_rfl) (⟨(cell_drew rfl q 0).trans q0, (cell_drew rfl q 1).trans q1, (cell_drew rfl q 2).trans q2⟩) (fun hHeld => ?_)
    have hb3 : Below w.heap.size w w.drew := (Below.refl _ _).drew
    have HD3 := Lib.hid (HJ.out.below hb3)
    have Hb3 := Lib.hid hb3
    clear q0 q1 q2 hb3 h
    generalize w.drew = w3 at *
    refine wpAnyH_take (i := 0) (v := .pointer (some ⟨q, 0, none⟩)) rfl (by kernel_rfl) (by kernel_rfl) (by kernel_rfl) (fun _ _ _ h => h) (Or.inl ⟨by rfl, fun w' hSw => by go_simp⟩) hHeld ?_
    try simp only [Act.put, List.getElem_toArray, List.getElem_cons_succ, List.getElem_cons_zero, List.setIfInBounds_toArray, List.set_cons_zero, List.set_cons_succ]
    refine wpAnyH_take (i := 1) (v := .pointer (some ⟨q, 0, none⟩)) rfl (by kernel_rfl) (by kernel_rfl) (by kernel_rfl) (fun _ _ _ h => h) (Or.inl ⟨by rfl, fun w' hSw => by go_simp⟩) hHeld ?_
    try simp only [Act.put, List.getElem_toArray, List.getElem_cons_succ, List.getElem_cons_zero, List.setIfInBounds_toArray, List.set_cons_zero, List.set_cons_succ]
    refine wpAnyH_take (i := 2) (v := .pointer (some ⟨q, 0, none⟩)) rfl (by kernel_rfl) (by kernel_rfl) (by kernel_rfl) (fun _ _ _ h => h) (Or.inl ⟨by rfl, fun w' hSw => by go_simp⟩) hHeld ?_
    try simp only [Act.put, List.getElem_toArray, List.getElem_cons_succ, List.getElem_cons_zero, List.setIfInBounds_toArray, List.set_cons_zero, List.set_cons_succ]
    refine wpAnyH_take (i := 3) (v := .pointer (some ⟨q, 0, none⟩)) rfl (by kernel_rfl) (by kernel_rfl) (by kernel_rfl) (fun _ _ _ h => h) (Or.inl ⟨by rfl, fun w' hSw => by go_simp⟩) hHeld ?_
    try simp only [Act.put, List.getElem_toArray, List.getElem_cons_succ, List.getElem_cons_zero, List.setIfInBounds_toArray, List.set_cons_zero, List.set_cons_succ]
    refine wpAnyH_take (i := 4) (v := .pointer (some ⟨g, 0, none⟩)) rfl (by kernel_rfl) (by kernel_rfl) (by kernel_rfl) (fun _ _ _ h => h) (Or.inl ⟨by rfl, fun w' hSw => by have hq := hSw; obtain ⟨c0, c1, c2⟩ := hq; go_simp⟩) hHeld ?_
    try simp only [Act.put, List.getElem_toArray, List.getElem_cons_succ, List.getElem_cons_zero, List.setIfInBounds_toArray, List.set_cons_zero, List.set_cons_succ]
    refine wpAnyH_take (i := 5) (v := .pointer (some ⟨q, 0, none⟩)) rfl (by kernel_rfl) (by kernel_rfl) (by kernel_rfl) (fun _ _ _ h => h) (Or.inl ⟨by rfl, fun w' hSw => by go_simp⟩) hHeld ?_
    try simp only [Act.put, List.getElem_toArray, List.getElem_cons_succ, List.getElem_cons_zero, List.setIfInBounds_toArray, List.set_cons_zero, List.set_cons_succ]
    refine wpAnyH_take (i := 6) (v := .pointer (some ⟨q, 0, none⟩)) rfl (by kernel_rfl) (by kernel_rfl) (by kernel_rfl) (fun _ _ _ h => h) (Or.inl ⟨by rfl, fun w' hSw => by go_simp⟩) hHeld ?_
    try simp only [Act.put, List.getElem_toArray, List.getElem_cons_succ, List.getElem_cons_zero, List.setIfInBounds_toArray, List.set_cons_zero, List.set_cons_succ]
    refine wpAnyH_take (i := 7) (v := .pointer (some ⟨q, 1, none⟩)) rfl (by kernel_rfl) (by kernel_rfl) (by kernel_rfl) (fun _ _ _ h => h) (Or.inl ⟨by rfl, fun w' hSw => by go_simp⟩) hHeld ?_
    try simp only [Act.put, List.getElem_toArray, List.getElem_cons_succ, List.getElem_cons_zero, List.setIfInBounds_toArray, List.set_cons_zero, List.set_cons_succ]
    refine wpAnyH_take (i := 8) (v := nv) rfl (by kernel_rfl) (by kernel_rfl) (by kernel_rfl) (fun _ _ _ h => h) (Or.inl ⟨by rfl, fun w' hSw => by have hq := hSw; obtain ⟨c0, c1, c2⟩ := hq; go_simp⟩) hHeld ?_
    try simp only [Act.put, List.getElem_toArray, List.getElem_cons_succ, List.getElem_cons_zero, List.setIfInBounds_toArray, List.set_cons_zero, List.set_cons_succ]
    refine wpAnyH_take (i := 9) (v := .pointer (some ⟨q, 0, none⟩)) rfl (by kernel_rfl) (by kernel_rfl) (by kernel_rfl) (fun _ _ _ h => h) (Or.inl ⟨by rfl, fun w' hSw => by go_simp⟩) hHeld ?_
    try simp only [Act.put, List.getElem_toArray, List.getElem_cons_succ, List.getElem_cons_zero, List.setIfInBounds_toArray, List.set_cons_zero, List.set_cons_succ]
    refine wpAnyH_take (i := 10) (v := .pointer (some ⟨q, 0, none⟩)) rfl (by kernel_rfl) (by kernel_rfl) (by kernel_rfl) (fun _ _ _ h => h) (Or.inl ⟨by rfl, fun w' hSw => by go_simp⟩) hHeld ?_
    try simp only [Act.put, List.getElem_toArray, List.getElem_cons_succ, List.getElem_cons_zero, List.setIfInBounds_toArray, List.set_cons_zero, List.set_cons_succ]
    refine wpAnyH_take (i := 11) (v := .pointer (some ⟨q, 2, none⟩)) rfl (by kernel_rfl) (by kernel_rfl) (by kernel_rfl) (fun _ _ _ h => h) (Or.inl ⟨by rfl, fun w' hSw => by go_simp⟩) hHeld ?_
    try simp only [Act.put, List.getElem_toArray, List.getElem_cons_succ, List.getElem_cons_zero, List.setIfInBounds_toArray, List.set_cons_zero, List.set_cons_succ]
    refine wpAnyH_take (i := 12) (v := .int .i64 (j.len : Int)) rfl (by kernel_rfl) (by kernel_rfl) (by kernel_rfl) (fun _ _ _ h => h) (Or.inl ⟨by rfl, fun w' hSw => by have hq := hSw; obtain ⟨c0, c1, c2⟩ := hq; go_simp⟩) hHeld ?_
    try simp only [Act.put, List.getElem_toArray, List.getElem_cons_succ, List.getElem_cons_zero, List.setIfInBounds_toArray, List.set_cons_zero, List.set_cons_succ]
    refine wpAnyH_take (i := 13) (v := .string sv) rfl (by kernel_rfl) (by kernel_rfl) (by kernel_rfl) (fun _ _ _ h => h) (Or.inl ⟨by rfl, fun w' hSw => by go_simp⟩) hHeld ?_
    try simp only [Act.put, List.getElem_toArray, List.getElem_cons_succ, List.getElem_cons_zero, List.setIfInBounds_toArray, List.set_cons_zero, List.set_cons_succ]
    refine wpAnyH_ready (rs := [14]) (by kernel_rfl) (by simp) (AllReadyH.cons rfl (fun K1 hK1 => ?_) AllReadyH.nil)
    try simp only [Act.put, List.getElem_toArray, List.getElem_cons_succ, List.getElem_cons_zero, List.setIfInBounds_toArray, List.set_cons_zero, List.set_cons_succ]
    go_simp
    refine Calls.mono (KL _).out ?_
    rintro e w4 ⟨rfl, hb4⟩
    have hJ4 := HD3.out.below hb4
    have HJ4 := Lib.hid hJ4
    have Hb4 := Lib.hid (Hb3.out.trans (hb4.mono Hb3.out.size))
    refine hK1.out _ _ ⟨hJ4.row.box.1, hJ4.row.box.2.1.trans (congrArg some Hnv.out), hJ4.row.box.2.2.1⟩ (fun hHeld => ?_)
    clear hK1 K1 hb4 hJ4
    try simp only [Act.put, List.getElem_toArray, List.getElem_cons_succ, List.getElem_cons_zero, List.setIfInBounds_toArray, List.set_cons_zero, List.set_cons_succ]
    refine wpAnyH_ready (rs := [15]) (by kernel_rfl) (by simp) (AllReadyH.cons rfl (fun K1 hK1 => ?_) AllReadyH.nil)
    try simp only [Act.put, List.getElem_toArray, List.getElem_cons_succ, List.getElem_cons_zero, List.setIfInBounds_toArray, List.set_cons_zero, List.set_cons_succ]
    go_simp
    refine Calls.mono (KA HJ4.out.disk).out ?_
    rintro e w5 ⟨rfl, hd, hc⟩
    have t5 : JTo w w5 B S g q l1 r1 j := JTo.trans (fun _ h => Or.inl h) ⟨Hb4.out.os, Hb4.out.tape, Hb4.out.output, Hb4.out.size, fun i hi _ => Hb4.out.block i hi⟩ (HJ4.out.diskTo hd hc)
    obtain ⟨S5, hJ5, hP5, hC5⟩ := t5
    have HJ5 := Lib.hid hJ5
    have HP5 := Lib.hid hP5
    have HC5 := Lib.hid hC5
    refine hK1.out _ _ ⟨hJ5.row.box.1, hJ5.row.box.2.1.trans (congrArg some Hnv.out), hJ5.row.box.2.2.1⟩ (fun hHeld => ?_)
    clear hK1 K1 hd hc hJ5 hP5 hC5
    try simp only [Act.put, List.getElem_toArray, List.getElem_cons_succ, List.getElem_cons_zero, List.setIfInBounds_toArray, List.set_cons_zero, List.set_cons_succ]
    refine wpAnyH_ready (rs := [16]) (by kernel_rfl) (by simp) (AllReadyH.cons rfl (fun K1 hK1 => ?_) AllReadyH.nil)
    try simp only [Act.put, List.getElem_toArray, List.getElem_cons_succ, List.getElem_cons_zero, List.setIfInBounds_toArray, List.set_cons_zero, List.set_cons_succ]
    go_simp
    refine Calls.mono (jdid_at HJ5.out c1) ?_
    rintro e w6 ⟨rfl, t6⟩
    have t7 := JTo.trans HP5.out HC5.out t6
    have H7 := Lib.hid t7
    obtain ⟨S6, hJ6, _, _⟩ := t7
    refine hK1.out _ _ ⟨hJ6.row.box.1, hJ6.row.box.2.1.trans (congrArg some Hnv.out), hJ6.row.box.2.2.1⟩ (fun hHeld => ?_)
    clear hK1 K1 t6 hJ6
    try simp only [Act.put, List.getElem_toArray, List.getElem_cons_succ, List.getElem_cons_zero, List.setIfInBounds_toArray, List.set_cons_zero, List.set_cons_succ]
    refine wpAnyH_take (i := 17) (v := .int .i64 c1) rfl (by kernel_rfl) (by kernel_rfl) (by kernel_rfl) (fun _ _ _ h => h) (Or.inl ⟨by rfl, fun w' hSw => by go_simp⟩) hHeld ?_
    try simp only [Act.put, List.getElem_toArray, List.getElem_cons_succ, List.getElem_cons_zero, List.setIfInBounds_toArray, List.set_cons_zero, List.set_cons_succ]
    refine wpAnyH_done (by kernel_rfl) ?_ _
    refine NoPanic.normal ?_
    clear hHeld
    go_wp2_with fail
    go_ret
    rw [d3] at H7
    exact ⟨rfl, H7.out⟩
theorem jsync_at {w : World} {B : Nat} {S : Nat → Prop} {g q : Nat} {l : List Fl} {r : Int} {j : Jr.J} (h : JS w B S g q l r j) : Calls Tryz.prog 29 #[.pointer (some ⟨q, 0, none⟩)] w fun e w' => e = .returned (.int .i64 (Jr.syncJ l r j).2.2.2) ∧ JTo w w' B S g q (Jr.syncJ l r j).1 (Jr.syncJ l r j).2.1 (Jr.syncJ l r j).2.2.1 := by
  unfold Jr.syncJ
  have kw := jwrong_at h.row
  by_cases hbr : j.broken = true
  · rw [if_pos hbr]
    rw [if_pos hbr] at kw
    have Kw := Lib.hid kw
    have Hto := Lib.hid (JTo.refl h)
    clear kw h
    go_enter Tryz.func29, Tryz.ntmps29
    go_wp2_with fail
    refine Kw.out.mono ?_
    rintro e w1 ⟨rfl, rfl⟩
    go_wp2_with fail
    go_ret
    exact ⟨rfl, Hto.out⟩
  rw [if_neg hbr]
  rw [if_neg hbr] at kw
  have Kw := Lib.hid kw
  clear kw
  have hjb : j.broken = false := by simpa using hbr
  have p2 := h.row.box.2.2.1
  by_cases h0 : j.len = 0
  · rw [if_pos h0]
    have d1 : ((j.len : Int) == 0) = true := by simp only [beq_iff_eq]; omega
    have d1' : decide (j.len = 0) = true := by simp only [decide_eq_true_eq]; omega
    have Hto := Lib.hid (JTo.refl h)
    clear h h0 hbr
    go_enter Tryz.func29, Tryz.ntmps29
    go_wp2_with fail
    refine Kw.out.mono ?_
    rintro e w1 ⟨rfl, rfl⟩
    go_wp2_with fail
    go_ret
    exact ⟨rfl, Hto.out⟩
  rw [if_neg h0]
  have d1 : ((j.len : Int) == 0) = false := by simp only [beq_eq_false_iff_ne]; omega
  have d1' : decide (j.len = 0) = false := by simp only [decide_eq_false_iff_not]; omega
  have hjl : Jr.nj.length ≤ maxLen := by decide
  have kA := fun {w : World} {S : Nat → Prop} (h : DiskS w B S g l r) => sync_S Jr.nj h hjl
  rcases hA : syncR l r Jr.nj with ⟨l1, r1, c1⟩
  rw [hA] at kA
  obtain ⟨nv, hnv⟩ : ∃ v, Sb Jr.nj = v := ⟨_, rfl⟩
  simp only [hnv] at kA
  have KA := fun {w : World} {S : Nat → Prop} (h : DiskS w B S g l r) => Lib.hid (kA h)
  have Hnv := Lib.hid hnv
  clear kA hA hnv hjl hbr h0
  simp only
  by_cases e1 : c1 = 0
  · subst e1
    simp only [ne_eq, not_true_eq_false, if_false]
    have d2 : decide ((0 : Int) ≠ 0) = false := rfl
    go_enter Tryz.func29, Tryz.ntmps29
    go_wp2_with fail
    refine Kw.out.mono ?_
    rintro e w1 ⟨rfl, rfl⟩
    go_wp2_with fail
    have HJ := Lib.hid h
    have q0 := h.row.box.1
    have q1 := h.row.box.2.1
    have q2 := h.row.box.2.2.1
    clear p2
    rw [Hnv.out] at q1
    refine wp_region_noPanic ?_
    refine wp_region_held_drew (S := fun w' => w'.cell? ⟨q, 0, none⟩ = some (.pointer (some ⟨g, 0, none⟩)) ∧ w'.cell? ⟨q, 1, none⟩ = some nv ∧ w'.cell? ⟨q, 2, none⟩ = some (.int .i64 (j.len : Int))) (by kernel_rfl) (⟨(cell_drew rfl q 0).trans q0, (cell_drew rfl q 1).trans q1, (cell_drew rfl q 2).trans q2⟩) (fun hHeld => ?_)
    have hb3 : Below w.heap.size w w.drew := (Below.refl _ _).drew
    have HD3 := Lib.hid (HJ.out.below hb3)
    have Hb3 := Lib.hid hb3
    clear q0 q1 q2 hb3 h
    generalize w.drew = w3 at *
    refine wpAnyH_take (i := 0) (v := .pointer (some ⟨q, 0, none⟩)) rfl (by kernel_rfl) (by kernel_rfl) (by kernel_rfl) (fun _ _ _ h => h) (Or.inl ⟨by rfl, fun w' hSw => by go_simp⟩) hHeld ?_
    try simp only [Act.put, List.getElem_toArray, List.getElem_cons_succ, List.getElem_cons_zero, List.setIfInBounds_toArray, List.set_cons_zero, List.set_cons_succ]
    refine wpAnyH_take (i := 1) (v := .pointer (some ⟨q, 0, none⟩)) rfl (by kernel_rfl) (by kernel_rfl) (by kernel_rfl) (fun _ _ _ h => h) (Or.inl ⟨by rfl, fun w' hSw => by go_simp⟩) hHeld ?_
    try simp only [Act.put, List.getElem_toArray, List.getElem_cons_succ, List.getElem_cons_zero, List.setIfInBounds_toArray, List.set_cons_zero, List.set_cons_succ]
    refine wpAnyH_take (i := 2) (v := .pointer (some ⟨q, 0, none⟩)) rfl (by kernel_rfl) (by kernel_rfl) (by kernel_rfl) (fun _ _ _ h => h) (Or.inl ⟨by rfl, fun w' hSw => by go_simp⟩) hHeld ?_
    try simp only [Act.put, List.getElem_toArray, List.getElem_cons_succ, List.getElem_cons_zero, List.setIfInBounds_toArray, List.set_cons_zero, List.set_cons_succ]
    refine wpAnyH_take (i := 3) (v := .pointer (some ⟨q, 0, none⟩)) rfl (by kernel_rfl) (by kernel_rfl) (by kernel_rfl) (fun _ _ _ h => h) (Or.inl ⟨by rfl, fun w' hSw => by go_simp⟩) hHeld ?_
    try simp only [Act.put, List.getElem_toArray, List.getElem_cons_succ, List.getElem_cons_zero, List.setIfInBounds_toArray, List.set_cons_zero, List.set_cons_succ]
    refine wpAnyH_take (i := 4) (v := .pointer (some ⟨g, 0, none⟩)) rfl (by kernel_rfl) (by kernel_rfl) (by kernel_rfl) (fun _ _ _ h => h) (Or.inl ⟨by rfl, fun w' hSw => by have hq := hSw; obtain ⟨c0, c1, c2⟩ := hq; go_simp⟩) hHeld ?_
    try simp only [Act.put, List.getElem_toArray, List.getElem_cons_succ, List.getElem_cons_zero, List.setIfInBounds_toArray, List.set_cons_zero, List.set_cons_succ]
    refine wpAnyH_take (i := 5) (v := .pointer (some ⟨q, 0, none⟩)) rfl (by kernel_rfl) (by kernel_rfl) (by kernel_rfl) (fun _ _ _ h => h) (Or.inl ⟨by rfl, fun w' hSw => by go_simp⟩) hHeld ?_
    try simp only [Act.put, List.getElem_toArray, List.getElem_cons_succ, List.getElem_cons_zero, List.setIfInBounds_toArray, List.set_cons_zero, List.set_cons_succ]
    refine wpAnyH_take (i := 6) (v := .pointer (some ⟨q, 0, none⟩)) rfl (by kernel_rfl) (by kernel_rfl) (by kernel_rfl) (fun _ _ _ h => h) (Or.inl ⟨by rfl, fun w' hSw => by go_simp⟩) hHeld ?_
    try simp only [Act.put, List.getElem_toArray, List.getElem_cons_succ, List.getElem_cons_zero, List.setIfInBounds_toArray, List.set_cons_zero, List.set_cons_succ]
    refine wpAnyH_take (i := 7) (v := .pointer (some ⟨q, 1, none⟩)) rfl (by kernel_rfl) (by kernel_rfl) (by kernel_rfl) (fun _ _ _ h => h) (Or.inl ⟨by rfl, fun w' hSw => by go_simp⟩) hHeld ?_
    try simp only [Act.put, List.getElem_toArray, List.getElem_cons_succ, List.getElem_cons_zero, List.setIfInBounds_toArray, List.set_cons_zero, List.set_cons_succ]
    refine wpAnyH_take (i := 8) (v := nv) rfl (by kernel_rfl) (by kernel_rfl) (by kernel_rfl) (fun _ _ _ h => h) (Or.inl ⟨by rfl, fun w' hSw => by have hq := hSw; obtain ⟨c0, c1, c2⟩ := hq; go_simp⟩) hHeld ?_
    try simp only [Act.put, List.getElem_toArray, List.getElem_cons_succ, List.getElem_cons_zero, List.setIfInBounds_toArray, List.set_cons_zero, List.set_cons_succ]
    refine wpAnyH_ready (rs := [9]) (by kernel_rfl) (by simp) (AllReadyH.cons rfl (fun K1 hK1 => ?_) AllReadyH.nil)
    try simp only [Act.put, List.getElem_toArray, List.getElem_cons_succ, List.getElem_cons_zero, List.setIfInBounds_toArray, List.set_cons_zero, List.set_cons_succ]
    go_simp
    refine Calls.mono (KA HD3.out.disk).out ?_
    rintro e w5 ⟨rfl, hd, hc⟩
    have t5 : JTo w w5 B S g q l1 r1 j := JTo.trans (fun _ h => Or.inl h) ⟨Hb3.out.os, Hb3.out.tape, Hb3.out.output, Hb3.out.size, fun i hi _ => Hb3.out.block i hi⟩ (HD3.out.diskTo hd hc)
    obtain ⟨S5, hJ5, hP5, hC5⟩ := t5
    have HJ5 := Lib.hid hJ5
    have HP5 := Lib.hid hP5
    have HC5 := Lib.hid hC5
    refine hK1.out _ _ ⟨hJ5.row.box.1, hJ5.row.box.2.1.trans (congrArg some Hnv.out), hJ5.row.box.2.2.1⟩ (fun hHeld => ?_)
    clear hK1 K1 hd hc hJ5 hP5 hC5
    try simp only [Act.put, List.getElem_toArray, List.getElem_cons_succ, List.getElem_cons_zero, List.setIfInBounds_toArray, List.set_cons_zero, List.set_cons_succ]
    refine wpAnyH_ready (rs := [10]) (by kernel_rfl) (by simp) (AllReadyH.cons rfl (fun K1 hK1 => ?_) AllReadyH.nil)
    try simp only [Act.put, List.getElem_toArray, List.getElem_cons_succ, List.getElem_cons_zero, List.setIfInBounds_toArray, List.set_cons_zero, List.set_cons_succ]
    go_simp
    refine Calls.mono (jdid_at HJ5.out 0) ?_
    rintro e w6 ⟨rfl, t6⟩
    have t7 := JTo.trans HP5.out HC5.out t6
    have H7 := Lib.hid t7
    obtain ⟨S6, hJ6, _, _⟩ := t7
    refine hK1.out _ _ ⟨hJ6.row.box.1, hJ6.row.box.2.1.trans (congrArg some Hnv.out), hJ6.row.box.2.2.1⟩ (fun hHeld => ?_)
    clear hK1 K1 t6 hJ6
    try simp only [Act.put, List.getElem_toArray, List.getElem_cons_succ, List.getElem_cons_zero, List.setIfInBounds_toArray, List.set_cons_zero, List.set_cons_succ]
    refine wpAnyH_take (i := 11) (v := .int .i64 0) rfl (by kernel_rfl) (by kernel_rfl) (by kernel_rfl) (fun _ _ _ h => h) (Or.inl ⟨by rfl, fun w' hSw => by go_simp⟩) hHeld ?_
    try simp only [Act.put, List.getElem_toArray, List.getElem_cons_succ, List.getElem_cons_zero, List.setIfInBounds_toArray, List.set_cons_zero, List.set_cons_succ]
    refine wpAnyH_done (by kernel_rfl) ?_ _
    refine NoPanic.normal ?_
    clear hHeld
    obtain ⟨S8, hJ8, hP8, hC8⟩ := H7.out
    have z2 := hJ8.row.box.2.2.1
    have z3 := hJ8.row.box.2.2.2.1
    have zf := Row.free hJ8.row 3
    have zr := Row.set hJ8.row 3 (.int .i64 (j.len : Int)) (by simp [jcells])
    have t9 := JTo.trans hP8 hC8 (hJ8.rowTo (j' := ⟨j.len, j.len, false⟩) (grownBy_set w6 q 3 (.int .i64 (j.len : Int))) (by unfold JAt; unfold jcells at zr ⊢; simpa using zr))
    have H9 := Lib.hid t9
    clear hJ8 hP8 hC8 zr t9 H7
    go_wp2_with fail
    go_ret
    exact ⟨rfl, H9.out⟩
  · rw [if_pos e1]
    have d2 : (c1 != 0) = true := by simpa using e1
    have d3 : decide (c1 ≠ 0) = true := by simpa using e1
    clear e1
    go_enter Tryz.func29, Tryz.ntmps29
    go_wp2_with fail
    refine Kw.out.mono ?_
    rintro e w1 ⟨rfl, rfl⟩
    go_wp2_with fail
    have HJ := Lib.hid h
    have q0 := h.row.box.1
    have q1 := h.row.box.2.1
    have q2 := h.row.box.2.2.1
    clear p2
    rw [Hnv.out] at q1
    refine wp_region_noPanic ?_
    refine wp_region_held_drew (S := fun w' => w'.cell? ⟨q, 0, none⟩ = some (.pointer (some ⟨g, 0, none⟩)) ∧ w'.cell? ⟨q, 1, none⟩ = some nv ∧ w'.cell? ⟨q, 2, none⟩ = some (.int .i64 (j.len : Int))) (by kernel_rfl) (⟨(cell_drew rfl q 0).trans q0, (cell_drew rfl q 1).trans q1, (cell_drew rfl q 2).trans q2⟩) (fun hHeld => ?_)
    have hb3 : Below w.heap.size w w.drew := (Below.refl _ _).drew
    have HD3 := Lib.hid (HJ.out.below hb3)
    have Hb3 := Lib.hid hb3
    clear q0 q1 q2 hb3 h
    generalize w.drew = w3 at *
    refine wpAnyH_take (i := 0) (v := .pointer (some ⟨q, 0, none⟩)) rfl (by kernel_rfl) (by kernel_rfl) (by kernel_rfl) (fun _ _ _ h => h) (Or.inl ⟨by rfl, fun w' hSw => by go_simp⟩) hHeld ?_
    try simp only [Act.put, List.getElem_toArray, List.getElem_cons_succ, List.getElem_cons_zero, List.setIfInBounds_toArray, List.set_cons_zero, List.set_cons_succ]
    refine wpAnyH_take (i := 1) (v := .pointer (some ⟨q, 0, none⟩)) rfl (by kernel_rfl) (by kernel_rfl) (by kernel_rfl) (fun _ _ _ h => h) (Or.inl ⟨by rfl, fun w' hSw => by go_simp⟩) hHeld ?_
    try simp only [Act.put, List.getElem_toArray, List.getElem_cons_succ, List.getElem_cons_zero, List.setIfInBounds_toArray, List.set_cons_zero, List.set_cons_succ]
    refine wpAnyH_take (i := 2) (v := .pointer (some ⟨q, 0, none⟩)) rfl (by kernel_rfl) (by kernel_rfl) (by kernel_rfl) (fun _ _ _ h => h) (Or.inl ⟨by rfl, fun w' hSw => by go_simp⟩) hHeld ?_
    try simp only [Act.put, List.getElem_toArray, List.getElem_cons_succ, List.getElem_cons_zero, List.setIfInBounds_toArray, List.set_cons_zero, List.set_cons_succ]
    refine wpAnyH_take (i := 3) (v := .pointer (some ⟨q, 0, none⟩)) rfl (by kernel_rfl) (by kernel_rfl) (by kernel_rfl) (fun _ _ _ h => h) (Or.inl ⟨by rfl, fun w' hSw => by go_simp⟩) hHeld ?_
    try simp only [Act.put, List.getElem_toArray, List.getElem_cons_succ, List.getElem_cons_zero, List.setIfInBounds_toArray, List.set_cons_zero, List.set_cons_succ]
    refine wpAnyH_take (i := 4) (v := .pointer (some ⟨g, 0, none⟩)) rfl (by kernel_rfl) (by kernel_rfl) (by kernel_rfl) (fun _ _ _ h => h) (Or.inl ⟨by rfl, fun w' hSw => by have hq := hSw; obtain ⟨c0, c1, c2⟩ := hq; go_simp⟩) hHeld ?_
    try simp only [Act.put, List.getElem_toArray, List.getElem_cons_succ, List.getElem_cons_zero, List.setIfInBounds_toArray, List.set_cons_zero, List.set_cons_succ]
    refine wpAnyH_take (i := 5) (v := .pointer (some ⟨q, 0, none⟩)) rfl (by kernel_rfl) (by kernel_rfl) (by kernel_rfl) (fun _ _ _ h => h) (Or.inl ⟨by rfl, fun w' hSw => by go_simp⟩) hHeld ?_
    try simp only [Act.put, List.getElem_toArray, List.getElem_cons_succ, List.getElem_cons_zero, List.setIfInBounds_toArray, List.set_cons_zero, List.set_cons_succ]
    refine wpAnyH_take (i := 6) (v := .pointer (some ⟨q, 0, none⟩)) rfl (by kernel_rfl) (by kernel_rfl) (by kernel_rfl) (fun _ _ _ h => h) (Or.inl ⟨by rfl, fun w' hSw => by go_simp⟩) hHeld ?_
    try simp only [Act.put, List.getElem_toArray, List.getElem_cons_succ, List.getElem_cons_zero, List.setIfInBounds_toArray, List.set_cons_zero, List.set_cons_succ]
    refine wpAnyH_take (i := 7) (v := .pointer (some ⟨q, 1, none⟩)) rfl (by kernel_rfl) (by kernel_rfl) (by kernel_rfl) (fun _ _ _ h => h) (Or.inl ⟨by rfl, fun w' hSw => by go_simp⟩) hHeld ?_
    try simp only [Act.put, List.getElem_toArray, List.getElem_cons_succ, List.getElem_cons_zero, List.setIfInBounds_toArray, List.set_cons_zero, List.set_cons_succ]
    refine wpAnyH_take (i := 8) (v := nv) rfl (by kernel_rfl) (by kernel_rfl) (by kernel_rfl) (fun _ _ _ h => h) (Or.inl ⟨by rfl, fun w' hSw => by have hq := hSw; obtain ⟨c0, c1, c2⟩ := hq; go_simp⟩) hHeld ?_
    try simp only [Act.put, List.getElem_toArray, List.getElem_cons_succ, List.getElem_cons_zero, List.setIfInBounds_toArray, List.set_cons_zero, List.set_cons_succ]
    refine wpAnyH_ready (rs := [9]) (by kernel_rfl) (by simp) (AllReadyH.cons rfl (fun K1 hK1 => ?_) AllReadyH.nil)
    try simp only [Act.put, List.getElem_toArray, List.getElem_cons_succ, List.getElem_cons_zero, List.setIfInBounds_toArray, List.set_cons_zero, List.set_cons_succ]
    go_simp
    refine Calls.mono (KA HD3.out.disk).out ?_
    rintro e w5 ⟨rfl, hd, hc⟩
    have t5 : JTo w w5 B S g q l1 r1 j := JTo.trans (fun _ h => Or.inl h) ⟨Hb3.out.os, Hb3.out.tape, Hb3.out.output, Hb3.out.size, fun i hi _ => Hb3.out.block i hi⟩ (HD3.out.diskTo hd hc)
    obtain ⟨S5, hJ5, hP5, hC5⟩ := t5
    have HJ5 := Lib.hid hJ5
    have HP5 := Lib.hid hP5
    have HC5 := Lib.hid hC5
    refine hK1.out _ _ ⟨hJ5.row.box.1, hJ5.row.box.2.1.trans (congrArg some Hnv.out), hJ5.row.box.2.2.1⟩ (fun hHeld => ?_)
    clear hK1 K1 hd hc hJ5 hP5 hC5
    try simp only [Act.put, List.getElem_toArray, List.getElem_cons_succ, List.getElem_cons_zero, List.setIfInBounds_toArray, List.set_cons_zero, List.set_cons_succ]
    refine wpAnyH_ready (rs := [10]) (by kernel_rfl) (by simp) (AllReadyH.cons rfl (fun K1 hK1 => ?_) AllReadyH.nil)
    try simp only [Act.put, List.getElem_toArray, List.getElem_cons_succ, List.getElem_cons_zero, List.setIfInBounds_toArray, List.set_cons_zero, List.set_cons_succ]
    go_simp
    refine Calls.mono (jdid_at HJ5.out c1) ?_
    rintro e w6 ⟨rfl, t6⟩
    have t7 := JTo.trans HP5.out HC5.out t6
    have H7 := Lib.hid t7
    obtain ⟨S6, hJ6, _, _⟩ := t7
    refine hK1.out _ _ ⟨hJ6.row.box.1, hJ6.row.box.2.1.trans (congrArg some Hnv.out), hJ6.row.box.2.2.1⟩ (fun hHeld => ?_)
    clear hK1 K1 t6 hJ6
    try simp only [Act.put, List.getElem_toArray, List.getElem_cons_succ, List.getElem_cons_zero, List.setIfInBounds_toArray, List.set_cons_zero, List.set_cons_succ]
    refine wpAnyH_take (i := 11) (v := .int .i64 c1) rfl (by kernel_rfl) (by kernel_rfl) (by kernel_rfl) (fun _ _ _ h => h) (Or.inl ⟨by rfl, fun w' hSw => by go_simp⟩) hHeld ?_
    try simp only [Act.put, List.getElem_toArray, List.getElem_cons_succ, List.getElem_cons_zero, List.setIfInBounds_toArray, List.set_cons_zero, List.set_cons_succ]
    refine wpAnyH_done (by kernel_rfl) ?_ _
    refine NoPanic.normal ?_
    clear hHeld
    go_wp2_with fail
    go_ret
    rw [d3] at H7
    exact ⟨rfl, H7.out⟩
end Go.Proofs.YtalfnadejpmjnaaGreatDoor.Jn
