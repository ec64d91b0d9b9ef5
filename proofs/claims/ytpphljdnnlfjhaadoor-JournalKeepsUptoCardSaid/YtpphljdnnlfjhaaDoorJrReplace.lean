/- journal.replace: what it returns. -/
import Derived.Test.YtpphljdnnlfjhaaDoorJrJ
namespace Go.Proofs.YtpphljdnnlfjhaaDoor
open Go.RowKit
set_option maxRecDepth 100000
set_option linter.unusedVariables false
set_option linter.unusedSimpArgs false

theorem jreplace_at {w : World} {B : Nat} {S : Nat → Prop} {g q : Nat} {l : List Fl} {r : Int} {j : Jr.J} (h : JS w B S g q l r j) (s : List UInt8) (hs : s.length ≤ 140737488351232) : Calls Tryd.prog 36 #[.pointer (some ⟨q, 0, none⟩), Sb s] w fun e w' => e = .returned (.int .i64 (Jr.replaceR l r s).2.2) ∧ JTo w w' B S g q (Jr.replaceR l r s).1 (Jr.replaceR l r s).2.1 j := by
  unfold Jr.replaceR
  obtain ⟨NX, hNX⟩ : ∃ b : ByteArray, (⟨#[106, 120]⟩ : ByteArray) = b := ⟨_, rfl⟩
  obtain ⟨NJ, hNJ⟩ : ∃ b : ByteArray, (⟨#[106]⟩ : ByteArray) = b := ⟨_, rfl⟩
  have hadd : NJ ++ (⟨#[120]⟩ : ByteArray) = NX := by rw [← hNX, ← hNJ]; rfl
  have hz1 : NJ.size = 1 := by rw [← hNJ]; rfl
  have hz2 : (⟨#[120]⟩ : ByteArray).size = 1 := rfl
  have hbx : Sb Jr.nx = .string NX := by rw [← hNX]
  have hbj : Sb Jr.nj = .string NJ := by rw [← hNJ]
  have hxl : Jr.nx.length ≤ 140737488351232 := by decide
  have hjl : Jr.nj.length ≤ 140737488351232 := by decide
  have hxm : Jr.nx.length ≤ maxLen := by decide
  obtain ⟨sv, hsv⟩ : ∃ v, Sb s = v := ⟨_, rfl⟩
  have kA := fun {w : World} {S : Nat → Prop} (h : DiskS w B S g l r) => append_S Jr.nx s h hxl hs
  rcases hA : appendR l r Jr.nx s with ⟨l1, r1, c1⟩
  rw [hA] at kA
  have kS := fun {w : World} {S : Nat → Prop} (h : DiskS w B S g l1 r1) => sync_S Jr.nx h hxm
  rcases hS : syncR l1 r1 Jr.nx with ⟨l2, r2, c2⟩
  rw [hS] at kS
  have kR := fun {w : World} {S : Nat → Prop} (h : DiskS w B S g l2 r2) => rename_S Jr.nx Jr.nj h hxm hjl
  rcases hR : renameR l2 r2 Jr.nx Jr.nj with ⟨l3, r3, c3⟩
  rw [hR] at kR
  simp only [hbx, hbj, hsv] at kA kS kR ⊢
  have KA := fun {w : World} {S : Nat → Prop} (h : DiskS w B S g l r) => Lib.hid (kA h)
  have KS := fun {w : World} {S : Nat → Prop} (h : DiskS w B S g l1 r1) => Lib.hid (kS h)
  have KR := fun {w : World} {S : Nat → Prop} (h : DiskS w B S g l2 r2) => Lib.hid (kR h)
  have Hbj := Lib.hid hbj
  have HS := Lib.hid hS
  have HR := Lib.hid hR
  clear kA kS kR hA hS hR hNX hNJ hbx hbj hxl hjl hxm hsv hs
  by_cases e1 : c1 = 0
  · subst e1
    simp only [ne_eq, not_true_eq_false, if_false, HS.out]
    by_cases e2 : c2 = 0
    · subst e2
      simp only [ne_eq, not_true_eq_false, if_false, HR.out]
      go_enter Tryd.func36, Tryd.ntmps36
      go_wp2_with fail
      have q0 := h.row.box.1
      have q1 := h.row.box.2.1
      rw [Hbj.out] at q1
      have HJ := Lib.hid h
      refine region_named 10 (by kernel_rfl) (by kernel_rfl) ?_
      intro w3 hw3
      have q0' := (cell_drew hw3 q 0).trans q0
      have q1' := (cell_drew hw3 q 1).trans q1
      have hbw3 : Below w.heap.size w w3 := by rw [hw3]; exact (Below.refl _ _).drew
      have HDw3 := Lib.hid (HJ.out.below hbw3)
      have Hbw3 := Lib.hid hbw3
      clear q0 q1 hw3 hbw3 h
      repeat still_step
      refine wpStill_nil ?_
      go_wp2_with fail
      refine (KA HDw3.out.disk).out.mono ?_
      rintro e w4 ⟨rfl, hd, hc⟩
      have htw4 := HDw3.out.diskTo hd hc
      have Htow4 := Lib.hid htw4
      clear hd hc htw4
      have tA : JTo w w4 B S g q l1 r1 j := JTo.trans (fun _ h => Or.inl h) ⟨Hbw3.out.os, Hbw3.out.tape, Hbw3.out.output, Hbw3.out.size, fun i hi _ => Hbw3.out.block i hi⟩ Htow4.out
      obtain ⟨S1, hJ1, hP1, hC1⟩ := tA
      have HP1 := Lib.hid hP1
      have HC1 := Lib.hid hC1
      clear hP1 hC1 Htow4
      go_wp2_with fail
      have q0 := hJ1.row.box.1
      have q1 := hJ1.row.box.2.1
      rw [Hbj.out] at q1
      have HJ2 := Lib.hid hJ1
      refine region_named 9 (by kernel_rfl) (by kernel_rfl) ?_
      intro w5 hw5
      have q0' := (cell_drew hw5 q 0).trans q0
      have q1' := (cell_drew hw5 q 1).trans q1
      have hbw5 : Below w4.heap.size w4 w5 := by rw [hw5]; exact (Below.refl _ _).drew
      have HDw5 := Lib.hid (HJ2.out.below hbw5)
      have Hbw5 := Lib.hid hbw5
      clear q0 q1 hw5 hbw5 hJ1
      repeat still_step
      refine wpStill_nil ?_
      go_wp2_with fail
      refine (KS HDw5.out.disk).out.mono ?_
      rintro e w6 ⟨rfl, hd, hc⟩
      have htw6 := HDw5.out.diskTo hd hc
      have Htow6 := Lib.hid htw6
      clear hd hc htw6
      have tB : JTo w w6 B S g q l2 r2 j := JTo.trans HP1.out HC1.out (JTo.trans (fun _ h => Or.inl h) ⟨Hbw5.out.os, Hbw5.out.tape, Hbw5.out.output, Hbw5.out.size, fun i hi _ => Hbw5.out.block i hi⟩ Htow6.out)
      obtain ⟨S2, hJ3, hP2, hC2⟩ := tB
      have HP2 := Lib.hid hP2
      have HC2 := Lib.hid hC2
      clear hP2 hC2 Htow6
      go_wp2_with fail
      have q0 := hJ3.row.box.1
      have q1 := hJ3.row.box.2.1
      rw [Hbj.out] at q1
      have HJ3 := Lib.hid hJ3
      refine region_named 13 (by kernel_rfl) (by kernel_rfl) ?_
      intro w7 hw7
      have q0' := (cell_drew hw7 q 0).trans q0
      have q1' := (cell_drew hw7 q 1).trans q1
      have hbw7 : Below w6.heap.size w6 w7 := by rw [hw7]; exact (Below.refl _ _).drew
      have HDw7 := Lib.hid (HJ3.out.below hbw7)
      have Hbw7 := Lib.hid hbw7
      clear q0 q1 hw7 hbw7 hJ3
      repeat still_step
      refine wpStill_nil ?_
      go_wp2_with fail
      refine (KR HDw7.out.disk).out.mono ?_
      rintro e w8 ⟨rfl, hd, hc⟩
      have htw8 := HDw7.out.diskTo hd hc
      have Htow8 := Lib.hid htw8
      clear hd hc htw8
      go_wp2_with fail
      go_ret
      exact ⟨rfl, JTo.trans HP2.out HC2.out (JTo.trans (fun _ h => Or.inl h) ⟨Hbw7.out.os, Hbw7.out.tape, Hbw7.out.output, Hbw7.out.size, fun i hi _ => Hbw7.out.block i hi⟩ Htow8.out)⟩
    · rw [if_pos e2]
      have d2 : (c2 != 0) = true := by simpa using e2
      clear e2
      go_enter Tryd.func36, Tryd.ntmps36
      go_wp2_with fail
      have q0 := h.row.box.1
      have q1 := h.row.box.2.1
      rw [Hbj.out] at q1
      have HJ := Lib.hid h
      refine region_named 10 (by kernel_rfl) (by kernel_rfl) ?_
      intro w3 hw3
      have q0' := (cell_drew hw3 q 0).trans q0
      have q1' := (cell_drew hw3 q 1).trans q1
      have hbw3 : Below w.heap.size w w3 := by rw [hw3]; exact (Below.refl _ _).drew
      have HDw3 := Lib.hid (HJ.out.below hbw3)
      have Hbw3 := Lib.hid hbw3
      clear q0 q1 hw3 hbw3 h
      repeat still_step
      refine wpStill_nil ?_
      go_wp2_with fail
      refine (KA HDw3.out.disk).out.mono ?_
      rintro e w4 ⟨rfl, hd, hc⟩
      have htw4 := HDw3.out.diskTo hd hc
      have Htow4 := Lib.hid htw4
      clear hd hc htw4
      have tA : JTo w w4 B S g q l1 r1 j := JTo.trans (fun _ h => Or.inl h) ⟨Hbw3.out.os, Hbw3.out.tape, Hbw3.out.output, Hbw3.out.size, fun i hi _ => Hbw3.out.block i hi⟩ Htow4.out
      obtain ⟨S1, hJ1, hP1, hC1⟩ := tA
      have HP1 := Lib.hid hP1
      have HC1 := Lib.hid hC1
      clear hP1 hC1 Htow4
      go_wp2_with fail
      have q0 := hJ1.row.box.1
      have q1 := hJ1.row.box.2.1
      rw [Hbj.out] at q1
      have HJ2 := Lib.hid hJ1
      refine region_named 9 (by kernel_rfl) (by kernel_rfl) ?_
      intro w5 hw5
      have q0' := (cell_drew hw5 q 0).trans q0
      have q1' := (cell_drew hw5 q 1).trans q1
      have hbw5 : Below w4.heap.size w4 w5 := by rw [hw5]; exact (Below.refl _ _).drew
      have HDw5 := Lib.hid (HJ2.out.below hbw5)
      have Hbw5 := Lib.hid hbw5
      clear q0 q1 hw5 hbw5 hJ1
      repeat still_step
      refine wpStill_nil ?_
      go_wp2_with fail
      refine (KS HDw5.out.disk).out.mono ?_
      rintro e w6 ⟨rfl, hd, hc⟩
      have htw6 := HDw5.out.diskTo hd hc
      have Htow6 := Lib.hid htw6
      clear hd hc htw6
      go_wp2_with fail
      go_ret
      exact ⟨rfl, JTo.trans HP1.out HC1.out (JTo.trans (fun _ h => Or.inl h) ⟨Hbw5.out.os, Hbw5.out.tape, Hbw5.out.output, Hbw5.out.size, fun i hi _ => Hbw5.out.block i hi⟩ Htow6.out)⟩
  · rw [if_pos e1]
    have d1 : (c1 != 0) = true := by simpa using e1
    clear e1
    go_enter Tryd.func36, Tryd.ntmps36
    go_wp2_with fail
    have q0 := h.row.box.1
    have q1 := h.row.box.2.1
    rw [Hbj.out] at q1
    have HJ := Lib.hid h
    refine region_named 10 (by kernel_rfl) (by kernel_rfl) ?_
    intro w3 hw3
    have q0' := (cell_drew hw3 q 0).trans q0
    have q1' := (cell_drew hw3 q 1).trans q1
    have hbw3 : Below w.heap.size w w3 := by rw [hw3]; exact (Below.refl _ _).drew
    have HDw3 := Lib.hid (HJ.out.below hbw3)
    have Hbw3 := Lib.hid hbw3
    clear q0 q1 hw3 hbw3 h
    repeat still_step
    refine wpStill_nil ?_
    go_wp2_with fail
    refine (KA HDw3.out.disk).out.mono ?_
    rintro e w4 ⟨rfl, hd, hc⟩
    have htw4 := HDw3.out.diskTo hd hc
    have Htow4 := Lib.hid htw4
    clear hd hc htw4
    go_wp2_with fail
    go_ret
    exact ⟨rfl, JTo.trans (fun _ h => Or.inl h) ⟨Hbw3.out.os, Hbw3.out.tape, Hbw3.out.output, Hbw3.out.size, fun i hi _ => Hbw3.out.block i hi⟩ Htow4.out⟩
end Go.Proofs.YtpphljdnnlfjhaaDoor
