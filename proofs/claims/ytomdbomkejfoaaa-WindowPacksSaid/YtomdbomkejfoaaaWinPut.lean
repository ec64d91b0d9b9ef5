/- window: put. -/
import Derived.Test.YtomdbomkejfoaaaWinChg
namespace Go.Proofs.Ytomdbomkejfoaaa
open Go.RowKit Go.Maps
set_option linter.unusedVariables false
set_option linter.unusedSimpArgs false

theorem wfI (n : Nat) (h : n < 9223372036854775808) : (Lit.int .i64 (n : Int)).wf = true := by
  have h1 : IntKind.i64.min = -9223372036854775808 := by decide
  have h2 : IntKind.i64.max = 9223372036854775807 := by decide
  show (decide (IntKind.i64.min ≤ (n : Int)) && decide ((n : Int) ≤ IntKind.i64.max)) = true
  rw [h1, h2, Bool.and_eq_true, decide_eq_true_eq, decide_eq_true_eq]
  omega
set_option maxHeartbeats 800000 in
theorem put_long (s : ByteArray) (B M G n : Nat) (a b c d : UInt8) (r : List UInt8) (w : World) (hK : KAt w B M G s n) (hs : s.size ≤ 140737488351232) (hp : n + 4 ≤ s.size) (hx : s.data.toList.drop n = a :: b :: c :: d :: r) :
    Calls Try.prog 18 #[.pointer (some ⟨B, 0, none⟩), .int .i64 (n : Int)] w fun e w' => e = .returned (.tuple #[]) ∧ KAt w' B M G s (n + 1) ∧ Chg (fun k => k = M ∨ k = G) w w' := by
  have hf := fourAt_long s B n a b c d r w hK.c0 hs hp hx
  have hfour : Win.four s.data.toList n = [a, b, c, d] := by unfold Win.four; rw [hx]; rfl
  have Hf := Lib.hid hf
  have HK := Lib.hid hK
  have Hfour := Lib.hid hfour
  clear hf hK hfour hx
  go_enter Try.func18, Try.ntmps18
  go_wp2_with fail
  refine Hf.out.mono ?_
  rintro e w1 ⟨rfl, hb1⟩
  have HK1 := Lib.hid (HK.out.below hb1)
  have Hb1 := Lib.hid hb1
  clear hb1
  go_wp2_with fail
  have hr := Row.new w1 45 [.int .u8 (a.toNat : Int), .int .u8 (b.toNat : Int), .int .u8 (c.toNat : Int), .int .u8 (d.toNat : Int)]
  have hb : Below w1.heap.size w1 (w1.alloc (.cells [Value.int .u8 (a.toNat : Int), .int .u8 (b.toNat : Int), .int .u8 (c.toNat : Int), .int .u8 (d.toNat : Int)].toArray 45)) := (Below.refl _ _).alloc (Nat.le_refl _) _
  generalize w1.alloc (.cells [Value.int .u8 (a.toNat : Int), .int .u8 (b.toNat : Int), .int .u8 (c.toNat : Int), .int .u8 (d.toNat : Int)].toArray 45) = W at *
  have hKW := HK1.out.below hb
  obtain ⟨D, N, hN, hown, hV⟩ := hKW.map
  have k1 := hKW.c1
  have k2 := hKW.c2
  have r0 := hr.cell 0 (by simp)
  have r1 := hr.cell 1 (by simp)
  have r2 := hr.cell 2 (by simp)
  have r3 := hr.cell 3 (by simp)
  have Hr := Lib.hid hr
  have HKW := Lib.hid hKW
  have Hb := Lib.hid hb
  clear hb
  have Hown := Lib.hid hown
  have HV := Lib.hid hV
  clear hr hKW hown hV
  refine region_named 10 (by kernel_rfl) (by kernel_rfl) ?_
  intro w3 hw3
  have k1' := (cell_drew hw3 B 1).trans k1
  have k2' := (cell_drew hw3 B 2).trans k2
  have q0 := (cell_drew hw3 w1.heap.size 0).trans r0
  have q1 := (cell_drew hw3 w1.heap.size 1).trans r1
  have q2 := (cell_drew hw3 w1.heap.size 2).trans r2
  have q3 := (cell_drew hw3 w1.heap.size 3).trans r3
  have hlk0 := run_look4 (w := w3) (by rw [hw3]; exact Hown.out.drew) HV.out [a, b, c, d] rfl
  have hb3 : Below w1.heap.size w1 w3 := by rw [hw3]; exact Hb.out.drew
  have hr3 : Row w3 w1.heap.size 45 [.int .u8 (a.toNat : Int), .int .u8 (b.toNat : Int), .int .u8 (c.toNat : Int), .int .u8 (d.toNat : Int)] := by rw [hw3]; exact Hr.out.kept (grownBy_drew _ none) (by simp)
  have hK3 := HK1.out.below hb3
  obtain ⟨L, hL1, hL2, hL3⟩ := hK3.ahead
  have g3 := hL1.num n (by rw [hL2]; omega)
  have g4 := hL1.free n
  generalize L.getD n 0 = old at g3
  have hns : n < s.size := by omega
  have HL1 := Lib.hid hL1
  have HL2 := Lib.hid hL2
  have HL3 := Lib.hid hL3
  have HK3 := Lib.hid hK3
  have Hb3 := Lib.hid hb3
  have hb3' : Below W.heap.size W w3 := by rw [hw3]; exact (Below.refl _ _).drew
  have Hb3' := Lib.hid hb3'
  clear hb3'
  have Hr3 := Lib.hid hr3
  clear hL1 hL2 hL3 hK3 hb3 hr3 hw3 k1 k2 r0 r1 r2 r3
  rcases hc : Win.lastAt s.data.toList [a, b, c, d] n with _ | cc
  · rw [hc] at hlk0
    have hlk : (Instr.lookup 33 (.map (some M)) (four4 a b c d) true).run Try.prog w3 = .ok (.tuple #[.int .i64 0, .bool false]) w3 := hlk0
    have Hc := Lib.hid hc
    clear hlk0 hc
    repeat still_step
    refine wpStill_nil ?_
    go_wp2_with fail
    obtain ⟨w4, hw4⟩ : ∃ w4, w4 = w3.setCell ⟨G, n, none⟩ (.int .i64 (-1)) := ⟨_, rfl⟩
    rw [← hw4]
    have hne := HK3.out.ne
    have hg4 : w3.grownBy w4 (some G) := by rw [hw4]; exact grownBy_set _ _ _ _
    have hr4 := Hr3.out.kept hg4 (by simp; have := HK1.out.lt; omega)
    have k4 := (HK3.out.row.kept hg4 (by simpa using hne.2.1)).cell 1 (by simp)
    have h5 : w4.drew = (w3.setCell ⟨G, n, none⟩ (.int .i64 (-1))).drew := by rw [hw4]
    have hm4 : w4.drew.ownsMap Try.prog 45 (plainElem Try.prog 3) M N D := by rw [h5]; exact ((Chg.of_below (S := fun k => k = G) Hb3'.out).map Hown.out (by exact hne.2.2)).kept ((grownBy_set _ _ _ _).trans (grownBy_drew _ _)) (by simpa using hne.2.2)
    have H5 := Lib.hid h5
    have Hm4 := Lib.hid hm4
    clear hw4 hne hg4 h5 hm4 q0 q1 q2 q3 k1' k2' g3 g4 hlk
    refine region_named 6 (by kernel_rfl) (by kernel_rfl) ?_
    intro w5 hw5
    have k5 : w5.cell? ⟨B, 1, none⟩ = some (.map (some M)) := (cell_drew hw5 B 1).trans k4
    have q0 := (cell_drew hw5 w1.heap.size 0).trans (hr4.cell 0 (by simp))
    have q1 := (cell_drew hw5 w1.heap.size 1).trans (hr4.cell 1 (by simp))
    have q2 := (cell_drew hw5 w1.heap.size 2).trans (hr4.cell 2 (by simp))
    have q3 := (cell_drew hw5 w1.heap.size 3).trans (hr4.cell 3 (by simp))
    have hm5 : w5.ownsMap Try.prog 45 (plainElem Try.prog 3) M N D := by rw [hw5]; exact Hm4.out
    have h5 := hw5.trans H5.out
    have Hm5 := Lib.hid hm5
    have H5' := Lib.hid h5
    clear hw5 hm5 h5 Hm4 H5 k4 hr4
    simp only [List.take_succ_cons, List.take_zero, List.drop_succ_cons, List.drop_zero]
    repeat still_step
    refine wpStill_nil ?_
    go_wp2_with (first
      | (at_mapUpdate; refine wpList_mapUpdate_own _ rfl _ _ _ 33 rfl 45 3 lawF Try.underlying33 _ M N _ rfl Hm5.out (by unfold maxLen; omega) _ _ _ rfl rfl (key4 a b c d) (.lit (.int .i64 (n : Int))) [] (plainElem_int Try.underlying3 (wfI n (by omega))) ?_; intro w6 hown6 hg6; have Hown6 := Lib.hid hown6; have Hg6 := Lib.hid hg6; clear hown6 hg6)
      | fail)
    have hres := HK3.out.after HL1.out HL2.out HL3.out hns (x := (-1)) (by rw [Hfour.out]; exact (congrArg aheadI Hc.out).symm) H5'.out Hown6.out (by omega) (by have := HV.out.last (K := s.data.toList) (n := n) (by simpa using hp); rw [Hfour.out] at this; exact this) Hg6.out
    go_end0
    exact ⟨rfl, hres.1, ((Chg.of_below (S := fun k => k = M ∨ k = G) Hb1.out).trans (Chg.of_below (S := fun k => k = M ∨ k = G) Hb3.out) (fun i h => .inl h)).trans hres.2 (fun i h => .inl h)⟩
  · rw [hc] at hlk0
    have hlk : (Instr.lookup 33 (.map (some M)) (four4 a b c d) true).run Try.prog w3 = .ok (.tuple #[.int .i64 (cc : Int), .bool true]) w3 := hlk0
    have Hc := Lib.hid hc
    clear hlk0 hc
    repeat still_step
    refine wpStill_nil ?_
    go_wp2_with fail
    obtain ⟨w4, hw4⟩ : ∃ w4, w4 = w3.setCell ⟨G, n, none⟩ (.int .i64 (cc : Int)) := ⟨_, rfl⟩
    rw [← hw4]
    have hne := HK3.out.ne
    have hg4 : w3.grownBy w4 (some G) := by rw [hw4]; exact grownBy_set _ _ _ _
    have hr4 := Hr3.out.kept hg4 (by simp; have := HK1.out.lt; omega)
    have k4 := (HK3.out.row.kept hg4 (by simpa using hne.2.1)).cell 1 (by simp)
    have h5 : w4.drew = (w3.setCell ⟨G, n, none⟩ (.int .i64 (cc : Int))).drew := by rw [hw4]
    have hm4 : w4.drew.ownsMap Try.prog 45 (plainElem Try.prog 3) M N D := by rw [h5]; exact ((Chg.of_below (S := fun k => k = G) Hb3'.out).map Hown.out (by exact hne.2.2)).kept ((grownBy_set _ _ _ _).trans (grownBy_drew _ _)) (by simpa using hne.2.2)
    have H5 := Lib.hid h5
    have Hm4 := Lib.hid hm4
    clear hw4 hne hg4 h5 hm4 q0 q1 q2 q3 k1' k2' g3 g4 hlk
    refine region_named 6 (by kernel_rfl) (by kernel_rfl) ?_
    intro w5 hw5
    have k5 : w5.cell? ⟨B, 1, none⟩ = some (.map (some M)) := (cell_drew hw5 B 1).trans k4
    have q0 := (cell_drew hw5 w1.heap.size 0).trans (hr4.cell 0 (by simp))
    have q1 := (cell_drew hw5 w1.heap.size 1).trans (hr4.cell 1 (by simp))
    have q2 := (cell_drew hw5 w1.heap.size 2).trans (hr4.cell 2 (by simp))
    have q3 := (cell_drew hw5 w1.heap.size 3).trans (hr4.cell 3 (by simp))
    have hm5 : w5.ownsMap Try.prog 45 (plainElem Try.prog 3) M N D := by rw [hw5]; exact Hm4.out
    have h5 := hw5.trans H5.out
    have Hm5 := Lib.hid hm5
    have H5' := Lib.hid h5
    clear hw5 hm5 h5 Hm4 H5 k4 hr4
    simp only [List.take_succ_cons, List.take_zero, List.drop_succ_cons, List.drop_zero]
    repeat still_step
    refine wpStill_nil ?_
    go_wp2_with (first
      | (at_mapUpdate; refine wpList_mapUpdate_own _ rfl _ _ _ 33 rfl 45 3 lawF Try.underlying33 _ M N _ rfl Hm5.out (by unfold maxLen; omega) _ _ _ rfl rfl (key4 a b c d) (.lit (.int .i64 (n : Int))) [] (plainElem_int Try.underlying3 (wfI n (by omega))) ?_; intro w6 hown6 hg6; have Hown6 := Lib.hid hown6; have Hg6 := Lib.hid hg6; clear hown6 hg6)
      | fail)
    have hres := HK3.out.after HL1.out HL2.out HL3.out hns (x := (cc : Int)) (by rw [Hfour.out]; exact (congrArg aheadI Hc.out).symm) H5'.out Hown6.out (by omega) (by have := HV.out.last (K := s.data.toList) (n := n) (by simpa using hp); rw [Hfour.out] at this; exact this) Hg6.out
    go_end0
    exact ⟨rfl, hres.1, ((Chg.of_below (S := fun k => k = M ∨ k = G) Hb1.out).trans (Chg.of_below (S := fun k => k = M ∨ k = G) Hb3.out) (fun i h => .inl h)).trans hres.2 (fun i h => .inl h)⟩
theorem put_any (s : ByteArray) (B M G n : Nat) (w : World) (hK : KAt w B M G s n) (hs : s.size ≤ 140737488351232) (hp : n ≤ s.size) :
    Calls Try.prog 18 #[.pointer (some ⟨B, 0, none⟩), .int .i64 (n : Int)] w fun e w' => e = .returned (.tuple #[]) ∧ KAt w' B M G s (n + 1) ∧ Chg (fun k => k = M ∨ k = G) w w' := by
  by_cases h4 : n + 4 ≤ s.size
  · have hl : (s.data.toList.drop n).length = s.size - n := by rw [List.length_drop]; simp
    match hx : s.data.toList.drop n, hl with
    | a :: b :: c :: d :: r, _ => exact put_long s B M G n a b c d r w hK hs h4 hx
    | [_, _, _], hl => simp at hl; omega
    | [_, _], hl => simp at hl; omega
    | [_], hl => simp at hl; omega
    | [], hl => simp at hl; omega
  · exact (put_short s B M G n w hK hs hp (by omega)).mono fun e w' ⟨h1, h2, h3⟩ => ⟨h1, h2, Chg.of_below h3⟩
end Go.Proofs.Ytomdbomkejfoaaa
