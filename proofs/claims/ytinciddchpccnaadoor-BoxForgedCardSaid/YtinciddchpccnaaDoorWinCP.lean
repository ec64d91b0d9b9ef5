/- What later texts need of the earlier layers. -/
/- What later texts need of the earlier layers. -/
import Derived.Test.YtinciddchpccnaaDoorBxO
import Derived.Test.YtinciddchpccnaaDoorBxS
import Derived.Test.YtinciddchpccnaaDoorBxT
import Derived.Test.YtinciddchpccnaaDoorBxC
import Derived.Test.YtinciddchpccnaaDoorBxA
import Derived.Test.YtinciddchpccnaaDoorWinMath
import Derived.Test.YtinciddchpccnaaDoorWinNum
import Derived.Test.YtinciddchpccnaaDoorWinSame
import Derived.Test.YtinciddchpccnaaDoorOwnApp
import Derived.Test.YtinciddchpccnaaDoorWinOwn
import Derived.Test.YtinciddchpccnaaDoorWinOwn8
import Derived.Test.YtinciddchpccnaaDoorWinKey
import Derived.Test.YtinciddchpccnaaDoorWinPack
import Derived.Test.YtinciddchpccnaaDoorWinUn
import Derived.Test.YtinciddchpccnaaDoorWinAgain
import Derived.Test.YtinciddchpccnaaDoorWinUp
import Derived.Test.YtinciddchpccnaaDoorWinFour
import Derived.Test.YtinciddchpccnaaDoorWinML
import Derived.Test.YtinciddchpccnaaDoorWinKnown
set_option maxRecDepth 100000
/- ---- WinChg ---- -/
/- Layer 7: what may have changed: blocks of a set, and new ones. -/
namespace Go.Proofs.YtinciddchpccnaaDoor
open Go.RowKit Go.Maps
set_option linter.unusedVariables false
set_option linter.unusedSimpArgs false
structure Chg (S : Nat → Prop) (w w' : World) : Prop where
  os : w'.os = w.os
  tape : w'.tape = w.tape
  output : w'.output = w.output
  size : w.heap.size ≤ w'.heap.size
  block : ∀ k, k < w.heap.size → ¬ S k → w'.heap[k]? = w.heap[k]?
theorem Chg.refl (S : Nat → Prop) (w : World) : Chg S w w := ⟨rfl, rfl, rfl, Nat.le_refl _, fun _ _ _ => rfl⟩
theorem Chg.trans {S S2 : Nat → Prop} {a b c : World} (h : Chg S a b) (k : Chg S2 b c) (hS : ∀ i, S2 i → S i ∨ a.heap.size ≤ i) : Chg S a c :=
  ⟨k.os.trans h.os, k.tape.trans h.tape, k.output.trans h.output, Nat.le_trans h.size k.size, fun i hi hn =>
    (k.block i (Nat.lt_of_lt_of_le hi h.size) (fun h2 => by rcases hS i h2 with h3 | h3 <;> first | exact hn h3 | omega)).trans (h.block i hi hn)⟩
theorem Chg.mono {S S2 : Nat → Prop} {a b : World} (h : Chg S a b) (hS : ∀ i, S i → S2 i) : Chg S2 a b := ⟨h.os, h.tape, h.output, h.size, fun i hi hn => h.block i hi (fun h2 => hn (hS i h2))⟩
theorem Chg.of_grown {S : Nat → Prop} {w w' : World} {r : Option Nat} (h : w.grownBy w' r) (hr : ∀ k, r = some k → S k ∨ w.heap.size ≤ k) : Chg S w w' :=
  ⟨h.os, h.tape, h.output, h.size, fun i hi hn => h.block i hi (fun e => by rcases hr i e.symm with h3 | h3 <;> first | exact hn h3 | omega)⟩
theorem Chg.of_below {S : Nat → Prop} {w w' : World} (h : Below w.heap.size w w') : Chg S w w' := ⟨h.os, h.tape, h.output, h.size, fun i hi _ => h.block i hi⟩
theorem Chg.below {S : Nat → Prop} {w w' : World} {B : Nat} (h : Chg S w w') (hB : B ≤ w.heap.size) (hS : ∀ k, S k → B ≤ k) : Below B w w' :=
  ⟨h.os, h.tape, h.output, h.size, fun k hk => h.block k (by omega) (fun h2 => by have := hS k h2; omega)⟩
theorem Chg.row {S : Nat → Prop} {w w' : World} (h : Chg S w w') {g : Nat} {T : TypeId} {xs : List Value} (hr : Row w g T xs) (hS : ¬ S g) : Row w' g T xs := (h.block g hr.lt hS).trans hr
theorem Chg.ownsRow {S : Nat → Prop} {w w' : World} (h : Chg S w w') {B : Nat} {e : TypeId} {n sz : Nat} {v : Value} {xs : List Value} (ho : w.ownsRow B e sz v n xs) (hS : ∀ k, v.ownBlock = some k → ¬ S k) : w'.ownsRow B e sz v n xs := by
  obtain ⟨h1, h2⟩ := ho
  refine ⟨h1, ?_⟩
  rcases h2 with h2 | ⟨g, cap, cur, hv, hb, hh, rest⟩
  · exact .inl h2
  · refine .inr ⟨g, cap, cur, hv, hb, ?_, rest⟩
    rw [h.block g (lt_of_block hh) (hS g (by rw [hv]; rfl))]
    exact hh
theorem Chg.map {S : Nat → Prop} {w w' : World} (h : Chg S w w') {M n : Nat} {D : DataW Unit} (hm : w.ownsMap Tryd.prog 141 (plainElem Tryd.prog 3) M n D) (hS : ¬ S M) : w'.ownsMap Tryd.prog 141 (plainElem Tryd.prog 3) M n D := by
  obtain ⟨es, clock, hb, rest⟩ := hm
  exact ⟨es, clock, (h.block M (lt_of_block hb) hS).trans hb, rest⟩
theorem KAt.kept {w w' : World} {B M G : Nat} {s : ByteArray} {n : Nat} {S : Nat → Prop} (h : KAt w B M G s n) (hc : Chg S w w') (hB : ¬ S B) (hM : ¬ S M) (hG : ¬ S G) : KAt w' B M G s n := by
  obtain ⟨D, N, h1, h2, h3⟩ := h.map
  obtain ⟨L, h4, h5, h6⟩ := h.ahead
  exact ⟨hc.row h.row hB, ⟨D, N, h1, hc.map h2 hM, h3⟩, ⟨L, hc.row h4 hG, h5, h6⟩⟩
/-- the three blocks are three -/
theorem KAt.ne {w : World} {B M G : Nat} {s : ByteArray} {n : Nat} (h : KAt w B M G s n) : B ≠ M ∧ B ≠ G ∧ M ≠ G := by
  obtain ⟨D, N, h1, ⟨es, clock, hb, _⟩, h3⟩ := h.map
  obtain ⟨L, h4, h5, h6⟩ := h.ahead
  have hr := h.row
  unfold Row at hr h4
  refine ⟨fun e => ?_, fun e => ?_, fun e => ?_⟩
  · subst e; rw [hr] at hb; cases hb
  · subst e; rw [hr] at h4; injection h4 with h4; injection h4 with _ h4; cases h4
  · subst e; rw [h4] at hb; cases hb
theorem KAt.lt {w : World} {B M G : Nat} {s : ByteArray} {n : Nat} (h : KAt w B M G s n) : B < w.heap.size ∧ M < w.heap.size ∧ G < w.heap.size := by
  obtain ⟨D, N, h1, ⟨es, clock, hb, _⟩, h3⟩ := h.map
  obtain ⟨L, h4, h5, h6⟩ := h.ahead
  exact ⟨h.row.lt, lt_of_block hb, h4.lt⟩
theorem KAt.after {w3 w5 w6 : World} {B M G n N : Nat} {s : ByteArray} {L : List Int} {x : Int} {D : DataW Unit} (h : KAt w3 B M G s n) (hL1 : Row w3 G 3 (Is L)) (hL2 : L.length = s.size)
    (hL3 : ∀ i, i < n → i + 4 ≤ s.size → L.getD i 0 = aheadI (Win.lastAt s.data.toList (Win.four s.data.toList i) i)) (hn : n < s.size) (hx : x = aheadI (Win.lastAt s.data.toList (Win.four s.data.toList n) n))
    (hw5 : w5 = (w3.setCell ⟨G, n, none⟩ (.int .i64 x)).drew) (hm : w6.ownsMap Tryd.prog 141 (plainElem Tryd.prog 3) M N D) (hN : N ≤ n + 1) (hV : Reads4 D (fun x => Win.lastAt s.data.toList x (n + 1))) (hg : w5.grownBy w6 (some M)) :
    KAt w6 B M G s (n + 1) ∧ Chg (fun k => k = M ∨ k = G) w3 w6 := by
  obtain ⟨n1, n2, n3⟩ := h.ne
  have hg5 : w3.grownBy w5 (some G) := by rw [hw5]; exact (grownBy_set _ _ _ _).trans (grownBy_drew _ _)
  have hr5 : Row w5 G 3 (Is (L.set n x)) := by rw [hw5]; exact (hL1.setNum n x (by omega)).kept (grownBy_drew _ none) (by simp)
  refine ⟨⟨(h.row.kept hg5 (by simpa using n2)).kept hg (by simpa using n1), ⟨D, N, hN, hm, hV⟩, ⟨L.set n x, hr5.kept hg (by simpa using fun e => n3 e.symm), by rw [List.length_set]; exact hL2, fun i hi hl => ?_⟩⟩,
    (Chg.of_grown (S := fun k => k = M ∨ k = G) hg5 (fun k e => by cases e; exact .inl (.inr rfl))).trans (Chg.of_grown (S := fun k => k = M ∨ k = G) hg (fun k e => by cases e; exact .inl (.inl rfl))) (fun i h => .inl h)⟩
  by_cases e : i = n
  · subst e
    rw [List.getD_eq_getElem?_getD, List.getElem?_set_self (by omega)]
    exact hx
  · rw [List.getD_eq_getElem?_getD, List.getElem?_set_ne (fun e2 => e e2.symm), ← List.getD_eq_getElem?_getD]
    exact hL3 i (by omega) hl
end Go.Proofs.YtinciddchpccnaaDoor
set_option maxRecDepth 100000
/- ---- WinPut ---- -/
/- window: put. -/
namespace Go.Proofs.YtinciddchpccnaaDoor
open Go.RowKit Go.Maps
set_option linter.unusedVariables false
set_option linter.unusedSimpArgs false

theorem wfI (n : Nat) (h : n < 9223372036854775808) : (Lit.int .i64 (n : Int)).wf = true := by
  have h1 : IntKind.i64.min = -9223372036854775808 := by decide
  have h2 : IntKind.i64.max = 9223372036854775807 := by decide
  show (decide (IntKind.i64.min ≤ (n : Int)) && decide ((n : Int) ≤ IntKind.i64.max)) = true
  rw [h1, h2, Bool.and_eq_true, decide_eq_true_eq, decide_eq_true_eq]
  omega
set_option maxHeartbeats 800000 in
theorem put_long (s : ByteArray) (B M G n : Nat) (a b c d : UInt8) (r : List UInt8) (w : World) (hK : KAt w B M G s n) (hs : s.size ≤ 140737488351232) (hp : n + 4 ≤ s.size) (hx : s.data.toList.drop n = a :: b :: c :: d :: r) :
    Calls Tryd.prog 102 #[.pointer (some ⟨B, 0, none⟩), .int .i64 (n : Int)] w fun e w' => e = .returned (.tuple #[]) ∧ KAt w' B M G s (n + 1) ∧ Chg (fun k => k = M ∨ k = G) w w' := by
  have hf := fourAt_long s B n a b c d r w hK.c0 hs hp hx
  have hfour : Win.four s.data.toList n = [a, b, c, d] := by unfold Win.four; rw [hx]; rfl
  have Hf := Lib.hid hf
  have HK := Lib.hid hK
  have Hfour := Lib.hid hfour
  clear hf hK hfour hx
  go_enter Tryd.func102, Tryd.ntmps102
  go_wp2_with fail
  refine Hf.out.mono ?_
  rintro e w1 ⟨rfl, hb1⟩
  have HK1 := Lib.hid (HK.out.below hb1)
  have Hb1 := Lib.hid hb1
  clear hb1
  go_wp2_with fail
  have hr := Row.new w1 141 [.int .u8 (a.toNat : Int), .int .u8 (b.toNat : Int), .int .u8 (c.toNat : Int), .int .u8 (d.toNat : Int)]
  have hb : Below w1.heap.size w1 (w1.alloc (.cells [Value.int .u8 (a.toNat : Int), .int .u8 (b.toNat : Int), .int .u8 (c.toNat : Int), .int .u8 (d.toNat : Int)].toArray 141)) := (Below.refl _ _).alloc (Nat.le_refl _) _
  generalize w1.alloc (.cells [Value.int .u8 (a.toNat : Int), .int .u8 (b.toNat : Int), .int .u8 (c.toNat : Int), .int .u8 (d.toNat : Int)].toArray 141) = W at *
  have hKW := HK1.out.below hb
  obtain ⟨D, N, hN, hown, hV⟩ := hKW.map
  have k1 := hKW.c1
  have k2 := hKW.c2
  have r0 := hr.cell 0 (by simp)
  have r1 := hr.cell 1 (by simp)
  have r2 := hr.cell 2 (by simp)
  have r3 := hr.cell 3 (by simp)
  have Hr := Lib.hid hr
  have HKW := Lib.hid hKW
  have Hb := Lib.hid hb
  clear hb
  have Hown := Lib.hid hown
  have HV := Lib.hid hV
  clear hr hKW hown hV
  refine region_named 10 (by kernel_rfl) (by kernel_rfl) ?_
  intro w3 hw3
  have k1' := (cell_drew hw3 B 1).trans k1
  have k2' := (cell_drew hw3 B 2).trans k2
  have q0 := (cell_drew hw3 w1.heap.size 0).trans r0
  have q1 := (cell_drew hw3 w1.heap.size 1).trans r1
  have q2 := (cell_drew hw3 w1.heap.size 2).trans r2
  have q3 := (cell_drew hw3 w1.heap.size 3).trans r3
  have hlk0 := run_look4 (w := w3) (by rw [hw3]; exact Hown.out.drew) HV.out [a, b, c, d] rfl
  have hb3 : Below w1.heap.size w1 w3 := by rw [hw3]; exact Hb.out.drew
  have hr3 : Row w3 w1.heap.size 141 [.int .u8 (a.toNat : Int), .int .u8 (b.toNat : Int), .int .u8 (c.toNat : Int), .int .u8 (d.toNat : Int)] := by rw [hw3]; exact Hr.out.kept (grownBy_drew _ none) (by simp)
  have hK3 := HK1.out.below hb3
  obtain ⟨L, hL1, hL2, hL3⟩ := hK3.ahead
  have g3 := hL1.num n (by rw [hL2]; omega)
  have g4 := hL1.free n
  generalize L.getD n 0 = old at g3
  have hns : n < s.size := by omega
  have HL1 := Lib.hid hL1
  have HL2 := Lib.hid hL2
  have HL3 := Lib.hid hL3
  have HK3 := Lib.hid hK3
  have Hb3 := Lib.hid hb3
  have hb3' : Below W.heap.size W w3 := by rw [hw3]; exact (Below.refl _ _).drew
  have Hb3' := Lib.hid hb3'
  clear hb3'
  have Hr3 := Lib.hid hr3
  clear hL1 hL2 hL3 hK3 hb3 hr3 hw3 k1 k2 r0 r1 r2 r3
  rcases hc : Win.lastAt s.data.toList [a, b, c, d] n with _ | cc
  · rw [hc] at hlk0
    have hlk : (Instr.lookup 127 (.map (some M)) (four4 a b c d) true).run Tryd.prog w3 = .ok (.tuple #[.int .i64 0, .bool false]) w3 := hlk0
    have Hc := Lib.hid hc
    clear hlk0 hc
    repeat still_step
    refine wpStill_nil ?_
    go_wp2_with fail
    obtain ⟨w4, hw4⟩ : ∃ w4, w4 = w3.setCell ⟨G, n, none⟩ (.int .i64 (-1)) := ⟨_, rfl⟩
    rw [← hw4]
    have hne := HK3.out.ne
    have hg4 : w3.grownBy w4 (some G) := by rw [hw4]; exact grownBy_set _ _ _ _
    have hr4 := Hr3.out.kept hg4 (by simp; have := HK1.out.lt; omega)
    have k4 := (HK3.out.row.kept hg4 (by simpa using hne.2.1)).cell 1 (by simp)
    have h5 : w4.drew = (w3.setCell ⟨G, n, none⟩ (.int .i64 (-1))).drew := by rw [hw4]
    have hm4 : w4.drew.ownsMap Tryd.prog 141 (plainElem Tryd.prog 3) M N D := by rw [h5]; exact ((Chg.of_below (S := fun k => k = G) Hb3'.out).map Hown.out (by exact hne.2.2)).kept ((grownBy_set _ _ _ _).trans (grownBy_drew _ _)) (by simpa using hne.2.2)
    have H5 := Lib.hid h5
    have Hm4 := Lib.hid hm4
    clear hw4 hne hg4 h5 hm4 q0 q1 q2 q3 k1' k2' g3 g4 hlk
    refine region_named 6 (by kernel_rfl) (by kernel_rfl) ?_
    intro w5 hw5
    have k5 : w5.cell? ⟨B, 1, none⟩ = some (.map (some M)) := (cell_drew hw5 B 1).trans k4
    have q0 := (cell_drew hw5 w1.heap.size 0).trans (hr4.cell 0 (by simp))
    have q1 := (cell_drew hw5 w1.heap.size 1).trans (hr4.cell 1 (by simp))
    have q2 := (cell_drew hw5 w1.heap.size 2).trans (hr4.cell 2 (by simp))
    have q3 := (cell_drew hw5 w1.heap.size 3).trans (hr4.cell 3 (by simp))
    have hm5 : w5.ownsMap Tryd.prog 141 (plainElem Tryd.prog 3) M N D := by rw [hw5]; exact Hm4.out
    have h5 := hw5.trans H5.out
    have Hm5 := Lib.hid hm5
    have H5' := Lib.hid h5
    clear hw5 hm5 h5 Hm4 H5 k4 hr4
    simp only [List.take_succ_cons, List.take_zero, List.drop_succ_cons, List.drop_zero]
    repeat still_step
    refine wpStill_nil ?_
    go_wp2_with (first
      | (at_mapUpdate; refine wpList_mapUpdate_own _ rfl _ _ _ 127 rfl 141 3 lawF Tryd.underlying127 _ M N _ rfl Hm5.out (by unfold maxLen; omega) _ _ _ rfl rfl (key4 a b c d) (.lit (.int .i64 (n : Int))) [] (plainElem_int Tryd.underlying3 (wfI n (by omega))) ?_; intro w6 hown6 hg6; have Hown6 := Lib.hid hown6; have Hg6 := Lib.hid hg6; clear hown6 hg6)
      | fail)
    have hres := HK3.out.after HL1.out HL2.out HL3.out hns (x := (-1)) (by rw [Hfour.out]; exact (congrArg aheadI Hc.out).symm) H5'.out Hown6.out (by omega) (by have := HV.out.last (K := s.data.toList) (n := n) (by simpa using hp); rw [Hfour.out] at this; exact this) Hg6.out
    go_end0
    exact ⟨rfl, hres.1, ((Chg.of_below (S := fun k => k = M ∨ k = G) Hb1.out).trans (Chg.of_below (S := fun k => k = M ∨ k = G) Hb3.out) (fun i h => .inl h)).trans hres.2 (fun i h => .inl h)⟩
  · rw [hc] at hlk0
    have hlk : (Instr.lookup 127 (.map (some M)) (four4 a b c d) true).run Tryd.prog w3 = .ok (.tuple #[.int .i64 (cc : Int), .bool true]) w3 := hlk0
    have Hc := Lib.hid hc
    clear hlk0 hc
    repeat still_step
    refine wpStill_nil ?_
    go_wp2_with fail
    obtain ⟨w4, hw4⟩ : ∃ w4, w4 = w3.setCell ⟨G, n, none⟩ (.int .i64 (cc : Int)) := ⟨_, rfl⟩
    rw [← hw4]
    have hne := HK3.out.ne
    have hg4 : w3.grownBy w4 (some G) := by rw [hw4]; exact grownBy_set _ _ _ _
    have hr4 := Hr3.out.kept hg4 (by simp; have := HK1.out.lt; omega)
    have k4 := (HK3.out.row.kept hg4 (by simpa using hne.2.1)).cell 1 (by simp)
    have h5 : w4.drew = (w3.setCell ⟨G, n, none⟩ (.int .i64 (cc : Int))).drew := by rw [hw4]
    have hm4 : w4.drew.ownsMap Tryd.prog 141 (plainElem Tryd.prog 3) M N D := by rw [h5]; exact ((Chg.of_below (S := fun k => k = G) Hb3'.out).map Hown.out (by exact hne.2.2)).kept ((grownBy_set _ _ _ _).trans (grownBy_drew _ _)) (by simpa using hne.2.2)
    have H5 := Lib.hid h5
    have Hm4 := Lib.hid hm4
    clear hw4 hne hg4 h5 hm4 q0 q1 q2 q3 k1' k2' g3 g4 hlk
    refine region_named 6 (by kernel_rfl) (by kernel_rfl) ?_
    intro w5 hw5
    have k5 : w5.cell? ⟨B, 1, none⟩ = some (.map (some M)) := (cell_drew hw5 B 1).trans k4
    have q0 := (cell_drew hw5 w1.heap.size 0).trans (hr4.cell 0 (by simp))
    have q1 := (cell_drew hw5 w1.heap.size 1).trans (hr4.cell 1 (by simp))
    have q2 := (cell_drew hw5 w1.heap.size 2).trans (hr4.cell 2 (by simp))
    have q3 := (cell_drew hw5 w1.heap.size 3).trans (hr4.cell 3 (by simp))
    have hm5 : w5.ownsMap Tryd.prog 141 (plainElem Tryd.prog 3) M N D := by rw [hw5]; exact Hm4.out
    have h5 := hw5.trans H5.out
    have Hm5 := Lib.hid hm5
    have H5' := Lib.hid h5
    clear hw5 hm5 h5 Hm4 H5 k4 hr4
    simp only [List.take_succ_cons, List.take_zero, List.drop_succ_cons, List.drop_zero]
    repeat still_step
    refine wpStill_nil ?_
    go_wp2_with (first
      | (at_mapUpdate; refine wpList_mapUpdate_own _ rfl _ _ _ 127 rfl 141 3 lawF Tryd.underlying127 _ M N _ rfl Hm5.out (by unfold maxLen; omega) _ _ _ rfl rfl (key4 a b c d) (.lit (.int .i64 (n : Int))) [] (plainElem_int Tryd.underlying3 (wfI n (by omega))) ?_; intro w6 hown6 hg6; have Hown6 := Lib.hid hown6; have Hg6 := Lib.hid hg6; clear hown6 hg6)
      | fail)
    have hres := HK3.out.after HL1.out HL2.out HL3.out hns (x := (cc : Int)) (by rw [Hfour.out]; exact (congrArg aheadI Hc.out).symm) H5'.out Hown6.out (by omega) (by have := HV.out.last (K := s.data.toList) (n := n) (by simpa using hp); rw [Hfour.out] at this; exact this) Hg6.out
    go_end0
    exact ⟨rfl, hres.1, ((Chg.of_below (S := fun k => k = M ∨ k = G) Hb1.out).trans (Chg.of_below (S := fun k => k = M ∨ k = G) Hb3.out) (fun i h => .inl h)).trans hres.2 (fun i h => .inl h)⟩
theorem put_any (s : ByteArray) (B M G n : Nat) (w : World) (hK : KAt w B M G s n) (hs : s.size ≤ 140737488351232) (hp : n ≤ s.size) :
    Calls Tryd.prog 102 #[.pointer (some ⟨B, 0, none⟩), .int .i64 (n : Int)] w fun e w' => e = .returned (.tuple #[]) ∧ KAt w' B M G s (n + 1) ∧ Chg (fun k => k = M ∨ k = G) w w' := by
  by_cases h4 : n + 4 ≤ s.size
  · have hl : (s.data.toList.drop n).length = s.size - n := by rw [List.length_drop]; simp
    match hx : s.data.toList.drop n, hl with
    | a :: b :: c :: d :: r, _ => exact put_long s B M G n a b c d r w hK hs h4 hx
    | [_, _, _], hl => simp at hl; omega
    | [_, _], hl => simp at hl; omega
    | [_], hl => simp at hl; omega
    | [], hl => simp at hl; omega
  · exact (put_short s B M G n w hK hs hp (by omega)).mono fun e w' ⟨h1, h2, h3⟩ => ⟨h1, h2, Chg.of_below h3⟩
end Go.Proofs.YtinciddchpccnaaDoor
