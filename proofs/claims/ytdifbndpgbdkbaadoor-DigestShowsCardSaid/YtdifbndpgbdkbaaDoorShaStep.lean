/- digest.step: what it returns. -/
import Derived.Test.YtdifbndpgbdkbaaDoorShaSpread
namespace Go.Proofs.YtdifbndpgbdkbaaDoor
open Go.RowKit
set_option linter.unusedVariables false
set_option linter.unusedSimpArgs false

def st8 (s : Sha.St) : Array Value := #[.int .u32 (s.a : Nat), .int .u32 (s.b : Nat), .int .u32 (s.c : Nat), .int .u32 (s.d : Nat), .int .u32 (s.e : Nat), .int .u32 (s.f : Nat), .int .u32 (s.g : Nat), .int .u32 (s.h : Nat)]
theorem st8_one (s : Sha.St) : (st8 s).all (·.oneCell') = true := by simp [st8, Value.oneCell']
/-- the package's table holds the rounds' words -/
def Tab (w : World) : Prop := ∀ t, t < 64 → w.cell? ⟨0, t, none⟩ = some (.int .u32 (Sha.kk.getD t 0 : Nat))
theorem Tab.pos {w : World} (h : Tab w) : 0 < w.heap.size := block_lt_of_cell (h 0 (by decide))
theorem Tab.below {w w' : World} {B : Nat} (h : Tab w) (hb : Below B w w') (hB : 0 < B) : Tab w' := fun t ht => (hb.cell (p := ⟨0, t, none⟩) hB).trans (h t ht)

theorem big1_xor (e : Nat) (he : e < 4294967296) : bits .xor .u32 ((Sha.rot 6 e ^^^ Sha.rot 11 e : Nat) : Int) ((Sha.rot 25 e : Nat) : Int) = ((Sha.big1 e : Nat) : Int) :=
  xor32 (Sha.xor_lt (Sha.rot_lt 6 e (by omega) (by omega) he) (Sha.rot_lt 11 e (by omega) (by omega) he)) (Sha.rot_lt 25 e (by omega) (by omega) he)
theorem big0_xor (e : Nat) (he : e < 4294967296) : bits .xor .u32 ((Sha.rot 2 e ^^^ Sha.rot 13 e : Nat) : Int) ((Sha.rot 22 e : Nat) : Int) = ((Sha.big0 e : Nat) : Int) :=
  xor32 (Sha.xor_lt (Sha.rot_lt 2 e (by omega) (by omega) he) (Sha.rot_lt 13 e (by omega) (by omega) he)) (Sha.rot_lt 22 e (by omega) (by omega) he)

theorem not32 (e : Nat) (he : e < 4294967296) : bits .xor .u32 (if IntKind.u32.signed = true then -1 else IntKind.u32.max) (e : Int) = ((4294967295 - e : Nat) : Int) := by
  have h1 : (if IntKind.u32.signed = true then -1 else IntKind.u32.max : Int) = 4294967295 := by decide
  rw [h1]
  show IntKind.u32.wrap ((BitVec.ofInt 32 4294967295 ^^^ BitVec.ofInt 32 (e : Int)).toNat : Int) = _
  have h2 : BitVec.ofInt 32 4294967295 = BitVec.allOnes 32 := by decide
  rw [h2, BitVec.allOnes_xor, BitVec.toNat_not, toNat_ofInt32 e he, wrap32u _ (by omega)]

set_option maxHeartbeats 4000000 in
set_option maxRecDepth 100000 in
theorem step_any (st : Sha.St) (s : ByteArray) (w : World) (hT : Tab w) (hst : st.ok) (hs : s.size = 64) :
    Calls Tryd.prog 34 #[.agg (st8 st), .string s] w fun e w' => e = .returned (.agg (st8 (Sha.step st s.data.toList))) ∧ Below w.heap.size w w' := by
  have HT := Lib.hid hT
  have hpos := hT.pos
  have HS := Lib.hid hs
  have hok := fun W n => Sha.rnds_ok (s := st) W hst n
  have HOK := Lib.hid hok
  clear hT hs hok hst
  obtain ⟨W, hW⟩ : ∃ W, W = Sha.words s.data.toList 64 := ⟨_, rfl⟩
  have HW := Lib.hid hW
  have i78 : (Tryd.prog.info? 78).map (·.size) = some (wRow W).size := by
    rw [wRow_size W (by rw [hW, Sha.words_len]; omega)]; kernel_rfl
  have I78 := Lib.hid i78
  have hz := wRow_size W (by rw [hW, Sha.words_len]; omega)
  have HZ := Lib.hid hz
  clear hW i78 hz
  go_enter Tryd.func34, Tryd.ntmps34
  unfold st8
  go_wp2_with fail
  refine (spread_any s _ HS.out).mono ?_
  rintro e w1 ⟨rfl, hb1⟩
  rw [← HW.out]
  go_wp2_with (refine wpList_store_named rfl 78 (.tmp 5) (.tmp 18) rfl w1.heap.size _ rfl rfl _ (Holds.new _ _ _) I78.out (by rw [HZ.out]; rfl) (wRow_one _) ?_; intro wA hwA)
  have hB0 : Below w.heap.size w w1 := (((Below.refl _ _).alloc (Nat.le_refl _) _).alloc (by simp) _).trans (hb1.mono (by simp; omega))
  have hBA : Below w.heap.size w wA := by rw [hwA]; exact below_setRow (hB0.alloc hB0.size _) hB0.size _
  have hlt1 : w.heap.size + 2 ≤ w1.heap.size := by have := hb1.size; simp at this; omega
  have hN : Holds wA w.heap.size (st8 st) := by
    rw [hwA]
    exact ((((Holds.new2 rfl rfl).alloc _).below hb1 (by simp; omega)).alloc _).rowFar (by omega) _
  have hR : Holds wA (w.heap.size + 1) (st8 ⟨0, 0, 0, 0, 0, 0, 0, 0⟩) := by
    rw [hwA]
    exact (((Holds.new2 (by simp) rfl).below hb1 (by simp)).alloc _).rowFar (by omega) _
  have hWr : Holds wA w1.heap.size (wRow W) := by
    rw [hwA]
    exact (Holds.new _ _ _).row _
  clear hwA
  obtain ⟨s0, s1, s2, s3, s4, s5, s6, s7⟩ := st
  have c0 := hN.cell 0
  have c1 := hN.cell 1
  have c2 := hN.cell 2
  have c3 := hN.cell 3
  have c4 := hN.cell 4
  have c5 := hN.cell 5
  have c6 := hN.cell 6
  have c7 := hN.cell 7
  simp [st8] at c0 c1 c2 c3 c4 c5 c6 c7
  have HN := Lib.hid hN
  have HR := Lib.hid hR
  have HWr := Lib.hid hWr
  clear hN hR hWr hb1 hB0
  go_quiet (fail)
  obtain ⟨wB, hwB⟩ : ∃ wB, wB = wA.drewN nq := ⟨_, rfl⟩
  rw [← hwB]
  have HN := Lib.hid (show Holds wB _ _ from by rw [hwB]; exact HN.out)
  have HR := Lib.hid (show Holds wB _ _ from by rw [hwB]; exact HR.out)
  have HWr := Lib.hid (show Holds wB _ _ from by rw [hwB]; exact HWr.out)
  have hBB := (show Below w.heap.size w wB from by rw [hwB]; exact below_drewN_ hBA _)
  clear hwB hBA c0 c1 c2 c3 c4 c5 c6 c7
  go_wp2_with fail
  go_loopw [6, 7, 8, 9, 10, 11, 12, 13, 35] (fun a b c d e f g h i wr => ∃ t : Nat, t ≤ 64 ∧ i = .int .i64 t ∧
      a = .int .u32 ((Sha.rnds ⟨s0, s1, s2, s3, s4, s5, s6, s7⟩ W t).a : Nat) ∧ b = .int .u32 ((Sha.rnds ⟨s0, s1, s2, s3, s4, s5, s6, s7⟩ W t).b : Nat) ∧ c = .int .u32 ((Sha.rnds ⟨s0, s1, s2, s3, s4, s5, s6, s7⟩ W t).c : Nat) ∧ d = .int .u32 ((Sha.rnds ⟨s0, s1, s2, s3, s4, s5, s6, s7⟩ W t).d : Nat) ∧
      e = .int .u32 ((Sha.rnds ⟨s0, s1, s2, s3, s4, s5, s6, s7⟩ W t).e : Nat) ∧ f = .int .u32 ((Sha.rnds ⟨s0, s1, s2, s3, s4, s5, s6, s7⟩ W t).f : Nat) ∧ g = .int .u32 ((Sha.rnds ⟨s0, s1, s2, s3, s4, s5, s6, s7⟩ W t).g : Nat) ∧ h = .int .u32 ((Sha.rnds ⟨s0, s1, s2, s3, s4, s5, s6, s7⟩ W t).h : Nat) ∧
      Holds wr w.heap.size (st8 ⟨s0, s1, s2, s3, s4, s5, s6, s7⟩) ∧ Holds wr (w.heap.size + 1) (st8 ⟨0, 0, 0, 0, 0, 0, 0, 0⟩) ∧ Holds wr w1.heap.size (wRow W) ∧ Below w.heap.size w wr) (fun _ _ _ _ _ _ _ _ i _ => 64 - (intOf i).toNat)
  case atStart => exact ⟨0, by omega, rfl, rfl, rfl, rfl, rfl, rfl, rfl, rfl, rfl, HN.out, HR.out, HWr.out, hBB⟩
  case round =>
    clear HN HR HWr hBB
    obtain ⟨t, ht, rfl, rfl, rfl, rfl, rfl, rfl, rfl, rfl, rfl, hN, hR, hWr, hb⟩ := hrel
    by_cases hlt : t < 64
    · have hk := (HT.out.below hb hpos) t hlt
      have hwt := hWr.cell t
      rw [wRow_at W t (by rw [HW.out, Sha.words_len]; exact hlt)] at hwt
      have hok := HOK.out W t
      have HSt : Hid (Sha.rnds ⟨s0, s1, s2, s3, s4, s5, s6, s7⟩ W (t + 1) = Sha.rnd (Sha.rnds ⟨s0, s1, s2, s3, s4, s5, s6, s7⟩ W t) (Sha.kk.getD t 0) (W.getD t 0)) := rfl
      rcases hst : Sha.rnds ⟨s0, s1, s2, s3, s4, s5, s6, s7⟩ W t with ⟨a, b, c, d, e, f, g, h⟩
      rw [hst] at hok HSt
      simp only
      obtain ⟨ha, hbb, hc, hd, he, hf, hg, hh⟩ := hok
      simp only at ha hbb hc hd he hf hg hh
      generalize Sha.kk.getD t 0 = K at *
      generalize W.getD t 0 = V at *
      have HN := Lib.hid hN
      have HR := Lib.hid hR
      have HWr := Lib.hid hWr
      clear hN hR hWr hst
      have hp : (0 : Int) ≤ (t : Int) := by omega
      have hq : (t : Int) < 64 := by omega
      have t6 : ∀ W : World, Calls Tryd.prog 51 #[.int .u32 (e : Int), .int .i64 6] W fun r w' => r = .returned (.int .u32 (Sha.rot 6 e : Nat)) ∧ w' = W := fun W => turned_still e 6 W he (by omega) (by omega)
      have t11 : ∀ W : World, Calls Tryd.prog 51 #[.int .u32 (e : Int), .int .i64 11] W fun r w' => r = .returned (.int .u32 (Sha.rot 11 e : Nat)) ∧ w' = W := fun W => turned_still e 11 W he (by omega) (by omega)
      have t25 : ∀ W : World, Calls Tryd.prog 51 #[.int .u32 (e : Int), .int .i64 25] W fun r w' => r = .returned (.int .u32 (Sha.rot 25 e : Nat)) ∧ w' = W := fun W => turned_still e 25 W he (by omega) (by omega)
      have T6 := Lib.hid t6
      have T11 := Lib.hid t11
      have T25 := Lib.hid t25
      clear t6 t11 t25
      have hx1 := xor32 (Sha.rot_lt 6 e (by omega) (by omega) he) (Sha.rot_lt 11 e (by omega) (by omega) he)
      have hx2 := big1_xor e he
      have ha1 := add32 h (Sha.big1 e)
      have hand := and32 he hf
      have hnot := not32 e he
      have hnand := and32 (show 4294967295 - e < 4294967296 by omega) hg
      have hch : bits .xor .u32 ((e &&& f : Nat) : Int) (((4294967295 - e) &&& g : Nat) : Int) = ((Sha.ch e f g : Nat) : Int) := xor32 (Sha.and_lt he) (Sha.and_lt (by omega))
      have ha2 := add32 (Sha.add h (Sha.big1 e)) (Sha.ch e f g)
      have ha3 := add32 (Sha.add (Sha.add h (Sha.big1 e)) (Sha.ch e f g)) K
      have ha4 := add32 (Sha.add (Sha.add (Sha.add h (Sha.big1 e)) (Sha.ch e f g)) K) V
      go_wp2_with fail
      go_quiet ((first
        | (with_reducible exact Calls.quiet_of_same (T6.out _))
        | (with_reducible exact Calls.quiet_of_same (T11.out _))
        | (with_reducible exact Calls.quiet_of_same (T25.out _))))
      obtain ⟨wq, hwq⟩ : ∃ wq, wq = wr.drewN nq := ⟨_, rfl⟩
      rw [← hwq]
      have HN := Lib.hid (show Holds wq _ _ from by rw [hwq]; exact HN.out)
      have HR := Lib.hid (show Holds wq _ _ from by rw [hwq]; exact HR.out)
      have HWr := Lib.hid (show Holds wq _ _ from by rw [hwq]; exact HWr.out)
      have hb := (show Below w.heap.size w wq from by rw [hwq]; exact below_drewN_ hb _)
      clear hwq hx1 hx2 ha1 ha2 ha3 ha4 hand hnot hnand hch hk hwt
      generalize hXX : Sha.add (Sha.add (Sha.add (Sha.add h (Sha.big1 e)) (Sha.ch e f g)) K) V = XX at *
      have t2 : ∀ W : World, Calls Tryd.prog 51 #[.int .u32 (a : Int), .int .i64 2] W fun r w' => r = .returned (.int .u32 (Sha.rot 2 a : Nat)) ∧ w' = W := fun W => turned_still a 2 W ha (by omega) (by omega)
      have t13 : ∀ W : World, Calls Tryd.prog 51 #[.int .u32 (a : Int), .int .i64 13] W fun r w' => r = .returned (.int .u32 (Sha.rot 13 a : Nat)) ∧ w' = W := fun W => turned_still a 13 W ha (by omega) (by omega)
      have t22 : ∀ W : World, Calls Tryd.prog 51 #[.int .u32 (a : Int), .int .i64 22] W fun r w' => r = .returned (.int .u32 (Sha.rot 22 a : Nat)) ∧ w' = W := fun W => turned_still a 22 W ha (by omega) (by omega)
      have T2 := Lib.hid t2
      have T13 := Lib.hid t13
      have T22 := Lib.hid t22
      have HXX := Lib.hid hXX
      clear t2 t13 t22 hXX
      have hy1 := xor32 (Sha.rot_lt 2 a (by omega) (by omega) ha) (Sha.rot_lt 13 a (by omega) (by omega) ha)
      have hy2 := big0_xor a ha
      have hy3 := and32 ha hbb
      have hy4 := and32 ha hc
      have hy5 := and32 hbb hc
      have hy6 := xor32 (Sha.and_lt (b := b) ha) (Sha.and_lt (b := c) ha)
      have hy7 : bits .xor .u32 (((a &&& b) ^^^ (a &&& c) : Nat) : Int) ((b &&& c : Nat) : Int) = ((Sha.maj a b c : Nat) : Int) := xor32 (Sha.xor_lt (Sha.and_lt ha) (Sha.and_lt ha)) (Sha.and_lt hbb)
      have hy8 := add32 (Sha.big0 a) (Sha.maj a b c)
      have hy9 := add32 d XX
      have hy10 := add32 XX (Sha.add (Sha.big0 a) (Sha.maj a b c))
      go_wp2_with fail
      refine (T2.out _).mono ?_
      rintro r w2 ⟨rfl, rfl⟩
      go_wp2_with fail
      refine (T13.out _).mono ?_
      rintro r w2 ⟨rfl, rfl⟩
      go_wp2_with fail
      refine (T22.out _).mono ?_
      rintro r w2 ⟨rfl, rfl⟩
      go_wp2_with fail
      refine ⟨⟨t + 1, by omega, by go_num, ?_, ?_, ?_, ?_, ?_, ?_, ?_, ?_, HN.out, HR.out, HWr.out, hb⟩, by simp [intOf]; omega⟩
      all_goals (rw [HSt.out]; simp only [Sha.rnd, HXX.out])
    · have e64 : t = 64 := by omega
      have hfin : Sha.step ⟨s0, s1, s2, s3, s4, s5, s6, s7⟩ s.data.toList = Sha.plus ⟨s0, s1, s2, s3, s4, s5, s6, s7⟩ (Sha.rnds ⟨s0, s1, s2, s3, s4, s5, s6, s7⟩ W t) := by
        unfold Sha.step; rw [HW.out, e64]
      have Hfin := Lib.hid hfin
      clear hfin e64
      rcases hst : Sha.rnds ⟨s0, s1, s2, s3, s4, s5, s6, s7⟩ W t with ⟨a, b, c, d, e, f, g, hh⟩
      rw [hst] at Hfin
      simp only
      clear hst
      have c0 := hN.cell 0
      have c1 := hN.cell 1
      have c2 := hN.cell 2
      have c3 := hN.cell 3
      have c4 := hN.cell 4
      have c5 := hN.cell 5
      have c6 := hN.cell 6
      have c7 := hN.cell 7
      simp [st8] at c0 c1 c2 c3 c4 c5 c6 c7
      have a0 := add32 s0 a
      have a1 := add32 s1 b
      have a2 := add32 s2 c
      have a3 := add32 s3 d
      have a4 := add32 s4 e
      have a5 := add32 s5 f
      have a6 := add32 s6 g
      have a7 := add32 s7 hh
      have HR := Lib.hid hR
      have i58 : (Tryd.prog.info? 58).map (·.size) = some 8 := by kernel_rfl
      have I58 := Lib.hid i58
      clear hR hN hWr i58
      go_wp2_with (refine wpList_store_named rfl 58 (.tmp 4) (.tmp 130) rfl (w.heap.size + 1) (st8 (Sha.plus ⟨s0, s1, s2, s3, s4, s5, s6, s7⟩ ⟨a, b, c, d, e, f, g, hh⟩)) rfl rfl _ HR.out I58.out rfl (st8_one _) ?_; intro w5 hw5)
      rw [Hfin.out]
      obtain ⟨T5, hT5⟩ := HR.out.row (st8 (Sha.plus ⟨s0, s1, s2, s3, s4, s5, s6, s7⟩ ⟨a, b, c, d, e, f, g, hh⟩))
      rw [← hw5] at hT5
      exact bodyPost_ret (results_cell_row rfl _ _ (w.heap.size + 1) T5 _ (0, 0) _ rfl hT5 Tryd.underlying58 rfl I58.out) rfl ⟨rfl, by rw [hw5]; exact below_setRow hb (by omega) _⟩
end Go.Proofs.YtdifbndpgbdkbaaDoor
