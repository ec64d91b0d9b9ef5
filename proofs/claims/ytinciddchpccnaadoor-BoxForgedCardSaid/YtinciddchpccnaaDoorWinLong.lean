/- What later texts need of the earlier layers. -/
import Derived.Test.YtinciddchpccnaaDoorBxO
import Derived.Test.YtinciddchpccnaaDoorBxS
import Derived.Test.YtinciddchpccnaaDoorBxT
import Derived.Test.YtinciddchpccnaaDoorBxC
import Derived.Test.YtinciddchpccnaaDoorBxA
import Derived.Test.YtinciddchpccnaaDoorWinMath
import Derived.Test.YtinciddchpccnaaDoorWinNum
import Derived.Test.YtinciddchpccnaaDoorWinSame
import Derived.Test.YtinciddchpccnaaDoorOwnApp
import Derived.Test.YtinciddchpccnaaDoorWinOwn
import Derived.Test.YtinciddchpccnaaDoorWinOwn8
import Derived.Test.YtinciddchpccnaaDoorWinKey
import Derived.Test.YtinciddchpccnaaDoorWinPack
import Derived.Test.YtinciddchpccnaaDoorWinUn
import Derived.Test.YtinciddchpccnaaDoorWinAgain
import Derived.Test.YtinciddchpccnaaDoorWinUp
import Derived.Test.YtinciddchpccnaaDoorWinFour
import Derived.Test.YtinciddchpccnaaDoorWinML
import Derived.Test.YtinciddchpccnaaDoorWinKnown
import Derived.Test.YtinciddchpccnaaDoorWinCP
import Derived.Test.YtinciddchpccnaaDoorWinFar
import Derived.WalkMore
import Derived.ScopeJumps
/- ---- WinLong ---- -/
/- window: longest. -/
namespace Go.Proofs.YtinciddchpccnaaDoor
open Go.RowKit Go.Maps
set_option maxRecDepth 100000
set_option linter.unusedVariables false
set_option linter.unusedSimpArgs false

theorem wp_scope_again {P : Program} {a : Act} {w : World} {Q : Exit → Act → World → Prop} {c b : Code} (l : Nat) (J : Act → World → Prop) (μ : Act → World → Nat) (hf : findLabel c l = some (.seq .skip b))
    (pass : ∀ a w, J a w → b.wp P (Exit.jump l (fun a' w' => J a' w' ∧ μ a' w' < μ a w) Q) a w)
    (first : (∀ a w, J a w → b.wp P (Exit.jump l J Q) a w) → c.wp P (Exit.jump l J Q) a w) : (Code.scope c).wp P Q a w := by
  refine wp_scope_jumps l J μ hf (first fun a w h => wp_mono (pass a w h) ?_) (fun a w h => wp_seq (wp_skip (pass a w h)))
  intro e a' w' he
  cases e with
  | goto l' => exact ⟨he.1, he.2.1⟩
  | _ => exact he
set_option maxHeartbeats 800000 in
theorem longest_short (s : ByteArray) (B M G p : Nat) (w : World) (hK : KAt w B M G s p) (hs : s.size ≤ 140737488351232) (hp : p ≤ s.size) (h4 : s.size < p + 4) :
    Calls Tryd.prog 101 #[.pointer (some ⟨B, 0, none⟩), .int .i64 (p : Int)] w fun e w' => e = .returned (.tuple #[.int .i64 0, .int .i64 0]) ∧ Below w.heap.size w w' := by
  have hf := fourAt_short s B p w hK.c0 hs hp h4
  have Hf := Lib.hid hf
  clear hf hK
  go_enter Tryd.func101, Tryd.ntmps101
  go_wp2_with fail
  go_step3
  go_wp2_with fail
  refine Hf.out.mono ?_
  rintro e w1 ⟨rfl, hb1⟩
  have Hb1 := Lib.hid hb1
  clear hb1
  go_wp2_with fail
  rw [Exit.noGoto_ret]
  go_ret2
  exact ⟨rfl, (Hb1.out.alloc (Hb1.out.size) _)⟩
set_option maxHeartbeats 800000 in
theorem longest_long (s : ByteArray) (B M G p : Nat) (a b c d : UInt8) (r : List UInt8) (w : World) (hK : KAt w B M G s p) (hs : s.size ≤ 140737488351232) (hp : p + 4 ≤ s.size) (hx : s.data.toList.drop p = a :: b :: c :: d :: r) :
    Calls Tryd.prog 101 #[.pointer (some ⟨B, 0, none⟩), .int .i64 (p : Int)] w fun e w' => e = .returned (.tuple #[.int .i64 ((Win.mat s.data.toList p).1 : Int), .int .i64 ((Win.mat s.data.toList p).2 : Int)]) ∧ Below w.heap.size w w' := by
  have hf := fourAt_long s B p a b c d r w hK.c0 hs hp hx
  have hfour : Win.four s.data.toList p = [a, b, c, d] := by unfold Win.four; rw [hx]; rfl
  have hlen : s.data.toList.length = s.size := rfl
  have Hf := Lib.hid hf
  have HK := Lib.hid hK
  have Hfour := Lib.hid hfour
  have Hlen := Lib.hid hlen
  clear hf hK hfour hx hlen
  obtain ⟨mo, hmo⟩ : ∃ mo, min (s.size - p) 130 = mo := ⟨_, rfl⟩
  have Hmo := Lib.hid hmo
  have hmos : p + mo ≤ s.size := by omega
  have hmo130 : mo ≤ 130 := by omega
  have emin : min ((s.size : Int) - (p : Int)) 130 = (mo : Int) := by omega
  clear hmo
  go_enter Tryd.func101, Tryd.ntmps101
  go_wp2_with fail
  refine wp_scope_again 0 (fun a' w' => ∃ (i : Nat) (o : Option Nat) (x y : Nat), a' = { tmps := #[.pointer (some ⟨B, 0, none⟩), .int .i64 (p : Int), a'.tmps.getD 2 undef, a'.tmps.getD 3 undef, .int .i64 0, .int .i64 0, a'.tmps.getD 6 undef, .bool true, .int .i64 (aheadI o), a'.tmps.getD 9 undef, .int .i64 (mo : Int), .int .i64 (x : Int), .int .i64 (y : Int), a'.tmps.getD 13 undef, a'.tmps.getD 14 undef, a'.tmps.getD 15 undef, a'.tmps.getD 16 undef, a'.tmps.getD 17 undef, a'.tmps.getD 18 undef, a'.tmps.getD 19 undef, a'.tmps.getD 20 undef, a'.tmps.getD 21 undef, a'.tmps.getD 22 undef, a'.tmps.getD 23 undef, a'.tmps.getD 24 undef, a'.tmps.getD 25 undef, a'.tmps.getD 26 undef, a'.tmps.getD 27 undef, a'.tmps.getD 28 undef, a'.tmps.getD 29 undef, a'.tmps.getD 30 undef, a'.tmps.getD 31 undef, a'.tmps.getD 32 undef, a'.tmps.getD 33 undef, a'.tmps.getD 34 undef, a'.tmps.getD 35 undef, a'.tmps.getD 36 undef, a'.tmps.getD 37 undef, a'.tmps.getD 38 undef, a'.tmps.getD 39 undef, a'.tmps.getD 40 undef, a'.tmps.getD 41 undef, a'.tmps.getD 42 undef, a'.tmps.getD 43 undef, a'.tmps.getD 44 undef, a'.tmps.getD 45 undef, a'.tmps.getD 46 undef, a'.tmps.getD 47 undef, a'.tmps.getD 48 undef, a'.tmps.getD 49 undef, a'.tmps.getD 50 undef, a'.tmps.getD 51 undef, a'.tmps.getD 52 undef, a'.tmps.getD 53 undef, a'.tmps.getD 54 undef, a'.tmps.getD 55 undef, a'.tmps.getD 56 undef, a'.tmps.getD 57 undef, a'.tmps.getD 58 undef, a'.tmps.getD 59 undef, a'.tmps.getD 60 undef, a'.tmps.getD 61 undef, a'.tmps.getD 62 undef, a'.tmps.getD 63 undef, a'.tmps.getD 64 undef, a'.tmps.getD 65 undef, a'.tmps.getD 66 undef, a'.tmps.getD 67 undef, a'.tmps.getD 68 undef, a'.tmps.getD 69 undef, a'.tmps.getD 70 undef, a'.tmps.getD 71 undef, a'.tmps.getD 72 undef, a'.tmps.getD 73 undef, a'.tmps.getD 74 undef, a'.tmps.getD 75 undef], defers := [] } ∧ Win.Far s.data.toList p i o (x, y) ∧ Below w.heap.size w w') (fun a' _ => (intOf (a'.tmps.getD 8 undef) + 1).toNat) rfl ?_ ?_
  · rintro a' w' ⟨i, o, x, y, ha, hfar, hb⟩
    obtain ⟨u, hu⟩ : ∃ u : Nat → Value, ∀ q, a'.tmps.getD q undef = u q := ⟨_, fun _ => rfl⟩
    simp only [hu] at ha
    subst ha
    clear hu
    have Hfar := Lib.hid hfar
    have Hb := Lib.hid hb
    have hsm := hfar.small
    rw [Hlen.out] at hsm
    have hi := hfar.le
    have hnext := hfar.next
    have hx130 : x ≤ 130 := hsm.1
    have hxl : x ≤ s.size - p := hsm.2.1
    have hyp : y ≤ p := hsm.2.2
    clear hsm hfar hb
    rcases o with _ | k
    · clear hnext
      have ea : aheadI none = -1 := rfl
      rw [ea]
      clear ea
      go_wp2_with fail
      simp only [Exit.jump]
      go_ret2
      have hm := Hfar.out.none_ (by rw [Hlen.out]; exact hp)
      exact ⟨by rw [hm]; rfl, Hb.out⟩
    · have ea : aheadI (some k) = (k : Int) := rfl
      have hki := (Win.lastAt_some hnext).1
      rw [ea]
      clear ea hnext
      have d1 : decide ((k : Int) < 0) = false := by simp only [decide_eq_false_iff_not]; omega
      obtain ⟨dd, hdd⟩ : ∃ dd, p - k = dd := ⟨_, rfl⟩
      have edd : (p : Int) - (k : Int) = (dd : Int) := by omega
      have hddp : dd ≤ p := by omega
      have Hdd := Lib.hid hdd
      clear hdd
      by_cases hfr : 32768 < dd
      · have d2 : decide ((32768 : Int) < (dd : Int)) = true := by simp only [decide_eq_true_eq]; omega
        have d2' : decide (32768 < dd) = true := by simp only [decide_eq_true_eq]; omega
        go_wp2_with fail
        simp only [Exit.jump]
        go_ret2
        have hm := Hfar.out.far (by rw [Hlen.out]; exact hp) (by rw [Hdd.out]; exact hfr)
        exact ⟨by rw [hm]; rfl, Hb.out⟩
      · have d2 : decide ((32768 : Int) < (dd : Int)) = false := by simp only [decide_eq_false_iff_not]; omega
        have d2' : decide (32768 < dd) = false := by simp only [decide_eq_false_iff_not]; omega
        by_cases hfull : x = mo
        · have d3 : ((x : Int) == (mo : Int)) = true := by simp only [beq_iff_eq]; omega
          have d3' : decide (x = mo) = true := by simp only [decide_eq_true_eq]; omega
          have Hfull := Lib.hid hfull
          clear hfull
          go_wp2_with fail
          simp only [Exit.jump]
          go_ret2
          have hm := Hfar.out.full (by rw [Hlen.out, Hmo.out]; exact Hfull.out)
          exact ⟨by rw [hm]; rfl, Hb.out⟩
        · have d3 : ((x : Int) == (mo : Int)) = false := by simp only [beq_eq_false_iff_ne]; omega
          have d3' : decide (x = mo) = false := by simp only [decide_eq_false_iff_not]; omega
          have hxmo : x < mo := by have := Hmo.out; omega
          have HK' := Lib.hid (HK.out.below Hb.out)
          have hgo := Hfar.out.go (by rw [Hlen.out]; exact hp) (by rw [Hdd.out]; omega) (by rw [Hlen.out, Hmo.out]; exact hxmo)
          rw [Hlen.out, Hmo.out, Hdd.out] at hgo
          have hsame := same_any s B k p x mo w' HK'.out.c0 hs (by omega) hxmo hmos
          obtain ⟨n, hn⟩ : ∃ n, Win.sameB s.data.toList k p x mo = n := ⟨_, rfl⟩
          rw [show (x, y).1 = x from rfl, hn] at hgo
          rw [hn] at hsame
          have Hgo := Lib.hid hgo
          have Hsame := Lib.hid hsame
          clear hgo hsame hn
          go_wp2_with fail
          refine Hsame.out.mono ?_
          rintro e w1 ⟨rfl, q, rfl⟩
          have HK2 := Lib.hid (HK'.out.below (bel_drewN (Below.refl _ _) q))
          have Hb2 := Lib.hid (bel_drewN Hb.out q)
          obtain ⟨L, hL1, hL2, hL3⟩ := HK2.out.ahead
          have g1 := hL1.num k (by rw [hL2]; omega)
          have g2 := HK2.out.c2
          rw [hL3 k (by omega) (by omega)] at g1
          have hlow : ∀ q, Win.lastAt s.data.toList (Win.four s.data.toList k) k = some q → q < k := fun q h => (Win.lastAt_some h).1
          have hks : k < s.size := by omega
          obtain ⟨o2, ho2⟩ : ∃ o2, Win.lastAt s.data.toList (Win.four s.data.toList k) k = o2 := ⟨_, rfl⟩
          rw [ho2] at g1 hlow
          have Hgo2 := Lib.hid (ho2 ▸ Hgo.out)
          have hdown : (aheadI o2 + 1).toNat < ((k : Int) + 1).toNat := by
            rcases o2 with _ | q2
            · simp [aheadI]
            · have := hlow q2 rfl
              simp [aheadI]; omega
          obtain ⟨ah, hah⟩ : ∃ ah, aheadI o2 = ah := ⟨_, rfl⟩
          rw [hah] at g1
          have Hah := Lib.hid hah
          have Hdown := Lib.hid hdown
          clear hL1 hL2 hL3 hlow ho2 hah hdown
          generalize w'.drewN q = w2 at *
          by_cases hnx : x < n
          · have d4 : decide ((x : Int) < (n : Int)) = true := by simp only [decide_eq_true_eq]; omega
            have d4' : decide (x < n) = true := by simp only [decide_eq_true_eq]; omega
            go_wp2_with fail
            go_step3
            have ea := Hah.out
            subst ea
            have hg := Hgo2.out
            rw [if_pos hnx] at hg
            refine ⟨rfl, ⟨k, o2, n, dd, rfl, hg, Hb2.out⟩, ?_⟩
            have := Hdown.out
            simpa [intOf] using this
          · have d4 : decide ((x : Int) < (n : Int)) = false := by simp only [decide_eq_false_iff_not]; omega
            have d4' : decide (x < n) = false := by simp only [decide_eq_false_iff_not]; omega
            go_wp2_with fail
            go_step3
            have ea := Hah.out
            subst ea
            have hg := Hgo2.out
            rw [if_neg hnx] at hg
            refine ⟨rfl, ⟨k, o2, x, y, rfl, hg, Hb2.out⟩, ?_⟩
            have := Hdown.out
            simpa [intOf] using this
  · intro hround
    have Hround := Lib.hid hround
    clear hround
    go_wp2_with fail
    refine Hf.out.mono ?_
    rintro e w1 ⟨rfl, hb1⟩
    have Hb1 := Lib.hid hb1
    clear hb1
    have HK1 := Lib.hid (HK.out.below Hb1.out)
    go_wp2_with fail
    have hr := Row.new w1 141 [.int .u8 (a.toNat : Int), .int .u8 (b.toNat : Int), .int .u8 (c.toNat : Int), .int .u8 (d.toNat : Int)]
    have hb : Below w1.heap.size w1 (w1.alloc (.cells [Value.int .u8 (a.toNat : Int), .int .u8 (b.toNat : Int), .int .u8 (c.toNat : Int), .int .u8 (d.toNat : Int)].toArray 141)) := (Below.refl _ _).alloc (Nat.le_refl _) _
    generalize w1.alloc (.cells [Value.int .u8 (a.toNat : Int), .int .u8 (b.toNat : Int), .int .u8 (c.toNat : Int), .int .u8 (d.toNat : Int)].toArray 141) = W at *
    have hKW := HK1.out.below hb
    obtain ⟨D, N, hN, hown, hV⟩ := hKW.map
    have k1 := hKW.c1
    have r0 := hr.cell 0 (by simp)
    have r1 := hr.cell 1 (by simp)
    have r2 := hr.cell 2 (by simp)
    have r3 := hr.cell 3 (by simp)
    have Hb := Lib.hid hb
    have Hown := Lib.hid hown
    have HV := Lib.hid hV
    clear hr hKW hown hV hb
    refine region_named 10 (by kernel_rfl) (by kernel_rfl) ?_
    intro w3 hw3
    have k1' := (cell_drew hw3 B 1).trans k1
    have q0 := (cell_drew hw3 w1.heap.size 0).trans r0
    have q1 := (cell_drew hw3 w1.heap.size 1).trans r1
    have q2 := (cell_drew hw3 w1.heap.size 2).trans r2
    have q3 := (cell_drew hw3 w1.heap.size 3).trans r3
    have hlk0 := run_look4 (w := w3) (by rw [hw3]; exact Hown.out.drew) HV.out [a, b, c, d] rfl
    have hb3 : Below w1.heap.size w1 w3 := by rw [hw3]; exact Hb.out.drew
    have Hb3 := Lib.hid ((Hb1.out).trans (hb3.mono Hb1.out.size))
    have HK3 := Lib.hid (HK1.out.below hb3)
    have k0 := HK3.out.c0
    have hst := Win.Far.start s.data.toList p
    rw [Hfour.out] at hst
    have Hst := Lib.hid hst
    clear hb3 hw3 k1 r0 r1 r2 r3 hst
    rcases hc : Win.lastAt s.data.toList [a, b, c, d] p with _ | cc
    · rw [hc] at hlk0
      have hlk : (Instr.lookup 127 (.map (some M)) (four4 a b c d) true).run Tryd.prog w3 = .ok (.tuple #[.int .i64 0, .bool false]) w3 := hlk0
      have hst := hc ▸ Hst.out
      have Hst2 := Lib.hid hst
      clear hlk0 hc hst
      repeat still_step
      refine wpStill_nil ?_
      go_wp2_with fail
      all_goals
        first
          | (refine Hround.out _ _ ⟨p, none, 0, 0, ?_, Hst2.out, Hb3.out⟩; rfl)
          | (go_step3; go_step; go_step; refine Hround.out _ _ ⟨p, none, 0, 0, ?_, Hst2.out, Hb3.out⟩; rfl)
          | (go_step; refine Hround.out _ _ ⟨p, none, 0, 0, ?_, Hst2.out, Hb3.out⟩; rfl)
          | (go_step; go_step; refine Hround.out _ _ ⟨p, none, 0, 0, ?_, Hst2.out, Hb3.out⟩; rfl)
    · rw [hc] at hlk0
      have hlk : (Instr.lookup 127 (.map (some M)) (four4 a b c d) true).run Tryd.prog w3 = .ok (.tuple #[.int .i64 (cc : Int), .bool true]) w3 := hlk0
      have hst := hc ▸ Hst.out
      have Hst2 := Lib.hid hst
      clear hlk0 hc hst
      repeat still_step
      refine wpStill_nil ?_
      go_wp2_with fail
      all_goals
        first
          | (refine Hround.out _ _ ⟨p, some cc, 0, 0, ?_, Hst2.out, Hb3.out⟩; rfl)
          | (go_step3; go_step; go_step; refine Hround.out _ _ ⟨p, some cc, 0, 0, ?_, Hst2.out, Hb3.out⟩; rfl)
          | (go_step; refine Hround.out _ _ ⟨p, some cc, 0, 0, ?_, Hst2.out, Hb3.out⟩; rfl)
          | (go_step; go_step; refine Hround.out _ _ ⟨p, some cc, 0, 0, ?_, Hst2.out, Hb3.out⟩; rfl)
theorem longest_any (s : ByteArray) (B M G p : Nat) (w : World) (hK : KAt w B M G s p) (hs : s.size ≤ 140737488351232) (hp : p ≤ s.size) :
    Calls Tryd.prog 101 #[.pointer (some ⟨B, 0, none⟩), .int .i64 (p : Int)] w fun e w' => e = .returned (.tuple #[.int .i64 ((Win.mat s.data.toList p).1 : Int), .int .i64 ((Win.mat s.data.toList p).2 : Int)]) ∧ Below w.heap.size w w' := by
  by_cases h4 : p + 4 ≤ s.size
  · have hl : (s.data.toList.drop p).length = s.size - p := by rw [List.length_drop]; simp
    match hx : s.data.toList.drop p, hl with
    | a :: b :: c :: d :: r, _ => exact longest_long s B M G p a b c d r w hK hs h4 hx
    | [_, _, _], hl => simp at hl; omega
    | [_, _], hl => simp at hl; omega
    | [_], hl => simp at hl; omega
    | [], hl => simp at hl; omega
  · have hm := Win.mat_short (K := s.data.toList) (p := p) (by show s.size < p + 4; omega)
    rw [hm]
    exact longest_short s B M G p w hK hs hp (by omega)
end Go.Proofs.YtinciddchpccnaaDoor
