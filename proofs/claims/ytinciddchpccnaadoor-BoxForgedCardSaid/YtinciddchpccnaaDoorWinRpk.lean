/- What later texts need of the earlier layers. -/
import Derived.Test.YtinciddchpccnaaDoorBxO
import Derived.Test.YtinciddchpccnaaDoorWinMath
import Derived.Test.YtinciddchpccnaaDoorWinNum
import Derived.Test.YtinciddchpccnaaDoorOwnApp
import Derived.Test.YtinciddchpccnaaDoorWinOwn
import Derived.Test.YtinciddchpccnaaDoorWinOwn8
import Derived.Test.YtinciddchpccnaaDoorWinPack
import Derived.Test.YtinciddchpccnaaDoorWinUn
import Derived.Test.YtinciddchpccnaaDoorWinAgain
import Derived.Test.YtinciddchpccnaaDoorWinUp
import Derived.Test.YtinciddchpccnaaDoorWinRup
import Derived.Test.YtinciddchpccnaaDoorWinST
import Derived.Test.YtinciddchpccnaaDoorWinBest
set_option maxRecDepth 100000
/- ---- WinRpk ---- -/
/- The reference of layer 7: Pack. -/
namespace Go.Proofs.YtinciddchpccnaaDoor
open Go.RowKit
set_option linter.unusedVariables false
set_option linter.unusedSimpArgs false

theorem u8_mod (x : UInt8) : (x.toNat : Int) % 256 = (x.toNat : Int) := by have := x.toNat_lt; omega
set_option maxRecDepth 20000 in
set_option maxHeartbeats 1600000 in
theorem refPack_any (s : ByteArray) (w : World) (hs : s.size ≤ 100000000000) :
    Calls Tryd.prog 50 #[.string s] w fun e w' => e = .returned (S (Win.pack s.data.toList)) ∧ Below w.heap.size w w' := by
  obtain ⟨i0, hi, hz0, hz1, hz2⟩ := info_parts r8_info
  have Hi := Lib.hid hi; clear hi
  have Hz0 := Lib.hid hz0; clear hz0
  have Hz1 := Lib.hid hz1; clear hz1
  have Hz2 := Lib.hid hz2; clear hz2
  have hlen : s.data.toList.length = s.size := rfl
  obtain ⟨st, hst⟩ : ∃ st, stB = st := ⟨_, rfl⟩
  have hstz : st.size = 68 := by rw [← hst]; rfl
  have hstl : st.data.toList = Win.static := by rw [← hst]; rfl
  obtain ⟨kn, hkn⟩ : ∃ kn, st ++ s = kn := ⟨_, rfl⟩
  have hknz : kn.size = 68 + s.size := by rw [← hkn, ByteArray.size_append, hstz]
  have hknl : kn.data.toList = Win.static ++ s.data.toList := by rw [← hkn, ByteArray.data_append, Array.toList_append, hstl]
  have hkl : (Win.static ++ s.data.toList).length = kn.size := by rw [← hknl]; rfl
  have Hst := Lib.hid hst
  have Hkn := Lib.hid hkn
  have Hknl := Lib.hid hknl
  have Hknz := Lib.hid hknz
  have Hkl := Lib.hid hkl
  have hkn64 : kn.size ≤ 140737488351232 := by omega
  clear hst hstl hkn hknl hknz hkl
  go_enter Tryd.func50, Tryd.ntmps50
  go_wp2_with fail
  refine (static_any _).mono ?_
  rintro e w1 ⟨rfl, rfl⟩
  rw [Hst.out]
  have hkn2 := Hkn.out
  go_wp2_with fail
  clear hkn2
  refine (static_any _).mono ?_
  rintro e w1 ⟨rfl, rfl⟩
  rw [Hst.out]
  go_wp2_with fail
  go_loopw [4, 5, 6] (fun b r i wr => ∃ (p : Nat) (done rest : List UInt8), i = .int .i64 (p : Int) ∧ Win.Up s.data.toList p done rest ∧ rest.length < 128 ∧ (p = kn.size → rest = []) ∧ Two w.heap.size wr b r done rest ∧ Below w.heap.size w wr) (fun _ _ i _ => kn.size - (intOf i).toNat)
  case atStart => exact ⟨68, [], [], rfl, Win.Up.start _, by simp, fun _ => rfl, Two.start w, ((Below.refl _ _).alloc (Nat.le_refl _) _).alloc (by simp) _⟩
  case round =>
    obtain ⟨p, done, rest, rfl, hup, hr128, hrl, hT, hbel⟩ := hrel
    have hp1 := hup.2.1
    rw [Hkl.out] at hp1
    have hdl := hup.len
    rw [hlen] at hdl
    obtain ⟨⟨gb, cb, hvb⟩, gr, cr, hvr⟩ := hT.form
    subst hvb hvr
    have HT := Lib.hid hT
    have HB := Lib.hid hbel
    have Hup := Lib.hid hup
    have Hrl := Lib.hid hrl
    clear hT hbel hup hrl
    by_cases hlt : p < kn.size
    · have hbe := Win.bestTo_le (Win.static ++ s.data.toList) p (min p 32768)
      rw [← Hknl.out] at hbe
      have hmb := Win.mat_best (Win.static ++ s.data.toList) p
      rw [← Hknl.out] at hmb
      obtain ⟨X, hX⟩ : ∃ X, Win.best kn.data.toList p = X := ⟨_, rfl⟩
      rw [show Win.bestTo kn.data.toList p (min p 32768) = X from hX] at hbe
      rw [hX] at hmb
      obtain ⟨x, y⟩ := X
      have hx130 : x ≤ 130 := hbe.1
      have hxl : x ≤ kn.data.toList.length - p := hbe.2.1
      rw [show kn.data.toList.length = kn.size from rfl] at hxl
      have hy32 : y ≤ 32768 := by have : y ≤ min p 32768 := hbe.2.2.1; omega
      have hxy : x ≠ 0 → 1 ≤ y := fun h => (hbe.2.2.2 h).1
      have hv : twoV (Win.best kn.data.toList p) = .tuple #[.int .i64 (x : Int), .int .i64 (y : Int)] := by rw [hX]; rfl
      have Hv := Lib.hid hv
      clear hbe hX hv
      by_cases h4 : 4 ≤ x
      · have hm : Win.mat kn.data.toList p = (x, y) := hmb.1 h4
        have hy1 : 1 ≤ y := hxy (by omega)
        have hup2 := Hup.out.mat (by rw [Hkl.out]; exact hlt) (by rw [← Hknl.out, hm]; show x ≠ 0; omega)
        rw [← Hknl.out, hm] at hup2
        have hup3 : Win.Up s.data.toList (p + x) (done ++ Win.lits rest ++ Win.three (x, y)) [] := hup2
        have hlen3 := hup3.len
        rw [hlen, List.length_append, List.length_append] at hlen3
        obtain ⟨x0, hx0⟩ : ∃ x0, UInt8.ofNat (x + 124) = x0 := ⟨_, rfl⟩
        obtain ⟨x1, hx1⟩ : ∃ x1, UInt8.ofNat ((y - 1) / 256) = x1 := ⟨_, rfl⟩
        obtain ⟨x2, hx2⟩ : ∃ x2, UInt8.ofNat ((y - 1) % 256) = x2 := ⟨_, rfl⟩
        have hth : Win.three (x, y) = [x0, x1, x2] := by rw [← hx0, ← hx1, ← hx2]; rfl
        have ex0 : (x : Int) + 124 = (x0.toNat : Int) := by rw [← hx0, UInt8.toNat_ofNat']; omega
        obtain ⟨q, hq⟩ : ∃ q, y - 1 = q := ⟨_, rfl⟩
        rw [hq] at hx1 hx2
        have eq1 : (y : Int) - 1 = (q : Int) := by omega
        have ex1 : (q : Int) / 256 = (x1.toNat : Int) := by rw [← hx1, UInt8.toNat_ofNat']; omega
        have ex2 : (q : Int) % 256 = (x2.toNat : Int) := by rw [← hx2, UInt8.toNat_ofNat']; omega
        have ex1' : Int.tdiv (q : Int) 256 = (x1.toNat : Int) := by rw [Int.tdiv_eq_ediv_of_nonneg (by omega)]; exact ex1
        have ex2' : Int.tmod (q : Int) 256 = (x2.toNat : Int) := by rw [Int.tmod_eq_emod_of_nonneg (by omega)]; exact ex2
        have em0 := u8_mod x0
        have em1 := u8_mod x1
        have em2 := u8_mod x2
        have hl3 : (Win.three (x, y)).length = 3 := rfl
        rw [hl3] at hlen3
        rw [hth] at hup3
        have Hup3 := Lib.hid hup3
        have hd4 : decide ((x : Int) < 4) = false := by simp only [decide_eq_false_iff_not]; omega
        have hd4' : decide (x < 4) = false := by simp only [decide_eq_false_iff_not]; omega
        have hd5 : decide ((4 : Int) ≤ (x : Int)) = true := by simp only [decide_eq_true_eq]; omega
        have hd5' : decide (4 ≤ x) = true := by simp only [decide_eq_true_eq]; omega
        have hroom3 : (done ++ Win.lits rest).length + 3 ≤ 225179981368371 := by rw [List.length_append]; omega
        clear hup2 hup3 hm hmb hxy hx0 hx1 hx2 hq hth
        by_cases h0 : rest.length = 0
        · have hre : rest = [] := List.eq_nil_of_length_eq_zero h0
          subst hre
          rw [Win.lits_nil, List.append_nil] at hroom3
          have hup4 : Win.Up s.data.toList (p + x) (done ++ [x0, x1, x2]) [] := by have := Hup3.out; rw [Win.lits_nil, List.append_nil] at this; exact this
          have Hup4 := Lib.hid hup4
          clear hup4 Hup3 h0
          go_wp2_with fail
          refine (best_any kn p _ hkn64 (by omega)).mono ?_
          rintro e w2 ⟨rfl, n2, rfl⟩
          rw [Hv.out]
          have hTq := HT.out.drewN n2
          have hBq := bel_drewN HB.out n2
          generalize wr.drewN n2 = wq at *
          have HTq := Lib.hid hTq
          have HBq := Lib.hid hBq
          clear hTq hBq
          go_wp2_with (at_builtin; refine wpList_two _ rfl (.tmp 67) (.tmp 79) 48 48 rfl w.heap.size i0 Tryd.underlying48 Hi.out Hz0.out Hz1.out Hz2.out _ _ _ _ rfl (HTq.out.alloc _) _ 3 [x0, x1, x2] rfl rfl (src_three _ 48 5 Tryd.underlying48 5 x0 x1 x2) ?c3 ?c4 ?_)
          case c3 => exact hroom3
          case c4 => simp; have := HBq.out.size; omega
          intro vb wb hTb hbb
          have hbb2 := (HBq.out.alloc HBq.out.size (.cells #[.int .u8 (x0.toNat : Int), .int .u8 (x1.toNat : Int), .int .u8 (x2.toNat : Int)] 5)).trans hbb
          have HTb := Lib.hid hTb
          have HBb := Lib.hid hbb2
          clear hTb hbb hbb2
          go_wp2_with fail
          exact ⟨⟨p + x, _, _, by go_num, Hup4.out, by simp, fun _ => rfl, HTb.out, HBb.out⟩, by simp [intOf]; omega⟩
        · skip
          obtain ⟨y8, hy8⟩ : ∃ y8, UInt8.ofNat (rest.length - 1) = y8 := ⟨_, rfl⟩
          have ey8 : (rest.length : Int) - 1 = (y8.toNat : Int) := by rw [← hy8, UInt8.toNat_ofNat']; omega
          have em8 := u8_mod y8
          have hlo := Win.lits_one (l := rest) (by omega) (by omega)
          rw [hy8] at hlo
          rw [hlo] at hroom3 hlen3
          have hup4 : Win.Up s.data.toList (p + x) (done ++ [y8] ++ rest ++ [x0, x1, x2]) [] := by have := Hup3.out; rw [hlo] at this; simpa using this
          rw [List.length_append, List.length_cons] at hroom3
          have hroom1 : done.length + 1 ≤ 225179981368371 := by omega
          have hroom2 : done.length + [y8].length + rest.length ≤ 225179981368371 := by simp only [List.length_cons, List.length_nil]; omega
          have hroom4 : (done ++ y8 :: rest).length + 3 ≤ 225179981368371 := by simp only [List.length_append, List.length_cons, List.length_nil]; omega
          have hd0 : decide ((0 : Int) < (rest.length : Int)) = true := by simp only [decide_eq_true_eq]; omega
          have hd0' : decide (0 < rest.length) = true := by simp only [decide_eq_true_eq]; omega
          have Hup4 := Lib.hid hup4
          clear hup4 Hup3 hlo hy8
          go_wp2_with fail
          refine (best_any kn p _ hkn64 (by omega)).mono ?_
          rintro e w2 ⟨rfl, n2, rfl⟩
          rw [Hv.out]
          have hTq := HT.out.drewN n2
          have hBq := bel_drewN HB.out n2
          generalize wr.drewN n2 = wq at *
          have HTq := Lib.hid hTq
          have HBq := Lib.hid hBq
          clear hTq hBq
          go_wp2_with (at_builtin; refine wpList_two _ rfl (.tmp 54) (.tmp 59) 48 48 rfl w.heap.size i0 Tryd.underlying48 Hi.out Hz0.out Hz1.out Hz2.out _ _ _ _ rfl (HTq.out.alloc _) _ 1 [y8] rfl rfl (src_one _ 48 5 Tryd.underlying48 5 y8) ?c3 ?c4 ?_)
          case c3 => exact hroom1
          case c4 => simp; have := HBq.out.size; omega
          intro vb wb hTb hbb
          have hbb2 := (HBq.out.alloc HBq.out.size (.cells #[.int .u8 (y8.toNat : Int)] 5)).trans hbb
          have HTb := Lib.hid hTb
          have HBb := Lib.hid hbb2
          clear hTb hbb hbb2
          go_wp2_with (at_builtin; refine wpList_two _ rfl (.tmp 61) (.tmp 62) 48 48 rfl w.heap.size i0 Tryd.underlying48 Hi.out Hz0.out Hz1.out Hz2.out _ _ _ _ rfl HTb.out _ _ rest rfl rfl (HTb.out.src 48 5 Tryd.underlying48) ?c3 ?c4 ?_)
          case c3 => rw [List.length_append]; exact hroom2
          case c4 => exact HBb.out.size
          intro vc wc hTc hbc
          have hbc2 := HBb.out.trans hbc
          have hTd := hTc.fresh hbc2.size
          have hbd := hbc2.alloc hbc2.size (.cells #[] 5)
          obtain ⟨⟨gc, kc, hvc⟩, _⟩ := hTc.form
          subst hvc
          have HTd := Lib.hid hTd
          have HBd := Lib.hid hbd
          clear hTc hbc hbc2 hTd hbd HTb HBb
          go_wp2_with (at_builtin; refine wpList_two _ rfl (.tmp 67) (.tmp 79) 48 48 rfl w.heap.size i0 Tryd.underlying48 Hi.out Hz0.out Hz1.out Hz2.out _ _ _ _ rfl (HTd.out.alloc _) _ 3 [x0, x1, x2] rfl rfl (src_three_at _ _ (by simp) 48 5 Tryd.underlying48 5 x0 x1 x2) ?c3 ?c4 ?_)
          case c3 => exact hroom4
          case c4 => have := HBd.out.size; simp at this ⊢; omega
          intro vb wb hTb hbb
          have hbb2 := (HBd.out.alloc HBd.out.size (.cells #[.int .u8 (x0.toNat : Int), .int .u8 (x1.toNat : Int), .int .u8 (x2.toNat : Int)] 5)).trans hbb
          have HTb := Lib.hid hTb
          have HBb := Lib.hid hbb2
          clear hTb hbb hbb2
          go_wp2_with fail
          refine ⟨⟨p + x, _, _, by go_num, ?_, by simp, fun _ => rfl, HTb.out, HBb.out⟩, by simp [intOf]; omega⟩
          have := Hup4.out
          simpa using this
      · skip
        have hm : (Win.mat kn.data.toList p).1 = 0 := hmb.2 h4
        have htk := take_one (l := kn.data.toList) (q := p) hlt
        have hup2 := Hup.out.one (by rw [Hkl.out]; exact hlt) (by rw [← Hknl.out]; exact hm)
        rw [← Hknl.out, htk] at hup2
        obtain ⟨c, hc⟩ : ∃ c, kn.data.toList[p] = c := ⟨_, rfl⟩
        rw [hc] at hup2
        have hc2 : kn[p] = c := hc
        have hplt : (p : Int) < kn.size := by omega
        have hd4 : decide ((x : Int) < 4) = true := by simp only [decide_eq_true_eq]; omega
        have hd4' : decide (x < 4) = true := by simp only [decide_eq_true_eq]; omega
        have hd5 : decide ((4 : Int) ≤ (x : Int)) = false := by simp only [decide_eq_false_iff_not]; omega
        have hd5' : decide (4 ≤ x) = false := by simp only [decide_eq_false_iff_not]; omega
        have hroom0 : rest.length + 1 ≤ 225179981368371 := by omega
        have Hup2 := Lib.hid hup2
        clear hmb hxy hup2 hm htk hc
        go_wp2_with fail
        refine (best_any kn p _ hkn64 (by omega)).mono ?_
        rintro e w2 ⟨rfl, n2, rfl⟩
        rw [Hv.out]
        have hTq := HT.out.drewN n2
        have hBq := bel_drewN HB.out n2
        generalize wr.drewN n2 = wq at *
        have HTq := Lib.hid hTq
        have HBq := Lib.hid hBq
        clear hTq hBq
        go_wp2_with (at_builtin; refine wpList_two _ rfl (.tmp 28) (.tmp 32) 48 48 rfl w.heap.size i0 Tryd.underlying48 Hi.out Hz0.out Hz1.out Hz2.out _ _ _ _ rfl (HTq.out.swap.alloc _) _ 1 [c] rfl rfl (src_one _ 48 5 Tryd.underlying48 5 c) ?c3 ?c4 ?_)
        case c3 => exact hroom0
        case c4 => simp; have := HBq.out.size; omega
        intro vr2 wr2 hTr hbr
        have hbr2 := (HBq.out.alloc HBq.out.size (.cells #[.int .u8 (c.toNat : Int)] 5)).trans hbr
        have hTr2 := hTr.swap
        obtain ⟨R1, hR1⟩ : ∃ R1, rest ++ [c] = R1 := ⟨_, rfl⟩
        have hRl : R1.length = rest.length + 1 := by rw [← hR1]; simp
        have hR0 : 1 ≤ R1.length := by omega
        obtain ⟨p1, hp1e⟩ : ∃ p1, p + 1 = p1 := ⟨_, rfl⟩
        have ep1 : (p : Int) + 1 = (p1 : Int) := by omega
        have hup3 := Hup2.out
        rw [hR1] at hTr2 hup3
        rw [hp1e] at hup3
        have hdl3 := hup3.len
        rw [hlen] at hdl3
        obtain ⟨_, gr2, cr2, hvr2⟩ := hTr2.form
        subst hvr2
        have HTr := Lib.hid hTr2
        have HBr := Lib.hid hbr2
        have Hup3 := Lib.hid hup3
        have HR1 := Lib.hid hR1
        have hd0 : decide ((0 : Int) < (R1.length : Int)) = true := by simp only [decide_eq_true_eq]; omega
        have hd0' : decide (0 < R1.length) = true := by simp only [decide_eq_true_eq]; omega
        have hR63 : (R1.length : Int) ≤ 128 := by omega
        have hp1l : p1 ≤ kn.size := by omega
        have hpp1 : p < p1 := by omega
        have HRl := Lib.hid hRl
        have Hp1e := Lib.hid hp1e
        clear hTr hbr hTr2 hbr2 hup3 hR1 Hup2 hp1e hRl
        by_cases hR128 : R1.length = 128
        · skip
          have hq128a : (((R1.length : Int) == (128 : Int)) : Bool) = true := by simp; omega
          have hq128b : decide ((R1.length : Int) = (128 : Int)) = true := by simp only [decide_eq_true_eq]; omega
          obtain ⟨y8, hy8⟩ : ∃ y8, UInt8.ofNat (R1.length - 1) = y8 := ⟨_, rfl⟩
          have ey8 : (R1.length : Int) - 1 = (y8.toNat : Int) := by rw [← hy8, UInt8.toNat_ofNat']; omega
          have em8 := u8_mod y8
          have hlo := Win.lits_one (l := R1) (by omega) (by omega)
          rw [hy8] at hlo
          have hup4 : Win.Up s.data.toList p1 (done ++ y8 :: R1) [] := by have := Hup3.out.flush hR128; rw [hR128] at hy8; rw [← hy8]; simpa using this
          have hroom1 : done.length + 1 ≤ 225179981368371 := by omega
          have hroom2 : done.length + [y8].length + R1.length ≤ 225179981368371 := by simp only [List.length_cons, List.length_nil]; omega
          have Hup4 := Lib.hid hup4
          clear hup4 hlo hy8
          have HR128 := Lib.hid hR128
          clear hR128
          go_wp2_with (at_builtin; refine wpList_two _ rfl (.tmp 54) (.tmp 59) 48 48 rfl w.heap.size i0 Tryd.underlying48 Hi.out Hz0.out Hz1.out Hz2.out _ _ _ _ rfl (HTr.out.alloc _) _ 1 [y8] rfl rfl (src_one _ 48 5 Tryd.underlying48 5 y8) ?c3 ?c4 ?_)
          case c3 => exact hroom1
          case c4 => simp; have := HBr.out.size; omega
          intro vb wb hTb hbb
          have hbb2 := (HBr.out.alloc HBr.out.size (.cells #[.int .u8 (y8.toNat : Int)] 5)).trans hbb
          have HTb := Lib.hid hTb
          have HBb := Lib.hid hbb2
          clear hTb hbb hbb2
          go_wp2_with (at_builtin; refine wpList_two _ rfl (.tmp 61) (.tmp 62) 48 48 rfl w.heap.size i0 Tryd.underlying48 Hi.out Hz0.out Hz1.out Hz2.out _ _ _ _ rfl HTb.out _ _ R1 rfl rfl (HTb.out.src 48 5 Tryd.underlying48) ?c3 ?c4 ?_)
          case c3 => rw [List.length_append]; exact hroom2
          case c4 => exact HBb.out.size
          intro vc wc hTc hbc
          have hbc2 := HBb.out.trans hbc
          have hTd := hTc.fresh hbc2.size
          have hbd := hbc2.alloc hbc2.size (.cells #[] 5)
          obtain ⟨⟨gc, kc, hvc⟩, _⟩ := hTc.form
          subst hvc
          have HTd := Lib.hid hTd
          have HBd := Lib.hid hbd
          clear hTc hbc hbc2 hTd hbd HTb HBb
          go_wp2_with fail
          exact ⟨⟨p1, _, _, by go_num, Hup4.out, by simp, fun _ => rfl, HTd.out, HBd.out⟩, by simp [intOf]; omega⟩
        · by_cases hpe : p1 = kn.size
          · skip
            have hq128a : (((R1.length : Int) == (128 : Int)) : Bool) = false := by simp; omega
            have hq128b : decide ((R1.length : Int) = (128 : Int)) = false := by simp only [decide_eq_false_iff_not]; omega
            have hqea : (((p1 : Int) == (kn.size : Int)) : Bool) = true := by simp; omega
            have hqeb : decide ((p1 : Int) = (kn.size : Int)) = true := by simp only [decide_eq_true_eq]; omega
            obtain ⟨y8, hy8⟩ : ∃ y8, UInt8.ofNat (R1.length - 1) = y8 := ⟨_, rfl⟩
            have ey8 : (R1.length : Int) - 1 = (y8.toNat : Int) := by rw [← hy8, UInt8.toNat_ofNat']; omega
            have em8 := u8_mod y8
            have hlo := Win.lits_one (l := R1) (by omega) (by omega)
            rw [hy8] at hlo
            have hup4 : Win.Up s.data.toList p1 (done ++ y8 :: R1) [] := by have := Hup3.out.last (by rw [Hkl.out]; omega); rw [hlo] at this; simpa using this
            have hroom1 : done.length + 1 ≤ 225179981368371 := by omega
            have hroom2 : done.length + [y8].length + R1.length ≤ 225179981368371 := by simp only [List.length_cons, List.length_nil]; omega
            have Hup4 := Lib.hid hup4
            clear hup4 hlo hy8
            have Hpe := Lib.hid hpe
            clear hpe
            go_wp2_with (at_builtin; refine wpList_two _ rfl (.tmp 54) (.tmp 59) 48 48 rfl w.heap.size i0 Tryd.underlying48 Hi.out Hz0.out Hz1.out Hz2.out _ _ _ _ rfl (HTr.out.alloc _) _ 1 [y8] rfl rfl (src_one _ 48 5 Tryd.underlying48 5 y8) ?c3 ?c4 ?_)
            case c3 => exact hroom1
            case c4 => simp; have := HBr.out.size; omega
            intro vb wb hTb hbb
            have hbb2 := (HBr.out.alloc HBr.out.size (.cells #[.int .u8 (y8.toNat : Int)] 5)).trans hbb
            have HTb := Lib.hid hTb
            have HBb := Lib.hid hbb2
            clear hTb hbb hbb2
            go_wp2_with (at_builtin; refine wpList_two _ rfl (.tmp 61) (.tmp 62) 48 48 rfl w.heap.size i0 Tryd.underlying48 Hi.out Hz0.out Hz1.out Hz2.out _ _ _ _ rfl HTb.out _ _ R1 rfl rfl (HTb.out.src 48 5 Tryd.underlying48) ?c3 ?c4 ?_)
            case c3 => rw [List.length_append]; exact hroom2
            case c4 => exact HBb.out.size
            intro vc wc hTc hbc
            have hbc2 := HBb.out.trans hbc
            have hTd := hTc.fresh hbc2.size
            have hbd := hbc2.alloc hbc2.size (.cells #[] 5)
            obtain ⟨⟨gc, kc, hvc⟩, _⟩ := hTc.form
            subst hvc
            have HTd := Lib.hid hTd
            have HBd := Lib.hid hbd
            clear hTc hbc hbc2 hTd hbd HTb HBb
            go_wp2_with fail
            exact ⟨⟨p1, _, _, by go_num, Hup4.out, by simp, fun _ => rfl, HTd.out, HBd.out⟩, by simp [intOf]; omega⟩
          · skip
            have hq128a : (((R1.length : Int) == (128 : Int)) : Bool) = false := by simp; omega
            have hq128b : decide ((R1.length : Int) = (128 : Int)) = false := by simp only [decide_eq_false_iff_not]; omega
            have hqea : (((p1 : Int) == (kn.size : Int)) : Bool) = false := by simp; omega
            have hqeb : decide ((p1 : Int) = (kn.size : Int)) = false := by simp only [decide_eq_false_iff_not]; omega
            go_wp2_with fail
            exact ⟨⟨p1, _, _, by go_num, Hup3.out, by have := HRl.out; omega, fun e => absurd e hpe, HTr.out, HBr.out⟩, by simp [intOf]; omega⟩
    · have hpk : p = kn.size := by omega
      have hre := Hrl.out hpk
      subst hre
      have hfin := Hup.out.stop (by rw [Hkl.out]; omega)
      rw [Win.lits_nil, List.append_nil] at hfin
      have hcv := HT.out.text (P := Tryd.prog) 48 Tryd.underlying48 (by kernel_rfl) 9 (by kernel_rfl)
      have Hfin := Lib.hid hfin
      have Hpk := Lib.hid hpk
      clear hfin hpk
      go_wp2_with fail
      go_ret
      rw [Hfin.out]
      exact ⟨rfl, HB.out⟩
end Go.Proofs.YtinciddchpccnaaDoor
