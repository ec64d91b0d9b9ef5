/- What later texts need of the earlier layers. -/
import Derived.Test.YtinciddchpccnaaDoorBxO
import Derived.Test.YtinciddchpccnaaDoorWinMath
import Derived.Test.YtinciddchpccnaaDoorWinNum
import Derived.Test.YtinciddchpccnaaDoorOwnApp
import Derived.Test.YtinciddchpccnaaDoorWinOwn
import Derived.Test.YtinciddchpccnaaDoorWinOwn8
import Derived.Test.YtinciddchpccnaaDoorWinPack
import Derived.Test.YtinciddchpccnaaDoorWinUn
import Derived.Test.YtinciddchpccnaaDoorWinAgain
import Derived.Test.YtinciddchpccnaaDoorWinUp
import Derived.Laws.IdiomStrings
set_option maxRecDepth 100000
/- ---- WinRup ---- -/
/- The reference of layer 7: Unpack. -/
namespace Go.Proofs.YtinciddchpccnaaDoor
open Go.RowKit
set_option linter.unusedVariables false
set_option linter.unusedSimpArgs false

def stB : ByteArray := ⟨Win.static.toArray⟩
set_option maxHeartbeats 400000 in
theorem static_any (w : World) : Calls Tryd.prog 78 #[] w fun e w' => e = .returned (.string stB) ∧ w = w' := by
  go_enter Tryd.func78, Tryd.ntmps78
  go_wp2_with fail
  go_ret
  exact ⟨rfl, rfl⟩
set_option maxRecDepth 20000 in
set_option maxHeartbeats 1600000 in
theorem refUnpack_pos (s : ByteArray) (M : Nat) (w : World) (hs : s.size ≤ 140737488351232) (hM : (M : Int) ≤ 9223372036854775807) (hroom : M ≤ 200000000000000 ∨ s.size ≤ 4000000000000) :
    Calls Tryd.prog 73 #[.string s, .int .i64 (M : Int)] w fun e w' => e = .returned (upV s.data.toList M) ∧ Below w.heap.size w w' := by
  obtain ⟨i0, hi, hz0, hz1, hz2⟩ := info_parts r8_info
  have Hi := Lib.hid hi; clear hi
  have Hz0 := Lib.hid hz0; clear hz0
  have Hz1 := Lib.hid hz1; clear hz1
  have Hz2 := Lib.hid hz2; clear hz2
  have hlen : s.data.toList.length = s.size := rfl
  have hd0 : decide ((M : Int) < 0) = false := by simp
  obtain ⟨st, hst⟩ : ∃ st, stB = st := ⟨_, rfl⟩
  have hstz : st.size = 68 := by rw [← hst]; rfl
  have hstl : st.data.toList = Win.static := by rw [← hst]; rfl
  have hcs := Lib.run_convert_string_bytes (P := Tryd.prog) w 9 48 5 st Tryd.underlying9 Tryd.underlying48 Tryd.underlying5
  have ho := Own8.of_string w 5 st (by rw [hstz]; unfold maxLen; omega)
  have hb0 := below_bytes w 5 st
  rw [hstl] at ho
  rw [hstz] at ho hcs
  generalize Lib.bytesWorld w 5 st = w0 at *
  generalize grownCap w 68 0 5 = cap0 at *
  have Hst := Lib.hid hst
  have Ho := Lib.hid ho
  have Hb0 := Lib.hid hb0
  clear hst hstz hstl ho hb0
  go_enter Tryd.func73, Tryd.ntmps73
  go_wp2_with fail
  refine (static_any _).mono ?_
  rintro e w1 ⟨rfl, rfl⟩
  rw [Hst.out]
  go_wp2_with fail
  clear hcs
  go_loopw [6, 8] (fun v i wr => ∃ (k : Nat) (bs : List UInt8), i = .int .i64 k ∧ Win.Soon s.data.toList M k bs ∧ Own8 wr w.heap.size v bs ∧ Below w.heap.size w wr) (fun _ i _ => s.size - (intOf i).toNat)
  case atStart => exact ⟨0, Win.static, rfl, Win.Soon.start _ _, Ho.out, Hb0.out⟩
  case round =>
    obtain ⟨k, bs, rfl, hso, hown, hbel⟩ := hrel
    have hk := hso.1
    have hb68 := hso.2.1
    have hbM := hso.2.2.1
    have hb44 := hso.2.2.2.1
    rw [hlen] at hk
    obtain ⟨g, cv, hv, hcv1, hcv2⟩ := hown.form
    subst hv
    have hcv3 : (bs.length : Int) ≤ (cv : Int) := by omega
    have Hown := Lib.hid hown
    have Hbel := Lib.hid hbel
    have Hso := Lib.hid hso
    clear hown hbel hso
    by_cases hlt : k < s.size
    · have hx : s.data.toList.drop k = s[k] :: s.data.toList.drop (k + 1) := List.drop_eq_getElem_cons (by rw [hlen]; exact hlt)
      have hrl : (s.data.toList.drop (k + 1)).length = s.size - (k + 1) := by rw [List.length_drop, hlen]
      have hc256 := (s[k]).toNat_lt
      have hs1 : ((s.size : Int) ≤ 140737488351232) := by omega
      have hki : (k : Int) ≤ 140737488351232 := by omega
      have hbs : (bs.length : Int) ≤ 7000000000000000 := by omega
      by_cases hc : s[k].toNat < 128
      · have hn1 : (((s[k].toNat : Int) == 255) : Bool) = false := by simp; omega
        have hn2 : decide ((s[k].toNat : Int) = 255) = false := by simp only [decide_eq_false_iff_not]; omega
        have hn3 : decide (s[k].toNat = 255) = false := by simp only [decide_eq_false_iff_not]; omega
        have hd1 : decide ((s[k].toNat : Int) < (128 : Int)) = true := by simp only [decide_eq_true_eq]; omega
        have hd1' : decide (s[k].toNat < 128) = true := by simp only [decide_eq_true_eq]; omega
        by_cases h1 : s.size - (k + 1) < s[k].toNat + 1
        · have hr := upV_err _ _ _ (Hso.out.litShort hx hc (by rw [hrl]; exact h1))
          have Hr := Lib.hid hr
          have hd2 : decide ((s.size : Int) < (k : Int) + (s[k].toNat : Int) + 2) = true := by simp only [decide_eq_true_eq]; omega
          clear hr hx hrl
          go_wp2_with fail
          go_ret2
          rw [Hr.out]
          exact ⟨rfl, Hbel.out⟩
        · have hd2 : decide ((s.size : Int) < (k : Int) + (s[k].toNat : Int) + 2) = false := by simp only [decide_eq_false_iff_not]; omega
          by_cases h2 : M - (bs.length - 68) < s[k].toNat + 1
          · have hr := upV_err _ _ _ (Hso.out.litBig hx hc (by rw [hrl]; exact h1) h2)
            have Hr := Lib.hid hr
            have hd3 : decide ((M : Int) < (bs.length : Int) - 68 + (s[k].toNat : Int) + 1) = true := by simp only [decide_eq_true_eq]; omega
            clear hr hx hrl
            go_wp2_with fail
            go_ret2
            rw [Hr.out]
            exact ⟨rfl, Hbel.out⟩
          · have hso2 := Hso.out.lit hx hc (by rw [hrl]; exact h1) h2
            have hd3 : decide ((M : Int) < (bs.length : Int) - 68 + (s[k].toNat : Int) + 1) = false := by simp only [decide_eq_false_iff_not]; omega
            have ht : ((s.data.toList.drop (k + 1)).take (s[k].toNat + 1)).length = s[k].toNat + 1 := by rw [List.length_take, hrl]; omega
            have hb1 := hso2.2.2.1
            have hb2 := hso2.2.2.2.1
            rw [List.length_append, ht] at hb1 hb2
            have hcut : ∀ W : World, (Instr.slice 9 (.string s) (some (.int .i64 ((k : Int) + 1))) (some (.int .i64 ((k : Int) + (s[k].toNat : Int) + 2))) none).run Tryd.prog W = .ok (S ((s.data.toList.drop (k + 1)).take (s[k].toNat + 1))) W := by
              intro W
              rw [run_slice_string W 9 s .i64 .i64 _ _ (by kernel_rfl) (by omega) (by omega) (by omega)]
              have e1 : ((k : Int) + 1).toNat = k + 1 := by omega
              have e2 : ((k : Int) + (s[k].toNat : Int) + 2).toNat = (k + 1) + (s[k].toNat + 1) := by omega
              rw [e1, e2, extract_list]
            generalize (s.data.toList.drop (k + 1)).take (s[k].toNat + 1) = tk at *
            have hS : ∀ W : World, Src Tryd.prog 1 9 (S tk) tk.length (bytesV tk) W := fun W => Src.ofString W (by kernel_rfl) ⟨tk.toArray⟩
            have hwb := Hbel.out.size
            have Hso2 := Lib.hid hso2
            have Ht := Lib.hid ht
            clear hso2 hx hrl ht
            go_wp2_with (at_builtin; refine wpList_app8 _ rfl (.tmp 46) (.tmp 54) 48 9 rfl w.heap.size 5 i0 Tryd.underlying48 Hi.out Hz0.out Hz1.out Hz2.out _ _ rfl Hown.out (S tk) tk.length tk rfl rfl (hS _) ?l1 ?l2 ?_)
            case l1 => rw [Ht.out]; omega
            case l2 => exact hwb
            intro v3 w3 hown3 hbel3
            have hbel4 := Hbel.out.trans hbel3
            have Hown3 := Lib.hid hown3
            have Hbel3 := Lib.hid hbel4
            clear hown3 hbel3 hbel4 hcut hS
            go_wp2_with fail
            refine ⟨⟨_, _, ?_, Hso2.out, Hown3.out, Hbel3.out⟩, by simp [intOf]; omega⟩
            go_num
      · have hd1 : decide ((s[k].toNat : Int) < (128 : Int)) = false := by simp only [decide_eq_false_iff_not]; omega
        have hd1' : decide (s[k].toNat < 128) = false := by simp only [decide_eq_false_iff_not]; omega
        by_cases h255 : s[k].toNat = 255
        · have hr := upV_err _ _ _ (Hso.out.none_ hx h255)
          have Hr := Lib.hid hr
          have hn1 : (((s[k].toNat : Int) == 255) : Bool) = true := by simp; omega
          have hn2 : decide ((s[k].toNat : Int) = 255) = true := by simp only [decide_eq_true_eq]; omega
          have hn3 : decide (s[k].toNat = 255) = true := by simp only [decide_eq_true_eq]; omega
          have H255 := Lib.hid h255
          clear hr hx hrl h255
          go_wp2_with fail
          go_ret2
          rw [Hr.out]
          exact ⟨rfl, Hbel.out⟩
        · have hn1 : (((s[k].toNat : Int) == 255) : Bool) = false := by simp; omega
          have hn2 : decide ((s[k].toNat : Int) = 255) = false := by simp only [decide_eq_false_iff_not]; omega
          have hn3 : decide (s[k].toNat = 255) = false := by simp only [decide_eq_false_iff_not]; omega
          by_cases h1 : k + 2 < s.size
          · have hd2 : decide ((s.size : Int) < (k : Int) + 3) = false := by simp only [decide_eq_false_iff_not]; omega
            have h1l : k + 1 < s.data.toList.length := by rw [hlen]; omega
            have h2l : k + 1 + 1 < s.data.toList.length := by rw [hlen]; omega
            have e1 := List.drop_eq_getElem_cons h1l
            have e2 := List.drop_eq_getElem_cons h2l
            rw [e1, e2] at hx
            have hxe : s.data.toList[k + 1] = s[k + 1] := rfl
            have hye : s.data.toList[k + 1 + 1] = s[k + 2] := rfl
            rw [hxe, hye] at hx
            clear hxe hye e1 e2
            have hx8 := s[k + 1].toNat_lt
            have hy8 := s[k + 2].toNat_lt
            obtain ⟨E, hE⟩ : ∃ E, s[k + 1].toNat * 256 + s[k + 2].toNat = E := ⟨_, rfl⟩
            have eE : (s[k + 1].toNat : Int) * 256 + (s[k + 2].toNat : Int) = (E : Int) := by omega
            have hE16 : (E : Int) ≤ 65535 := by omega
            have h1i : (k : Int) + 1 < s.size := by omega
            have h2i : (k : Int) + 2 < s.size := by omega
            have hk1 : k + 1 < s.size := by omega
            have W1 := Lib.hid (show IntKind.i64.wrap ((k : Int) + 1) = (k : Int) + 1 from IntWalk.i64_in _ (by omega))
            have T1 := Lib.hid (show ((k : Int) + 1).toNat = k + 1 by omega)
            have W2 := Lib.hid (show IntKind.i64.wrap ((k : Int) + 2) = (k : Int) + 2 from IntWalk.i64_in _ (by omega))
            have T2 := Lib.hid (show ((k : Int) + 2).toNat = k + 2 by omega)
            have p1 : 0 ≤ (k : Int) + 1 := by omega
            have p2 : 0 ≤ (k : Int) + 2 := by omega
            by_cases h3 : 32768 < E + 1 ∨ bs.length < E + 1
            · have hr := upV_err _ _ _ (Hso.out.matForm hx hc h255 (by rw [hE]; exact h3))
              have Hr := Lib.hid hr
              have HE := Lib.hid hE
              by_cases h4 : 32768 ≤ E
              · have hd6 : decide ((32768 : Int) ≤ (E : Int)) = true := by simp only [decide_eq_true_eq]; omega
                have hd6' : decide (32768 ≤ E) = true := by simp only [decide_eq_true_eq]; omega
                clear hr hx hrl hE h3
                go_wp2_with fail
                have w1 := W1.out; have t1 := T1.out; have w2 := W2.out; have t2 := T2.out
                go_quiet (fail)
                clear w1 w2
                go_wp2_with fail
                go_ret2
                rw [Hr.out]
                exact ⟨rfl, bel_drewN Hbel.out _⟩
              · have hd6 : decide ((32768 : Int) ≤ (E : Int)) = false := by simp only [decide_eq_false_iff_not]; omega
                have hd6' : decide (32768 ≤ E) = false := by simp only [decide_eq_false_iff_not]; omega
                have hd7 : decide ((bs.length : Int) < (E : Int) + 1) = true := by simp only [decide_eq_true_eq]; omega
                have hd7' : decide (bs.length < E + 1) = true := by simp only [decide_eq_true_eq]; omega
                clear hr hx hrl hE h3
                go_wp2_with fail
                have w1 := W1.out; have t1 := T1.out; have w2 := W2.out; have t2 := T2.out
                go_quiet (fail)
                clear w1 w2
                go_wp2_with fail
                go_ret2
                rw [Hr.out]
                exact ⟨rfl, bel_drewN Hbel.out _⟩
            · have hd6 : decide ((32768 : Int) ≤ (E : Int)) = false := by simp only [decide_eq_false_iff_not]; omega
              have hd6' : decide (32768 ≤ E) = false := by simp only [decide_eq_false_iff_not]; omega
              have hd7 : decide ((bs.length : Int) < (E : Int) + 1) = false := by simp only [decide_eq_false_iff_not]; omega
              have hd7' : decide (bs.length < E + 1) = false := by simp only [decide_eq_false_iff_not]; omega
              obtain ⟨N, hN⟩ : ∃ N, s[k].toNat - 124 = N := ⟨_, rfl⟩
              have hNi : (s[k].toNat : Int) - 124 = (N : Int) := by omega
              by_cases h5 : M - (bs.length - 68) < N
              · have hr := upV_err _ _ _ (Hso.out.matBig hx hc h255 (by rw [hE]; exact h3) (by rw [hN]; exact h5))
                have Hr := Lib.hid hr
                have HE := Lib.hid hE
                have HN := Lib.hid hN
                have hd3 : decide ((M : Int) < (bs.length : Int) - 68 + (s[k].toNat : Int) - 124) = true := by simp only [decide_eq_true_eq]; omega
                clear hr hx hrl hE hN h3
                go_wp2_with fail
                have w1 := W1.out; have t1 := T1.out; have w2 := W2.out; have t2 := T2.out
                go_quiet (fail)
                clear w1 w2
                go_wp2_with fail
                go_ret2
                rw [Hr.out]
                exact ⟨rfl, bel_drewN Hbel.out _⟩
              · have hso2 := Hso.out.mat hx hc h255 (by rw [hE]; exact h3) (by rw [hN]; exact h5)
                rw [hE, hN] at hso2
                have hal := Win.again_len (K := bs) (d := E + 1) (by omega) (by omega) N
                have hb1 := hso2.2.2.1
                have hb2 := hso2.2.2.2.1
                rw [hal] at hb1 hb2
                have hbound : bs.length + N ≤ 225179981368371 := by omega
                have hE1 : E + 1 ≤ bs.length := by omega
                have Hso2 := Lib.hid hso2
                have HE := Lib.hid hE
                have HN := Lib.hid hN
                have hd3 : decide ((M : Int) < (bs.length : Int) - 68 + (s[k].toNat : Int) - 124) = false := by simp only [decide_eq_false_iff_not]; omega
                clear hso2 hx hrl hE hN h3 hal
                go_wp2_with fail
                have w1 := W1.out; have t1 := T1.out; have w2 := W2.out; have t2 := T2.out
                go_quiet (fail)
                clear w1 w2
                have hbq := bel_drewN Hbel.out nq
                have hoq : Own8 (wr.drewN nq) w.heap.size (.slice (some ⟨g, 0, none⟩) bs.length cv) bs := Hown.out.below (bel_drewN (Below.refl _ _) nq)
                generalize wr.drewN nq = wq at *
                have Hbq := Lib.hid hbq
                have Hoq := Lib.hid hoq
                clear hbq hoq
                go_wp2_with fail
                generalize wr = wo at *
                go_loopw [6, 11] (fun v j wr => ∃ q : Nat, q ≤ N ∧ j = .int .i64 q ∧ Own8 wr w.heap.size v (Win.again bs (E + 1) q) ∧ Below w.heap.size w wr) (fun _ j _ => N - (intOf j).toNat)
                case atStart => exact ⟨0, Nat.zero_le _, rfl, Hoq.out, Hbq.out⟩
                case round =>
                  obtain ⟨q, hq, rfl, hown2, hbel2⟩ := hrel
                  have hal := Win.again_len (K := bs) (d := E + 1) (by omega) hE1 q
                  have has := Win.again_succ bs (E + 1) q
                  have hwb2 : w.heap.size ≤ wr.heap.size := hbel2.size
                  by_cases hqN : q < N
                  · have hqi : (q : Int) < N := by omega
                    have hq8 : (q : Int) + 1 ≤ 131 := by have := HN.out; omega
                    obtain ⟨g2, cp2, hv2, hcp1, hcp2⟩ := hown2.form
                    subst hv2
                    generalize Win.again bs (E + 1) q = L at *
                    obtain ⟨p, hp⟩ : ∃ p, p = L.length - (E + 1) := ⟨_, rfl⟩
                    obtain ⟨p', hp'⟩ : ∃ p', p' = L.length - E := ⟨_, rfl⟩
                    have ep : (L.length : Int) - (E : Int) = (p' : Int) := by omega
                    have ep' : (p' : Int) - 1 = (p : Int) := by omega
                    have hp63 : (p' : Int) ≤ 225179981368371 := by omega
                    have hpl : p < L.length := by omega
                    have hpi : (p : Int) < L.length := by omega
                    have hc2 := hown2.at_ p hpl
                    rw [← hp, take_one hpl] at has
                    have hbound2 : L.length + 1 ≤ 225179981368371 := by omega
                    have hL31 : (L.length : Int) ≤ 225179981368371 := by omega
                    obtain ⟨x, hx⟩ : ∃ x, L[p] = x := ⟨_, rfl⟩
                    rw [hx] at has hc2
                    have hx8 := x.toNat_lt
                    have Hbel2 := Lib.hid hbel2
                    have Has := Lib.hid has
                    have Hal := Lib.hid hal
                    have Hp := Lib.hid hp
                    have Hp' := Lib.hid hp'
                    have Hown2 := Lib.hid hown2
                    clear hbel2 has hal hp hp' hx hown2
                    go_wp2_with (at_builtin; refine wpList_app8 _ rfl (.tmp 101) (.tmp 110) 48 48 rfl w.heap.size 5 i0 Tryd.underlying48 Hi.out Hz0.out Hz1.out Hz2.out _ _ rfl (Hown2.out.alloc _) _ 1 [x] rfl rfl (src_one wr 48 5 Tryd.underlying48 5 x) ?c3 ?c4 ?_)
                    case c3 => exact hbound2
                    case c4 => simp; omega
                    intro v1 w1 hown1 hbel1
                    have hbel3 := (Hbel2.out.alloc hwb2 (.cells #[.int .u8 (x.toNat : Int)] 5)).trans hbel1
                    have Hown1 := Lib.hid hown1
                    have Hbel3 := Lib.hid hbel3
                    clear hown1 hbel1 hbel3 hc2
                    go_wp2_with fail
                    refine ⟨⟨q + 1, by omega, by go_num, ?_, Hbel3.out⟩, by simp [intOf]; omega⟩
                    rw [Has.out]; exact Hown1.out
                  · obtain rfl : q = N := by omega
                    have Hown2 := Lib.hid hown2
                    have Hbel2 := Lib.hid hbel2
                    clear hown2 hbel2 has hal
                    go_wp2_with fail
                    exact ⟨⟨k + 3, _, by go_num, Hso2.out, Hown2.out, Hbel2.out⟩, by simp [intOf]; omega⟩
          · have hd2 : decide ((s.size : Int) < (k : Int) + 3) = true := by simp only [decide_eq_true_eq]; omega
            have hr := upV_err _ _ _ (Hso.out.matShort hx hc h255 (by rw [hrl]; omega))
            have Hr := Lib.hid hr
            clear hr hx hrl
            go_wp2_with fail
            go_ret2
            rw [Hr.out]
            exact ⟨rfl, Hbel.out⟩
    · have hfin := upV_ok _ _ _ (Hso.out.stop (by rw [hlen]; omega))
      have Hfin := Lib.hid hfin
      clear hfin
      have hb68i : (68 : Int) ≤ (bs.length : Int) := by omega
      by_cases hc68 : cv = 68
      · subst hc68
        have hz := conv_zero (P := Tryd.prog) wr g 0 0 rfl 48 5 Tryd.underlying48 (by kernel_rfl) 9 (by kernel_rfl)
        have hdz : bs.drop 68 = [] := List.drop_of_length_le hcv1
        have Hdz := Lib.hid hdz
        clear hdz
        go_wp2_with fail
        go_ret2
        rw [Hfin.out, Hdz.out]
        exact ⟨rfl, Hbel.out⟩
      · have hcv := Own8.from_ (P := Tryd.prog) Hown.out rfl hb68 (cv - 68) 48 5 Tryd.underlying48 (by kernel_rfl) 9 (by kernel_rfl)
        go_wp2_with fail
        go_ret2
        rw [Hfin.out]
        exact ⟨rfl, Hbel.out⟩
end Go.Proofs.YtinciddchpccnaaDoor
