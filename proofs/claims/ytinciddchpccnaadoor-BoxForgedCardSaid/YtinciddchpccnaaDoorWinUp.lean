/- What later texts need of the earlier layers. -/
import Derived.Test.YtinciddchpccnaaDoorBxO
import Derived.Test.YtinciddchpccnaaDoorWinMath
import Derived.Test.YtinciddchpccnaaDoorWinNum
import Derived.Test.YtinciddchpccnaaDoorOwnApp
import Derived.Test.YtinciddchpccnaaDoorWinOwn
import Derived.Test.YtinciddchpccnaaDoorWinOwn8
import Derived.Test.YtinciddchpccnaaDoorWinPack
import Derived.Test.YtinciddchpccnaaDoorWinUn
import Derived.Test.YtinciddchpccnaaDoorWinAgain
import Derived.BigQuiet
import Derived.Deep.QuietTactic
set_option maxRecDepth 100000
/- ---- WinUp ---- -/
/- window.Unpack: what it returns. -/
namespace Go.Proofs.YtinciddchpccnaaDoor
open Go.RowKit
set_option linter.unusedVariables false
set_option linter.unusedSimpArgs false

def upV (l : List UInt8) (most : Int) : Value := .tuple #[S (Win.unpack l most).1, .int .i64 (Win.unpack l most).2]
theorem upV_err (l : List UInt8) (M : Nat) (e : Int) (h : Win.what l M = .error e) : upV l (M : Int) = .tuple #[S [], .int .i64 e] := by
  unfold upV; rw [Win.unpack_eq, if_neg (by omega), Int.toNat_natCast, h]
theorem upV_ok (l : List UInt8) (M : Nat) (t : List UInt8) (h : Win.what l M = .ok t) : upV l (M : Int) = .tuple #[S (t.drop 68), .int .i64 0] := by
  unfold upV; rw [Win.unpack_eq, if_neg (by omega), Int.toNat_natCast, h]
theorem conv_zero {P : Program} (w : World) (g c n : Nat) (hn : n = 0) (src e : TypeId) (hs : P.underlying src = some (.slice e)) (he : P.underlying e = some (.int .u8))
    (dst : TypeId) (hd : P.underlying dst = some .string) : (convert src dst (.slice (some ⟨g, 0, none⟩) n c)).run P w = .ok (S []) w := by
  subst hn
  exact run_convert_bytes_arg (P := P) w src e hs he g 0 0 c [] rfl (fun i hi => by omega) dst hd
theorem below_marked (w : World) (c : Array Value) (e : TypeId) (m : Nat × Nat) : Below w.heap.size w (w.alloc (.cells c e m)) := (Below.refl _ _).alloc (Nat.le_refl _) _
set_option maxRecDepth 20000 in
set_option maxHeartbeats 1600000 in
theorem unpack_pos (s : ByteArray) (M : Nat) (w : World) (hs : s.size ≤ 9223372036854775807) (hM : (M : Int) ≤ 9223372036854775807) (hroom : M ≤ 200000000000000 ∨ s.size ≤ 4000000000000) :
    Calls Tryd.prog 92 #[.string s, .int .i64 (M : Int)] w fun e w' => e = .returned (upV s.data.toList M) ∧ Below w.heap.size w w' := by
  obtain ⟨i0, hi, hz0, hz1, hz2⟩ := info_parts r8_info
  have Hi := Lib.hid hi; clear hi
  have Hz0 := Lib.hid hz0; clear hz0
  have Hz1 := Lib.hid hz1; clear hz1
  have Hz2 := Lib.hid hz2; clear hz2
  have hlen : s.data.toList.length = s.size := rfl
  have hd0 : decide ((M : Int) < 0) = false := by simp
  have kc := fun (w : World) (C : Array Value) (n c : Nat) => Lib.run_convert_bytes_const (P := Tryd.prog) w 48 5 C n c Tryd.underlying48 (by kernel_rfl)
  go_enter Tryd.func92, Tryd.ntmps92
  go_wp2_with fail
  go_loopw [6, 7] (fun v i wr => ∃ (k : Nat) (bs : List UInt8), i = .int .i64 k ∧ Win.Soon s.data.toList M k bs ∧ Own8 wr w.heap.size v bs ∧ Below w.heap.size w wr) (fun _ i _ => s.size - (intOf i).toNat)
  case atStart => exact ⟨0, Win.static, rfl, Win.Soon.start _ _, Own8.const w 5 Win.static (by rw [Win.static_len]; unfold maxLen; omega) 68 rfl, below_marked w _ _ _⟩
  case round =>
    obtain ⟨k, bs, rfl, hso, hown, hbel⟩ := hrel
    have hk := hso.1
    have hb68 := hso.2.1
    have hbM := hso.2.2.1
    have hb44 := hso.2.2.2.1
    rw [hlen] at hk
    obtain ⟨g, cv, hv, hcv1, hcv2⟩ := hown.form
    subst hv
    have hcv3 : (bs.length : Int) ≤ (cv : Int) := by omega
    have Hown := Lib.hid hown
    have Hbel := Lib.hid hbel
    have Hso := Lib.hid hso
    clear hown hbel hso
    by_cases hlt : k < s.size
    · have hx : s.data.toList.drop k = s[k] :: s.data.toList.drop (k + 1) := List.drop_eq_getElem_cons (by rw [hlen]; exact hlt)
      have hrl : (s.data.toList.drop (k + 1)).length = s.size - (k + 1) := by rw [List.length_drop, hlen]
      have hc256 := (s[k]).toNat_lt
      have hs1 : ((s.size : Int) ≤ 9223372036854775807) := by omega
      by_cases hc : s[k].toNat < 128
      · have hp : pieceV s[k] = .tuple #[.int .i64 ((s[k].toNat : Int) + 1), .int .i64 ((s[k].toNat : Int) + 2)] := by unfold pieceV; rw [if_pos hc]
        have Hp := Lib.hid hp
        have hn1 : (((s[k].toNat : Int) == 255) : Bool) = false := by simp; omega
        have hn2 : decide ((s[k].toNat : Int) = 255) = false := by simp only [decide_eq_false_iff_not]; omega
        have hn3 : decide (s[k].toNat = 255) = false := by simp only [decide_eq_false_iff_not]; omega
        have hd1 : decide ((128 : Int) ≤ (s[k].toNat : Int)) = false := by simp only [decide_eq_false_iff_not]; omega
        have hd1' : decide (128 ≤ s[k].toNat) = false := by simp only [decide_eq_false_iff_not]; omega
        by_cases h1 : s.size - (k + 1) < s[k].toNat + 1
        · have hr := upV_err _ _ _ (Hso.out.litShort hx hc (by rw [hrl]; exact h1))
          have Hr := Lib.hid hr
          have hd2 : decide ((s.size : Int) - (k : Int) < (s[k].toNat : Int) + 2) = true := by simp only [decide_eq_true_eq]; omega
          clear hr hp hx hrl
          go_wp2_with fail
          refine (piece_any s[k] _).mono ?_
          rintro e w2 ⟨rfl, rfl⟩
          rw [Hp.out]
          go_wp2_with fail
          go_ret2
          rw [Hr.out]
          exact ⟨rfl, Hbel.out⟩
        · have hd2 : decide ((s.size : Int) - (k : Int) < (s[k].toNat : Int) + 2) = false := by simp only [decide_eq_false_iff_not]; omega
          have hd5 : decide ((bs.length : Int) < 0) = false := by simp
          by_cases h2 : M - (bs.length - 68) < s[k].toNat + 1
          · have hr := upV_err _ _ _ (Hso.out.litBig hx hc (by rw [hrl]; exact h1) h2)
            have Hr := Lib.hid hr
            have hd3 : decide ((M : Int) - ((bs.length : Int) - 68) < (s[k].toNat : Int) + 1) = true := by simp only [decide_eq_true_eq]; omega
            clear hr hp hx hrl
            go_wp2_with fail
            refine (piece_any s[k] _).mono ?_
            rintro e w2 ⟨rfl, rfl⟩
            rw [Hp.out]
            go_wp2_with fail
            go_ret2
            rw [Hr.out]
            exact ⟨rfl, Hbel.out⟩
          · have hso2 := Hso.out.lit hx hc (by rw [hrl]; exact h1) h2
            have hd3 : decide ((M : Int) - ((bs.length : Int) - 68) < (s[k].toNat : Int) + 1) = false := by simp only [decide_eq_false_iff_not]; omega
            have ht : ((s.data.toList.drop (k + 1)).take (s[k].toNat + 1)).length = s[k].toNat + 1 := by rw [List.length_take, hrl]; omega
            have hb1 := hso2.2.2.1
            have hb2 := hso2.2.2.2.1
            rw [List.length_append, ht] at hb1 hb2
            have hcut : ∀ W : World, (Instr.slice 9 (.string s) (some (.int .i64 ((k : Int) + 1))) (some (.int .i64 ((k : Int) + ((s[k].toNat : Int) + 2)))) none).run Tryd.prog W = .ok (S ((s.data.toList.drop (k + 1)).take (s[k].toNat + 1))) W := by
              intro W
              rw [run_slice_string W 9 s .i64 .i64 _ _ (by kernel_rfl) (by omega) (by omega) (by omega)]
              have e1 : ((k : Int) + 1).toNat = k + 1 := by omega
              have e2 : ((k : Int) + ((s[k].toNat : Int) + 2)).toNat = (k + 1) + (s[k].toNat + 1) := by omega
              rw [e1, e2, extract_list]
            generalize (s.data.toList.drop (k + 1)).take (s[k].toNat + 1) = tk at *
            have hS : ∀ W : World, Src Tryd.prog 1 9 (S tk) tk.length (bytesV tk) W := fun W => Src.ofString W (by kernel_rfl) ⟨tk.toArray⟩
            have hwb := Hbel.out.size
            have Hso2 := Lib.hid hso2
            have Ht := Lib.hid ht
            clear hso2 hp hx hrl ht
            go_wp2_with fail
            refine (piece_any s[k] _).mono ?_
            rintro e w2 ⟨rfl, rfl⟩
            rw [Hp.out]
            go_wp2_with (at_builtin; refine wpList_app8 _ rfl (.tmp 70) (.tmp 77) 48 9 rfl w.heap.size 5 i0 Tryd.underlying48 Hi.out Hz0.out Hz1.out Hz2.out _ _ rfl Hown.out (S tk) tk.length tk rfl rfl (hS _) ?l1 ?l2 ?_)
            case l1 => rw [Ht.out]; omega
            case l2 => exact hwb
            intro v3 w3 hown3 hbel3
            have hbel4 := Hbel.out.trans hbel3
            have Hown3 := Lib.hid hown3
            have Hbel3 := Lib.hid hbel4
            clear hown3 hbel3 hbel4 hcut hS
            go_wp2_with fail
            refine ⟨⟨_, _, ?_, Hso2.out, Hown3.out, Hbel3.out⟩, by simp [intOf]; omega⟩
            go_num
      · have hp : pieceV s[k] = .tuple #[.int .i64 ((s[k].toNat : Int) - 124), .int .i64 3] := by unfold pieceV; rw [if_neg hc]
        have Hp := Lib.hid hp
        have hd1 : decide ((128 : Int) ≤ (s[k].toNat : Int)) = true := by simp only [decide_eq_true_eq]; omega
        have hd1' : decide (128 ≤ s[k].toNat) = true := by simp only [decide_eq_true_eq]; omega
        by_cases h255 : s[k].toNat = 255
        · have hr := upV_err _ _ _ (Hso.out.none_ hx h255)
          have Hr := Lib.hid hr
          have hn1 : (((s[k].toNat : Int) == 255) : Bool) = true := by simp; omega
          have hn2 : decide ((s[k].toNat : Int) = 255) = true := by simp only [decide_eq_true_eq]; omega
          have hn3 : decide (s[k].toNat = 255) = true := by simp only [decide_eq_true_eq]; omega
          have H255 := Lib.hid h255
          clear hr hp hx hrl h255
          go_wp2_with fail
          refine (piece_any s[k] _).mono ?_
          rintro e w2 ⟨rfl, rfl⟩
          rw [Hp.out]
          go_wp2_with fail
          go_ret2
          rw [Hr.out]
          exact ⟨rfl, Hbel.out⟩
        · have hn1 : (((s[k].toNat : Int) == 255) : Bool) = false := by simp; omega
          have hn2 : decide ((s[k].toNat : Int) = 255) = false := by simp only [decide_eq_false_iff_not]; omega
          have hn3 : decide (s[k].toNat = 255) = false := by simp only [decide_eq_false_iff_not]; omega
          by_cases h1 : k + 2 < s.size
          · have hd2 : decide ((s.size : Int) - (k : Int) < 3) = false := by simp only [decide_eq_false_iff_not]; omega
            have h1l : k + 1 < s.data.toList.length := by rw [hlen]; omega
            have h2l : k + 1 + 1 < s.data.toList.length := by rw [hlen]; omega
            have e1 := List.drop_eq_getElem_cons h1l
            have e2 := List.drop_eq_getElem_cons h2l
            rw [e1, e2] at hx
            have hxe : s.data.toList[k + 1] = s[k + 1] := rfl
            have hye : s.data.toList[k + 1 + 1] = s[k + 2] := rfl
            rw [hxe, hye] at hx
            clear hxe hye e1 e2
            have hx8 := s[k + 1].toNat_lt
            have hy8 := s[k + 2].toNat_lt
            obtain ⟨D, hD⟩ : ∃ D, s[k + 1].toNat * 256 + s[k + 2].toNat + 1 = D := ⟨_, rfl⟩
            have eD : (s[k + 1].toNat : Int) * 256 + (s[k + 2].toNat : Int) + 1 = (D : Int) := by omega
            have h1i : (k : Int) + 1 < s.size := by omega
            have h2i : (k : Int) + 2 < s.size := by omega
            have hk1 : k + 1 < s.size := by omega
            have W1 := Lib.hid (show IntKind.i64.wrap ((k : Int) + 1) = (k : Int) + 1 from IntWalk.i64_in _ (by omega))
            have T1 := Lib.hid (show ((k : Int) + 1).toNat = k + 1 by omega)
            have W2 := Lib.hid (show IntKind.i64.wrap ((k : Int) + 2) = (k : Int) + 2 from IntWalk.i64_in _ (by omega))
            have T2 := Lib.hid (show ((k : Int) + 2).toNat = k + 2 by omega)
            have p1 : 0 ≤ (k : Int) + 1 := by omega
            have p2 : 0 ≤ (k : Int) + 2 := by omega
            by_cases h3 : 32768 < D ∨ bs.length < D
            · have hr := upV_err _ _ _ (Hso.out.matForm hx hc h255 (by rw [hD]; exact h3))
              have Hr := Lib.hid hr
              have HD := Lib.hid hD
              by_cases h4 : 32768 < D
              · have hd6 : decide ((32768 : Int) < (D : Int)) = true := by simp only [decide_eq_true_eq]; omega
                have hd6' : decide (32768 < D) = true := by simp only [decide_eq_true_eq]; omega
                clear hr hp hx hrl hD h3
                go_wp2_with fail
                refine (piece_any s[k] _).mono ?_
                rintro e w2 ⟨rfl, rfl⟩
                rw [Hp.out]
                go_wp2_with fail
                have w1 := W1.out; have t1 := T1.out; have w2 := W2.out; have t2 := T2.out
                go_quiet (fail)
                clear w1 w2
                go_wp2_with fail
                go_ret2
                rw [Hr.out]
                exact ⟨rfl, bel_drewN Hbel.out _⟩
              · have hd6 : decide ((32768 : Int) < (D : Int)) = false := by simp only [decide_eq_false_iff_not]; omega
                have hd6' : decide (32768 < D) = false := by simp only [decide_eq_false_iff_not]; omega
                have hd7 : decide ((bs.length : Int) < (D : Int)) = true := by simp only [decide_eq_true_eq]; omega
                have hd7' : decide (bs.length < D) = true := by simp only [decide_eq_true_eq]; omega
                clear hr hp hx hrl hD h3
                go_wp2_with fail
                refine (piece_any s[k] _).mono ?_
                rintro e w2 ⟨rfl, rfl⟩
                rw [Hp.out]
                go_wp2_with fail
                have w1 := W1.out; have t1 := T1.out; have w2 := W2.out; have t2 := T2.out
                go_quiet (fail)
                clear w1 w2
                go_wp2_with fail
                go_ret2
                rw [Hr.out]
                exact ⟨rfl, bel_drewN Hbel.out _⟩
            · have hd6 : decide ((32768 : Int) < (D : Int)) = false := by simp only [decide_eq_false_iff_not]; omega
              have hd6' : decide (32768 < D) = false := by simp only [decide_eq_false_iff_not]; omega
              have hd7 : decide ((bs.length : Int) < (D : Int)) = false := by simp only [decide_eq_false_iff_not]; omega
              have hd7' : decide (bs.length < D) = false := by simp only [decide_eq_false_iff_not]; omega
              obtain ⟨N, hN⟩ : ∃ N, s[k].toNat - 124 = N := ⟨_, rfl⟩
              have hNi : (s[k].toNat : Int) - 124 = (N : Int) := by omega
              by_cases h5 : M - (bs.length - 68) < N
              · have hr := upV_err _ _ _ (Hso.out.matBig hx hc h255 (by rw [hD]; exact h3) (by rw [hN]; exact h5))
                have Hr := Lib.hid hr
                have HD := Lib.hid hD
                have HN := Lib.hid hN
                rw [hNi] at Hp
                have hd3 : decide ((M : Int) - ((bs.length : Int) - 68) < (N : Int)) = true := by simp only [decide_eq_true_eq]; omega
                clear hr hp hx hrl hD hN h3 hNi
                go_wp2_with fail
                refine (piece_any s[k] _).mono ?_
                rintro e w2 ⟨rfl, rfl⟩
                rw [Hp.out]
                go_wp2_with fail
                have w1 := W1.out; have t1 := T1.out; have w2 := W2.out; have t2 := T2.out
                go_quiet (fail)
                clear w1 w2
                go_wp2_with fail
                go_ret2
                rw [Hr.out]
                exact ⟨rfl, bel_drewN Hbel.out _⟩
              · have hso2 := Hso.out.mat hx hc h255 (by rw [hD]; exact h3) (by rw [hN]; exact h5)
                rw [hD, hN] at hso2
                have hal := Win.again_len (K := bs) (d := D) (by omega) (by omega) N
                have hb1 := hso2.2.2.1
                have hb2 := hso2.2.2.2.1
                rw [hal] at hb1 hb2
                have hz1 : (((D : Int) == 0) : Bool) = false := by simp; omega
                have hz2 : decide ((D : Int) = 0) = false := by simp only [decide_eq_false_iff_not]; omega
                have hz3 : decide (D = 0) = false := by simp only [decide_eq_false_iff_not]; omega
                have hD1 : 1 ≤ D := by omega
                have hD2 : D ≤ bs.length := by omega
                have hbound : bs.length + N ≤ 225179981368371 := by omega
                have Hso2 := Lib.hid hso2
                have HD := Lib.hid hD
                have HN := Lib.hid hN
                have Hal := Lib.hid hal
                rw [hNi] at Hp
                have hd3 : decide ((M : Int) - ((bs.length : Int) - 68) < (N : Int)) = false := by simp only [decide_eq_false_iff_not]; omega
                clear hso2 hp hx hrl hD hN h3 hNi hal
                go_wp2_with fail
                refine (piece_any s[k] _).mono ?_
                rintro e w2 ⟨rfl, rfl⟩
                rw [Hp.out]
                go_wp2_with fail
                have w1 := W1.out; have t1 := T1.out; have w2 := W2.out; have t2 := T2.out
                go_quiet (fail)
                clear w1 w2
                have hbq := bel_drewN Hbel.out nq
                have hoq : Own8 (wr.drewN nq) w.heap.size (.slice (some ⟨g, 0, none⟩) bs.length cv) bs := Hown.out.below (bel_drewN (Below.refl _ _) nq)
                generalize wr.drewN nq = wq at *
                have Hbq := Lib.hid hbq
                have Hoq := Lib.hid hoq
                clear hbq hoq
                go_wp2_with fail
                refine (again_any bs D N wq w.heap.size _ Hoq.out hD1 hD2 hbound Hbq.out.size).mono ?_
                rintro e w3 ⟨v3, rfl, hown3, hbel3⟩
                have hbel4 := Hbq.out.trans hbel3
                have Hown3 := Lib.hid hown3
                have Hbel4 := Lib.hid hbel4
                clear hown3 hbel3 hbel4
                go_wp2_with fail
                exact ⟨⟨k + 3, _, by go_num, Hso2.out, Hown3.out, Hbel4.out⟩, by simp [intOf]; omega⟩
          · have hd2 : decide ((s.size : Int) - (k : Int) < 3) = true := by simp only [decide_eq_true_eq]; omega
            have hr := upV_err _ _ _ (Hso.out.matShort hx hc h255 (by rw [hrl]; omega))
            have Hr := Lib.hid hr
            clear hr hp hx hrl
            go_wp2_with fail
            refine (piece_any s[k] _).mono ?_
            rintro e w2 ⟨rfl, rfl⟩
            rw [Hp.out]
            go_wp2_with fail
            go_ret2
            rw [Hr.out]
            exact ⟨rfl, Hbel.out⟩
    · have hfin := upV_ok _ _ _ (Hso.out.stop (by rw [hlen]; omega))
      have Hfin := Lib.hid hfin
      clear hfin
      have hb68i : (68 : Int) ≤ (bs.length : Int) := by omega
      by_cases hc68 : cv = 68
      · subst hc68
        have hz := conv_zero (P := Tryd.prog) wr g 0 0 rfl 48 5 Tryd.underlying48 (by kernel_rfl) 9 (by kernel_rfl)
        have hdz : bs.drop 68 = [] := List.drop_of_length_le hcv1
        have Hdz := Lib.hid hdz
        clear hdz
        go_wp2_with fail
        go_ret2
        rw [Hfin.out, Hdz.out]
        exact ⟨rfl, Hbel.out⟩
      · have hcv := Own8.from_ (P := Tryd.prog) Hown.out rfl hb68 (cv - 68) 48 5 Tryd.underlying48 (by kernel_rfl) 9 (by kernel_rfl)
        go_wp2_with fail
        go_ret2
        rw [Hfin.out]
        exact ⟨rfl, Hbel.out⟩
end Go.Proofs.YtinciddchpccnaaDoor
