/- The reference's Parse: what it returns. -/
import Derived.Test.YtpphljdnnlfjhaaDoorJrParse
namespace Go.Proofs.YtpphljdnnlfjhaaDoor
open Go.RowKit
set_option linter.unusedVariables false
set_option linter.unusedSimpArgs false

theorem Jr.rd_split {s : List UInt8} {p i N Q : Nat} (hn : Oct.rdNum s p = ((N : Int), (Q : Int), 0)) (hN : N ≤ 4096) (hfit : Q + 4 + N ≤ s.length) :
    ((s.drop p).take (Q + 4 + N - p) = Jr.lay i ((s.drop (Q + 4)).take N) ∧ Jr.rd s p i = some ((s.drop (Q + 4)).take N, Q + 4 + N)) ∨ ((s.drop p).take (Q + 4 + N - p) ≠ Jr.lay i ((s.drop (Q + 4)).take N) ∧ Jr.rd s p i = none) := by
  rcases Oct.rdNum_ok hn with hbad | ⟨_, hp, hn0, hn1, hpq, hql, htk⟩
  · exact absurd rfl hbad.1
  have hpq' : p < Q := by omega
  simp only [Int.toNat_natCast] at htk
  rw [show ((Q : Int) - (p : Int)).toNat = Q - p by omega] at htk
  have htl : ((s.drop (Q + 4)).take N).length = N := by rw [List.length_take, List.length_drop]; omega
  have e1 : (s.drop p).take (Q + 4 + N - p) = Oct.num N ++ ((s.drop Q).take 4 ++ (s.drop (Q + 4)).take N) := by
    rw [show Q + 4 + N - p = (Q - p) + (4 + N) by omega, List.take_add, htk, List.drop_drop, show p + (Q - p) = Q by omega, List.take_add, List.drop_drop]
  have hrd : Jr.rd s p i = if (s.drop Q).take 4 ≠ Jr.sumB i ((s.drop (Q + 4)).take N) then none else some ((s.drop (Q + 4)).take N, Q + 4 + N) := by
    unfold Jr.rd
    rw [hn]
    simp only [Int.toNat_natCast]
    rw [if_neg (by simp), if_neg (by omega), if_neg (by omega)]
  rw [e1, hrd]
  unfold Jr.lay
  rw [htl]
  by_cases hs : (s.drop Q).take 4 = Jr.sumB i ((s.drop (Q + 4)).take N)
  · left
    rw [hs, if_neg (by simp)]
    exact ⟨rfl, rfl⟩
  · right
    rw [if_pos hs]
    refine ⟨fun h => hs ?_, rfl⟩
    have h2 := List.append_cancel_left h
    exact List.append_cancel_right h2
theorem Jr.rd_big {s : List UInt8} {p i : Nat} {n q e : Int} (hn : Oct.rdNum s p = (n, q, e)) (h : e ≠ 0 ∨ 4096 < n ∨ (s.length : Int) < q + 4 + n) : Jr.rd s p i = none := by
  unfold Jr.rd
  rw [hn]
  simp only
  by_cases h1 : e ≠ 0
  · rw [if_pos h1]
  rw [if_neg h1]
  by_cases h2 : 4096 < n
  · rw [if_pos h2]
  rw [if_neg h2, if_pos (by omega)]
theorem Jr.rd_end {s : List UInt8} {i : Nat} : Jr.rd s s.length i = none := by
  rcases hn : Oct.rdNum s s.length with ⟨n, q, e⟩
  rcases Oct.rdNum_ok hn with hbad | ⟨_, hp, hn0, hn1, hpq, hql, htk⟩
  · exact Jr.rd_big hn (.inl hbad.1)
  · omega
set_option maxHeartbeats 1000000 in
theorem jrRefParse_any (s : ByteArray) (w : World) (hs : s.size ≤ 1099511627776) :
    Calls Tryd.prog 9 #[.string s] w fun e w' => (∃ v, e = .returned (.tuple #[v, .int .i64 ((Jr.parse s.data.toList).2 : Int)]) ∧ Lst w' w.heap.size v (Jr.parse s.data.toList).1) ∧ Below w.heap.size w w' := by
  obtain ⟨i0, hi, hz0, hz1, hz2⟩ := info_parts str_info
  have Hi := Lib.hid hi; clear hi
  have Hz0 := Lib.hid hz0; clear hz0
  have Hz1 := Lib.hid hz1; clear hz1
  have Hz2 := Lib.hid hz2; clear hz2
  have hlen : s.data.toList.length = s.size := rfl
  have Hlen := Lib.hid hlen
  clear hlen
  go_enter Tryd.func9, Tryd.ntmps9
  go_wp2_with fail
  go_loopw [4, 5] (fun v x wr => ∃ (p : Nat) (acc : List (List UInt8)), x = .int .i64 (p : Int) ∧ Jr.Upto s.data.toList p acc ∧ 5 * acc.length ≤ p ∧ wr.ownsRow w.heap.size 9 1 v acc.length (acc.map S) ∧ Below w.heap.size w wr) (fun _ x _ => s.size - (intOf x).toNat)
  case atStart => exact ⟨0, [], rfl, Jr.Upto.start _, by simp, World.ownsRow_nil _ _ _ _, Below.refl _ _⟩
  case round =>
    obtain ⟨p, acc, rfl, hup, hacc5, hown, hb⟩ := hrel
    have hpl : p ≤ s.size := by have := hup.1; rw [Hlen.out] at this; exact this
    obtain ⟨A, c, rfl⟩ : ∃ A c, u4 = .slice A acc.length c := by
      rcases hown.2 with ⟨rfl, hx⟩ | ⟨g, cap, cur, rfl, _⟩
      · have : acc = [] := by simpa using hx
        subst this
        exact ⟨none, 0, rfl⟩
      · exact ⟨_, _, rfl⟩
    have hfin : ∀ (W : World), W.ownsRow w.heap.size 9 1 (.slice A acc.length c) acc.length (acc.map S) → Lst W w.heap.size (.slice A acc.length c) acc := by
      intro W h
      rcases h.2 with ⟨hA, hx⟩ | ⟨g, cap, cur, hv, _⟩
      · have : acc = [] := by simpa using hx
        subst this
        exact lst_nil _ _ _ _
      · injection hv with hA1 hA2 hA3
        subst hA1
        subst hA3
        exact lst_own h _
    have Hfin := Lib.hid hfin
    have Hb := Lib.hid hb
    have Hown := Lib.hid hown
    have Hup := Lib.hid hup
    clear hb hown hup hfin
    by_cases hlt : p < s.size
    · have d0 : decide ((p : Int) < (s.size : Int)) = true := by simp only [decide_eq_true_eq]; omega
      have d0' : decide (p < s.size) = true := by simp only [decide_eq_true_eq]; omega
      have hrd := fun w : World => refReadNumber_any s p w (by omega)
      unfold rdNumV at hrd
      rcases hn : Oct.rdNum s.data.toList p with ⟨n, q, e⟩
      rw [hn] at hrd
      have Hrd := Lib.hid hrd
      have Hn := Lib.hid hn
      rcases Oct.rdNum_ok hn with ⟨he, rfl, rfl⟩ | ⟨rfl, _, hn0, hn1, hpq, hql, _⟩
      · have hpa := Hup.out.stop (Jr.rd_big hn (.inl he))
        have Hpa := Lib.hid hpa
        have hz : (e != 0) = true := by simpa using he
        clear hn hrd hpa he
        go_wp2_with fail
        refine (Hrd.out _).mono ?_
        rintro e' w1 ⟨rfl, rfl⟩
        unfold three
        go_wp2_with fail
        go_ret2
        rw [Hpa.out]
        exact ⟨⟨_, rfl, Hfin.out _ Hown.out⟩, Hb.out⟩
      obtain ⟨N, rfl⟩ : ∃ N : Nat, n = (N : Int) := ⟨n.toNat, by omega⟩
      obtain ⟨Q, rfl⟩ : ∃ Q : Nat, q = (Q : Int) := ⟨q.toNat, by omega⟩
      rw [Hlen.out] at hql
      have hql' : Q ≤ s.size := by omega
      have hpq' : p < Q := by omega
      clear hn hrd hn0 hn1 hpq hql
      by_cases hbig : (4096 : Int) < (N : Int)
      · have hpa := Hup.out.stop (Jr.rd_big Hn.out (.inr (.inl hbig)))
        have Hpa := Lib.hid hpa
        have hb' : 4096 < N := by omega
        have d1 : decide ((4096 : Int) < (N : Int)) = true := by simpa using hbig
        have d2 : decide (4096 < N) = true := by simpa using hb'
        clear hb' hbig hpa
        go_wp2_with fail
        refine (Hrd.out _).mono ?_
        rintro e' w1 ⟨rfl, rfl⟩
        unfold three
        go_wp2_with fail
        go_ret2
        rw [Hpa.out]
        exact ⟨⟨_, rfl, Hfin.out _ Hown.out⟩, Hb.out⟩
      have hN : N ≤ 4096 := by omega
      have d1 : decide ((4096 : Int) < (N : Int)) = false := by simpa using hbig
      have d2 : decide (4096 < N) = false := by simpa using hN
      clear hbig
      obtain ⟨Q4, hQ4⟩ : ∃ Q4 : Nat, Q + 4 = Q4 := ⟨_, rfl⟩
      obtain ⟨QE, hQE⟩ : ∃ QE : Nat, Q4 + N = QE := ⟨_, rfl⟩
      have hw3 : IntKind.i64.wrap ((Q : Int) + 4) = (Q4 : Int) := by rw [IntWalk.i64_in _ (by omega)]; omega
      have hw4 : IntKind.i64.wrap ((Q4 : Int) + (N : Int)) = (QE : Int) := by rw [IntWalk.i64_in _ (by omega)]; omega
      by_cases hsh : s.size < QE
      · have hpa := Hup.out.stop (Jr.rd_big Hn.out (.inr (.inr (by rw [Hlen.out]; omega))))
        have Hpa := Lib.hid hpa
        have d3 : decide ((s.size : Int) < (QE : Int)) = true := by simp only [decide_eq_true_eq]; omega
        have d3' : decide (s.size < QE) = true := by simp only [decide_eq_true_eq]; omega
        clear hsh hpa
        go_wp2_with fail
        refine (Hrd.out _).mono ?_
        rintro e' w1 ⟨rfl, rfl⟩
        unfold three
        go_wp2_with fail
        go_ret2
        rw [Hpa.out]
        exact ⟨⟨_, rfl, Hfin.out _ Hown.out⟩, Hb.out⟩
      have d3 : decide ((s.size : Int) < (QE : Int)) = false := by simp only [decide_eq_false_iff_not]; omega
      have d3' : decide (s.size < QE) = false := by simp only [decide_eq_false_iff_not]; omega
      have hQEs : QE ≤ s.size := by omega
      have hsp := Jr.rd_split (i := acc.length) Hn.out hN (by rw [Hlen.out]; omega)
      rw [hQ4, hQE] at hsp
      have hsl : ∀ W : World, (Instr.slice 9 (.string s) (some (.int .i64 (Q4 : Int))) (some (.int .i64 (QE : Int))) none).run Tryd.prog W = .ok (S ((s.data.toList.drop Q4).take N)) W := by
        intro W
        have h := cut_run (P := Tryd.prog) 9 (by kernel_rfl) s Q4 N (by omega) W
        rw [show ((Q4 : Int) + (N : Int)) = (QE : Int) by omega] at h
        exact h
      have hsl2 : ∀ W : World, (Instr.slice 9 (.string s) (some (.int .i64 (p : Int))) (some (.int .i64 (QE : Int))) none).run Tryd.prog W = .ok (S ((s.data.toList.drop p).take (QE - p))) W := by
        intro W
        have h := cut_run (P := Tryd.prog) 9 (by kernel_rfl) s p (QE - p) (by omega) W
        rw [show ((p : Int) + ((QE - p : Nat) : Int)) = (QE : Int) by omega] at h
        exact h
      obtain ⟨rl, hrl⟩ : ∃ rl, (s.data.toList.drop Q4).take N = rl := ⟨_, rfl⟩
      obtain ⟨xl, hxl⟩ : ∃ xl, (s.data.toList.drop p).take (QE - p) = xl := ⟨_, rfl⟩
      rw [hrl] at hsl hsp
      rw [hxl] at hsl2 hsp
      obtain ⟨R, hR⟩ : ∃ R : ByteArray, (⟨rl.toArray⟩ : ByteArray) = R := ⟨_, rfl⟩
      obtain ⟨X, hX⟩ : ∃ X : ByteArray, (⟨xl.toArray⟩ : ByteArray) = X := ⟨_, rfl⟩
      have hRl : R.data.toList = rl := by rw [← hR]
      have hRz : R.size ≤ 140737488351232 := by
        have : R.size = R.data.toList.length := rfl
        rw [this, hRl, ← hrl, List.length_take]; omega
      have hXl : X.toList = xl := by rw [← hX, ByteArray.toList_mk]
      have hxlen : xl.length = QE - p := by rw [← hxl, List.length_take, List.length_drop, Hlen.out]; omega
      have hslR : ∀ W : World, (Instr.slice 9 (.string s) (some (.int .i64 (Q4 : Int))) (some (.int .i64 (QE : Int))) none).run Tryd.prog W = .ok (.string R) W := by intro W; rw [← hR]; exact hsl W
      have hslX : ∀ W : World, (Instr.slice 9 (.string s) (some (.int .i64 (p : Int))) (some (.int .i64 (QE : Int))) none).run Tryd.prog W = .ok (.string X) W := by intro W; rw [← hX]; exact hsl2 W
      have hsum := fun w : World => jrRec_any acc.length R w (by omega) hRz
      rw [hRl] at hsum
      obtain ⟨fl, hfl⟩ : ∃ fl, Jr.lay acc.length rl = fl := ⟨_, rfl⟩
      rw [hfl] at hsum hsp
      obtain ⟨FB, hFB⟩ : ∃ FB : ByteArray, (⟨fl.toArray⟩ : ByteArray) = FB := ⟨_, rfl⟩
      have hFl : FB.toList = fl := by rw [← hFB, ByteArray.toList_mk]
      have hFz : FB.size = fl.length := by rw [← hFB]; rfl
      have hsum2 : ∀ w : World, Calls Tryd.prog 23 #[.int .i64 (acc.length : Int), .string R] w fun e w' => e = .returned (.string FB) ∧ Below w.heap.size w w' := by
        intro w; rw [← hFB]; exact hsum w
      obtain ⟨cmp, hcmp⟩ : ∃ cmp, (X.toList == FB.toList) = cmp := ⟨_, rfl⟩
      have Hsum := Lib.hid hsum2
      have Hcmp := Lib.hid hcmp
      have HFl := Lib.hid hFl
      have HXl := Lib.hid hXl
      have HR := Lib.hid hR
      have HFz := Lib.hid hFz
      have Hxlen := Lib.hid hxlen
      have Hsp := Lib.hid hsp
      have hcm := hcmp
      clear hsum hsum2 hFl hFB hfl hXl hX hR hsl hsl2 hxl hrl hRl hcmp hFz hxlen hsp
      rcases cmp with _ | _
      · have hne : xl ≠ fl := by
          intro e
          have h := Hcmp.out
          rw [HFl.out, HXl.out, e] at h
          simp at h
        have hpa := Hup.out.stop (by
          rcases Hsp.out with h | h
          · exact absurd h.1 hne
          · exact h.2)
        have Hpa := Lib.hid hpa
        clear hne hpa
        go_wp2_with fail
        refine (Hrd.out _).mono ?_
        rintro e' w1 ⟨rfl, rfl⟩
        unfold three
        go_wp2_with fail
        refine (Hsum.out _).mono ?_
        rintro e' w1 ⟨rfl, hb1⟩
        have Hb1 := Lib.hid hb1
        clear hb1
        go_wp2_with fail
        go_ret2
        rw [Hpa.out]
        exact ⟨⟨_, rfl, Hfin.out _ (own_below Hown.out Hb1.out)⟩, Hb.out.trans (Hb1.out.mono Hb.out.size)⟩
      · have heq : xl = fl := by
          have h := Hcmp.out
          rw [HFl.out, HXl.out] at h
          simpa using h
        have hgo : Jr.rd s.data.toList p acc.length = some (rl, QE) := by
          rcases Hsp.out with h | h
          · exact h.2
          · exact absurd heq h.1
        have hup2 := (Hup.out.go hgo).1
        have Hup2 := Lib.hid hup2
        have hfz : FB.size = QE - p := by rw [HFz.out, ← heq, Hxlen.out]
        have hfz' : (p : Int) + (FB.size : Int) = (QE : Int) := by omega
        have hS : S rl = .string R := by rw [← HR.out]
        have HS := Lib.hid hS
        clear heq hgo hup2 hS
        go_wp2_with fail
        refine (Hrd.out _).mono ?_
        rintro e' w1 ⟨rfl, rfl⟩
        unfold three
        go_wp2_with fail
        refine (Hsum.out _).mono ?_
        rintro e' w1 ⟨rfl, hb1⟩
        have hown1 := (own_below Hown.out hb1).alloc (.cells #[.string R] 9)
        have hbel1 := (Hb.out.trans (hb1.mono Hb.out.size)).alloc (Hb.out.trans (hb1.mono Hb.out.size)).size (.cells #[.string R] 9)
        have hsz := hbel1.size
        have hMx : acc.length + 1 ≤ 219902325556 := by omega
        have c3 : acc.length + 1 ≤ maxLen := Nat.le_trans hMx (by decide)
        have c4 : (acc.length + 1) * 16 ≤ 140737488355328 := by omega
        have hc1 := one_at w1 9 (.string R)
        have Hown1 := Lib.hid hown1
        have Hc1 := Lib.hid hc1
        clear hown1 hc1
        have h5 : 5 * (acc.length + 1) ≤ QE := by omega
        go_wp2_with (at_builtin; refine wpList_append_own _ rfl (.tmp 58) (.tmp 60) _ rfl w.heap.size 9 i0 _ 1 16 Tryd.underlying22 Hi.out Hz0.out Hz1.out Hz2.out rfl (by decide) (.slice A acc.length c) acc.length (acc.map S) rfl Hown1.out ⟨w1.heap.size, 0, none⟩ 1 1 [.string R] rfl rfl Hc1.out (by simp [Value.oneCell']) c3 c4 hsz ?_; intro v2 w2 hown2 hgr2 _)
        refine ⟨⟨QE, acc ++ [rl], by go_num, Hup2.out, by rw [List.length_append]; exact h5, ?_, hbel1.grown hgr2 hsz (fun g hg => (Hown1.out.lt g hg).1)⟩, by simp [intOf]; omega⟩
        rw [List.map_append, List.map_singleton, HS.out]
        simpa using hown2
    · have he : p = s.size := by omega
      have hpa := Hup.out.stop (by rw [he, ← Hlen.out]; exact Jr.rd_end)
      have Hpa := Lib.hid hpa
      have d0 : decide ((p : Int) < (s.size : Int)) = false := by simp only [decide_eq_false_iff_not]; omega
      have d0' : decide (p < s.size) = false := by simp only [decide_eq_false_iff_not]; omega
      clear hpa he
      go_wp2_with fail
      go_ret2
      rw [Hpa.out]
      exact ⟨⟨_, rfl, Hfin.out _ Hown.out⟩, Hb.out⟩
end Go.Proofs.YtpphljdnnlfjhaaDoor
