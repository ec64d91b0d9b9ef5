/- The reference's Parse: what it returns. -/
/- journal.Parse: what it returns, with its capacity. -/
/- JournalParses, JournalNone: the walks. -/
/- law10's few: what it returns. -/
/- JournalOrder: the walk. -/
import Derived.Test.YtpphljdnnlfjhaaDoorJrParse
import Derived.Laws.AppendOwn
import Derived.OwnWalk
import Derived.Test.YtpphljdnnlfjhaaDoorJrAwk
namespace Go.Proofs.YtpphljdnnlfjhaaDoor
open Go.RowKit
set_option linter.unusedVariables false
set_option linter.unusedSimpArgs false

theorem Jr.rd_split {s : List UInt8} {p i N Q : Nat} (hn : Oct.rdNum s p = ((N : Int), (Q : Int), 0)) (hN : N ≤ 4096) (hfit : Q + 4 + N ≤ s.length) :
    ((s.drop p).take (Q + 4 + N - p) = Jr.lay i ((s.drop (Q + 4)).take N) ∧ Jr.rd s p i = some ((s.drop (Q + 4)).take N, Q + 4 + N)) ∨ ((s.drop p).take (Q + 4 + N - p) ≠ Jr.lay i ((s.drop (Q + 4)).take N) ∧ Jr.rd s p i = none) := by
  rcases Oct.rdNum_ok hn with hbad | ⟨_, hp, hn0, hn1, hpq, hql, htk⟩
  · exact absurd rfl hbad.1
  have hpq' : p < Q := by omega
  simp only [Int.toNat_natCast] at htk
  rw [show ((Q : Int) - (p : Int)).toNat = Q - p by omega] at htk
  have htl : ((s.drop (Q + 4)).take N).length = N := by rw [List.length_take, List.length_drop]; omega
  have e1 : (s.drop p).take (Q + 4 + N - p) = Oct.num N ++ ((s.drop Q).take 4 ++ (s.drop (Q + 4)).take N) := by
    rw [show Q + 4 + N - p = (Q - p) + (4 + N) by omega, List.take_add, htk, List.drop_drop, show p + (Q - p) = Q by omega, List.take_add, List.drop_drop]
  have hrd : Jr.rd s p i = if (s.drop Q).take 4 ≠ Jr.sumB i ((s.drop (Q + 4)).take N) then none else some ((s.drop (Q + 4)).take N, Q + 4 + N) := by
    unfold Jr.rd
    rw [hn]
    simp only [Int.toNat_natCast]
    rw [if_neg (by simp), if_neg (by omega), if_neg (by omega)]
  rw [e1, hrd]
  unfold Jr.lay
  rw [htl]
  by_cases hs : (s.drop Q).take 4 = Jr.sumB i ((s.drop (Q + 4)).take N)
  · left
    rw [hs, if_neg (by simp)]
    exact ⟨rfl, rfl⟩
  · right
    rw [if_pos hs]
    refine ⟨fun h => hs ?_, rfl⟩
    have h2 := List.append_cancel_left h
    exact List.append_cancel_right h2
theorem Jr.rd_big {s : List UInt8} {p i : Nat} {n q e : Int} (hn : Oct.rdNum s p = (n, q, e)) (h : e ≠ 0 ∨ 4096 < n ∨ (s.length : Int) < q + 4 + n) : Jr.rd s p i = none := by
  unfold Jr.rd
  rw [hn]
  simp only
  by_cases h1 : e ≠ 0
  · rw [if_pos h1]
  rw [if_neg h1]
  by_cases h2 : 4096 < n
  · rw [if_pos h2]
  rw [if_neg h2, if_pos (by omega)]
theorem Jr.rd_end {s : List UInt8} {i : Nat} : Jr.rd s s.length i = none := by
  rcases hn : Oct.rdNum s s.length with ⟨n, q, e⟩
  rcases Oct.rdNum_ok hn with hbad | ⟨_, hp, hn0, hn1, hpq, hql, htk⟩
  · exact Jr.rd_big hn (.inl hbad.1)
  · omega
set_option maxHeartbeats 1000000 in
theorem jrRefParse_any (s : ByteArray) (w : World) (hs : s.size ≤ 1099511627776) :
    Calls Tryd.prog 9 #[.string s] w fun e w' => (∃ v, e = .returned (.tuple #[v, .int .i64 ((Jr.parse s.data.toList).2 : Int)]) ∧ Lst w' w.heap.size v (Jr.parse s.data.toList).1) ∧ Below w.heap.size w w' := by
  obtain ⟨i0, hi, hz0, hz1, hz2⟩ := info_parts str_info
  have Hi := Lib.hid hi; clear hi
  have Hz0 := Lib.hid hz0; clear hz0
  have Hz1 := Lib.hid hz1; clear hz1
  have Hz2 := Lib.hid hz2; clear hz2
  have hlen : s.data.toList.length = s.size := rfl
  have Hlen := Lib.hid hlen
  clear hlen
  go_enter Tryd.func9, Tryd.ntmps9
  go_wp2_with fail
  go_loopw [4, 5] (fun v x wr => ∃ (p : Nat) (acc : List (List UInt8)), x = .int .i64 (p : Int) ∧ Jr.Upto s.data.toList p acc ∧ 5 * acc.length ≤ p ∧ wr.ownsRow w.heap.size 9 1 v acc.length (acc.map S) ∧ Below w.heap.size w wr) (fun _ x _ => s.size - (intOf x).toNat)
  case atStart => exact ⟨0, [], rfl, Jr.Upto.start _, by simp, World.ownsRow_nil _ _ _ _, Below.refl _ _⟩
  case round =>
    obtain ⟨p, acc, rfl, hup, hacc5, hown, hb⟩ := hrel
    have hpl : p ≤ s.size := by have := hup.1; rw [Hlen.out] at this; exact this
    obtain ⟨A, c, rfl⟩ : ∃ A c, u4 = .slice A acc.length c := by
      rcases hown.2 with ⟨rfl, hx⟩ | ⟨g, cap, cur, rfl, _⟩
      · have : acc = [] := by simpa using hx
        subst this
        exact ⟨none, 0, rfl⟩
      · exact ⟨_, _, rfl⟩
    have hfin : ∀ (W : World), W.ownsRow w.heap.size 9 1 (.slice A acc.length c) acc.length (acc.map S) → Lst W w.heap.size (.slice A acc.length c) acc := by
      intro W h
      rcases h.2 with ⟨hA, hx⟩ | ⟨g, cap, cur, hv, _⟩
      · have : acc = [] := by simpa using hx
        subst this
        exact lst_nil _ _ _ _
      · injection hv with hA1 hA2 hA3
        subst hA1
        subst hA3
        exact lst_own h _
    have Hfin := Lib.hid hfin
    have Hb := Lib.hid hb
    have Hown := Lib.hid hown
    have Hup := Lib.hid hup
    clear hb hown hup hfin
    by_cases hlt : p < s.size
    · have d0 : decide ((p : Int) < (s.size : Int)) = true := by simp only [decide_eq_true_eq]; omega
      have d0' : decide (p < s.size) = true := by simp only [decide_eq_true_eq]; omega
      have hrd := fun w : World => refReadNumber_any s p w (by omega)
      unfold rdNumV at hrd
      rcases hn : Oct.rdNum s.data.toList p with ⟨n, q, e⟩
      rw [hn] at hrd
      have Hrd := Lib.hid hrd
      have Hn := Lib.hid hn
      rcases Oct.rdNum_ok hn with ⟨he, rfl, rfl⟩ | ⟨rfl, _, hn0, hn1, hpq, hql, _⟩
      · have hpa := Hup.out.stop (Jr.rd_big hn (.inl he))
        have Hpa := Lib.hid hpa
        have hz : (e != 0) = true := by simpa using he
        clear hn hrd hpa he
        go_wp2_with fail
        refine (Hrd.out _).mono ?_
        rintro e' w1 ⟨rfl, rfl⟩
        unfold three
        go_wp2_with fail
        go_ret2
        rw [Hpa.out]
        exact ⟨⟨_, rfl, Hfin.out _ Hown.out⟩, Hb.out⟩
      obtain ⟨N, rfl⟩ : ∃ N : Nat, n = (N : Int) := ⟨n.toNat, by omega⟩
      obtain ⟨Q, rfl⟩ : ∃ Q : Nat, q = (Q : Int) := ⟨q.toNat, by omega⟩
      rw [Hlen.out] at hql
      have hql' : Q ≤ s.size := by omega
      have hpq' : p < Q := by omega
      clear hn hrd hn0 hn1 hpq hql
      by_cases hbig : (4096 : Int) < (N : Int)
      · have hpa := Hup.out.stop (Jr.rd_big Hn.out (.inr (.inl hbig)))
        have Hpa := Lib.hid hpa
        have hb' : 4096 < N := by omega
        have d1 : decide ((4096 : Int) < (N : Int)) = true := by simpa using hbig
        have d2 : decide (4096 < N) = true := by simpa using hb'
        clear hb' hbig hpa
        go_wp2_with fail
        refine (Hrd.out _).mono ?_
        rintro e' w1 ⟨rfl, rfl⟩
        unfold three
        go_wp2_with fail
        go_ret2
        rw [Hpa.out]
        exact ⟨⟨_, rfl, Hfin.out _ Hown.out⟩, Hb.out⟩
      have hN : N ≤ 4096 := by omega
      have d1 : decide ((4096 : Int) < (N : Int)) = false := by simpa using hbig
      have d2 : decide (4096 < N) = false := by simpa using hN
      clear hbig
      obtain ⟨Q4, hQ4⟩ : ∃ Q4 : Nat, Q + 4 = Q4 := ⟨_, rfl⟩
      obtain ⟨QE, hQE⟩ : ∃ QE : Nat, Q4 + N = QE := ⟨_, rfl⟩
      have hw3 : IntKind.i64.wrap ((Q : Int) + 4) = (Q4 : Int) := by rw [IntWalk.i64_in _ (by omega)]; omega
      have hw4 : IntKind.i64.wrap ((Q4 : Int) + (N : Int)) = (QE : Int) := by rw [IntWalk.i64_in _ (by omega)]; omega
      by_cases hsh : s.size < QE
      · have hpa := Hup.out.stop (Jr.rd_big Hn.out (.inr (.inr (by rw [Hlen.out]; omega))))
        have Hpa := Lib.hid hpa
        have d3 : decide ((s.size : Int) < (QE : Int)) = true := by simp only [decide_eq_true_eq]; omega
        have d3' : decide (s.size < QE) = true := by simp only [decide_eq_true_eq]; omega
        clear hsh hpa
        go_wp2_with fail
        refine (Hrd.out _).mono ?_
        rintro e' w1 ⟨rfl, rfl⟩
        unfold three
        go_wp2_with fail
        go_ret2
        rw [Hpa.out]
        exact ⟨⟨_, rfl, Hfin.out _ Hown.out⟩, Hb.out⟩
      have d3 : decide ((s.size : Int) < (QE : Int)) = false := by simp only [decide_eq_false_iff_not]; omega
      have d3' : decide (s.size < QE) = false := by simp only [decide_eq_false_iff_not]; omega
      have hQEs : QE ≤ s.size := by omega
      have hsp := Jr.rd_split (i := acc.length) Hn.out hN (by rw [Hlen.out]; omega)
      rw [hQ4, hQE] at hsp
      have hsl : ∀ W : World, (Instr.slice 9 (.string s) (some (.int .i64 (Q4 : Int))) (some (.int .i64 (QE : Int))) none).run Tryd.prog W = .ok (S ((s.data.toList.drop Q4).take N)) W := by
        intro W
        have h := cut_run (P := Tryd.prog) 9 (by kernel_rfl) s Q4 N (by omega) W
        rw [show ((Q4 : Int) + (N : Int)) = (QE : Int) by omega] at h
        exact h
      have hsl2 : ∀ W : World, (Instr.slice 9 (.string s) (some (.int .i64 (p : Int))) (some (.int .i64 (QE : Int))) none).run Tryd.prog W = .ok (S ((s.data.toList.drop p).take (QE - p))) W := by
        intro W
        have h := cut_run (P := Tryd.prog) 9 (by kernel_rfl) s p (QE - p) (by omega) W
        rw [show ((p : Int) + ((QE - p : Nat) : Int)) = (QE : Int) by omega] at h
        exact h
      obtain ⟨rl, hrl⟩ : ∃ rl, (s.data.toList.drop Q4).take N = rl := ⟨_, rfl⟩
      obtain ⟨xl, hxl⟩ : ∃ xl, (s.data.toList.drop p).take (QE - p) = xl := ⟨_, rfl⟩
      rw [hrl] at hsl hsp
      rw [hxl] at hsl2 hsp
      obtain ⟨R, hR⟩ : ∃ R : ByteArray, (⟨rl.toArray⟩ : ByteArray) = R := ⟨_, rfl⟩
      obtain ⟨X, hX⟩ : ∃ X : ByteArray, (⟨xl.toArray⟩ : ByteArray) = X := ⟨_, rfl⟩
      have hRl : R.data.toList = rl := by rw [← hR]
      have hRz : R.size ≤ 140737488351232 := by
        have : R.size = R.data.toList.length := rfl
        rw [this, hRl, ← hrl, List.length_take]; omega
      have hXl : X.toList = xl := by rw [← hX, ByteArray.toList_mk]
      have hxlen : xl.length = QE - p := by rw [← hxl, List.length_take, List.length_drop, Hlen.out]; omega
      have hslR : ∀ W : World, (Instr.slice 9 (.string s) (some (.int .i64 (Q4 : Int))) (some (.int .i64 (QE : Int))) none).run Tryd.prog W = .ok (.string R) W := by intro W; rw [← hR]; exact hsl W
      have hslX : ∀ W : World, (Instr.slice 9 (.string s) (some (.int .i64 (p : Int))) (some (.int .i64 (QE : Int))) none).run Tryd.prog W = .ok (.string X) W := by intro W; rw [← hX]; exact hsl2 W
      have hsum := fun w : World => jrRec_any acc.length R w (by omega) hRz
      rw [hRl] at hsum
      obtain ⟨fl, hfl⟩ : ∃ fl, Jr.lay acc.length rl = fl := ⟨_, rfl⟩
      rw [hfl] at hsum hsp
      obtain ⟨FB, hFB⟩ : ∃ FB : ByteArray, (⟨fl.toArray⟩ : ByteArray) = FB := ⟨_, rfl⟩
      have hFl : FB.toList = fl := by rw [← hFB, ByteArray.toList_mk]
      have hFz : FB.size = fl.length := by rw [← hFB]; rfl
      have hsum2 : ∀ w : World, Calls Tryd.prog 23 #[.int .i64 (acc.length : Int), .string R] w fun e w' => e = .returned (.string FB) ∧ Below w.heap.size w w' := by
        intro w; rw [← hFB]; exact hsum w
      obtain ⟨cmp, hcmp⟩ : ∃ cmp, (X.toList == FB.toList) = cmp := ⟨_, rfl⟩
      have Hsum := Lib.hid hsum2
      have Hcmp := Lib.hid hcmp
      have HFl := Lib.hid hFl
      have HXl := Lib.hid hXl
      have HR := Lib.hid hR
      have HFz := Lib.hid hFz
      have Hxlen := Lib.hid hxlen
      have Hsp := Lib.hid hsp
      have hcm := hcmp
      clear hsum hsum2 hFl hFB hfl hXl hX hR hsl hsl2 hxl hrl hRl hcmp hFz hxlen hsp
      rcases cmp with _ | _
      · have hne : xl ≠ fl := by
          intro e
          have h := Hcmp.out
          rw [HFl.out, HXl.out, e] at h
          simp at h
        have hpa := Hup.out.stop (by
          rcases Hsp.out with h | h
          · exact absurd h.1 hne
          · exact h.2)
        have Hpa := Lib.hid hpa
        clear hne hpa
        go_wp2_with fail
        refine (Hrd.out _).mono ?_
        rintro e' w1 ⟨rfl, rfl⟩
        unfold three
        go_wp2_with fail
        refine (Hsum.out _).mono ?_
        rintro e' w1 ⟨rfl, hb1⟩
        have Hb1 := Lib.hid hb1
        clear hb1
        go_wp2_with fail
        go_ret2
        rw [Hpa.out]
        exact ⟨⟨_, rfl, Hfin.out _ (own_below Hown.out Hb1.out)⟩, Hb.out.trans (Hb1.out.mono Hb.out.size)⟩
      · have heq : xl = fl := by
          have h := Hcmp.out
          rw [HFl.out, HXl.out] at h
          simpa using h
        have hgo : Jr.rd s.data.toList p acc.length = some (rl, QE) := by
          rcases Hsp.out with h | h
          · exact h.2
          · exact absurd heq h.1
        have hup2 := (Hup.out.go hgo).1
        have Hup2 := Lib.hid hup2
        have hfz : FB.size = QE - p := by rw [HFz.out, ← heq, Hxlen.out]
        have hfz' : (p : Int) + (FB.size : Int) = (QE : Int) := by omega
        have hS : S rl = .string R := by rw [← HR.out]
        have HS := Lib.hid hS
        clear heq hgo hup2 hS
        go_wp2_with fail
        refine (Hrd.out _).mono ?_
        rintro e' w1 ⟨rfl, rfl⟩
        unfold three
        go_wp2_with fail
        refine (Hsum.out _).mono ?_
        rintro e' w1 ⟨rfl, hb1⟩
        have hown1 := (own_below Hown.out hb1).alloc (.cells #[.string R] 9)
        have hbel1 := (Hb.out.trans (hb1.mono Hb.out.size)).alloc (Hb.out.trans (hb1.mono Hb.out.size)).size (.cells #[.string R] 9)
        have hsz := hbel1.size
        have hMx : acc.length + 1 ≤ 219902325556 := by omega
        have c3 : acc.length + 1 ≤ maxLen := Nat.le_trans hMx (by decide)
        have c4 : (acc.length + 1) * 16 ≤ 140737488355328 := by omega
        have hc1 := one_at w1 9 (.string R)
        have Hown1 := Lib.hid hown1
        have Hc1 := Lib.hid hc1
        clear hown1 hc1
        have h5 : 5 * (acc.length + 1) ≤ QE := by omega
        go_wp2_with (at_builtin; refine wpList_append_own _ rfl (.tmp 58) (.tmp 60) _ rfl w.heap.size 9 i0 _ 1 16 Tryd.underlying22 Hi.out Hz0.out Hz1.out Hz2.out rfl (by decide) (.slice A acc.length c) acc.length (acc.map S) rfl Hown1.out ⟨w1.heap.size, 0, none⟩ 1 1 [.string R] rfl rfl Hc1.out (by simp [Value.oneCell']) c3 c4 hsz ?_; intro v2 w2 hown2 hgr2 _)
        refine ⟨⟨QE, acc ++ [rl], by go_num, Hup2.out, by rw [List.length_append]; exact h5, ?_, hbel1.grown hgr2 hsz (fun g hg => (Hown1.out.lt g hg).1)⟩, by simp [intOf]; omega⟩
        rw [List.map_append, List.map_singleton, HS.out]
        simpa using hown2
    · have he : p = s.size := by omega
      have hpa := Hup.out.stop (by rw [he, ← Hlen.out]; exact Jr.rd_end)
      have Hpa := Lib.hid hpa
      have d0 : decide ((p : Int) < (s.size : Int)) = false := by simp only [decide_eq_false_iff_not]; omega
      have d0' : decide (p < s.size) = false := by simp only [decide_eq_false_iff_not]; omega
      clear hpa he
      go_wp2_with fail
      go_ret2
      rw [Hpa.out]
      exact ⟨⟨_, rfl, Hfin.out _ Hown.out⟩, Hb.out⟩
end Go.Proofs.YtpphljdnnlfjhaaDoor
namespace Go.Proofs.YtpphljdnnlfjhaaDoor
open Go.RowKit
set_option linter.unusedVariables false
set_option linter.unusedSimpArgs false

set_option maxHeartbeats 1000000 in
theorem jrParse_cap (s : ByteArray) (w : World) (hs : s.size ≤ 1099511627776) :
    Calls Tryd.prog 8 #[.string s] w fun e w' => (∃ A, e = .returned (.tuple #[.slice A (Jr.parse s.data.toList).1.length (Jr.parse s.data.toList).1.length, .int .i64 ((Jr.parse s.data.toList).2 : Int)]) ∧ Lst w' w.heap.size (.slice A (Jr.parse s.data.toList).1.length (Jr.parse s.data.toList).1.length) (Jr.parse s.data.toList).1) ∧ Below w.heap.size w w' := by
  obtain ⟨i0, hi, hz0, hz1, hz2⟩ := info_parts str_info
  have Hi := Lib.hid hi; clear hi
  have Hz0 := Lib.hid hz0; clear hz0
  have Hz1 := Lib.hid hz1; clear hz1
  have Hz2 := Lib.hid hz2; clear hz2
  have hlen : s.data.toList.length = s.size := rfl
  have Hlen := Lib.hid hlen
  clear hlen
  go_enter Tryd.func8, Tryd.ntmps8
  go_wp2_with fail
  refine wp_scope_again 0 (fun a' w' => ∃ (p : Nat) (acc : List (List UInt8)) (v : Value), a' = { tmps := #[.string s, a'.tmps.getD 1 undef, .slice none 0 0, .int .i64 0, v, .int .i64 (p : Int), a'.tmps.getD 6 undef, a'.tmps.getD 7 undef, a'.tmps.getD 8 undef, a'.tmps.getD 9 undef, a'.tmps.getD 10 undef, a'.tmps.getD 11 undef, a'.tmps.getD 12 undef, a'.tmps.getD 13 undef, a'.tmps.getD 14 undef, a'.tmps.getD 15 undef, a'.tmps.getD 16 undef, a'.tmps.getD 17 undef, a'.tmps.getD 18 undef, a'.tmps.getD 19 undef, a'.tmps.getD 20 undef, a'.tmps.getD 21 undef, a'.tmps.getD 22 undef, a'.tmps.getD 23 undef, a'.tmps.getD 24 undef, a'.tmps.getD 25 undef, a'.tmps.getD 26 undef, a'.tmps.getD 27 undef, a'.tmps.getD 28 undef, a'.tmps.getD 29 undef, a'.tmps.getD 30 undef], defers := [] } ∧ Jr.Upto s.data.toList p acc ∧ 5 * acc.length ≤ p ∧ w'.ownsRow w.heap.size 9 1 v acc.length (acc.map S) ∧ Below w.heap.size w w') (fun a' _ => s.size - (intOf (a'.tmps.getD 5 undef)).toNat) (by rfl) ?_ ?_
  · rintro a' w' ⟨p, acc, v, ha, hup, hacc5, hown, hb⟩
    obtain ⟨u, hu⟩ : ∃ u : Nat → Value, ∀ q, a'.tmps.getD q undef = u q := ⟨_, fun _ => rfl⟩
    simp only [hu] at ha
    subst ha
    clear hu
    have hpl : p ≤ s.size := by have := hup.1; rw [Hlen.out] at this; exact this
    obtain ⟨A, c, rfl⟩ : ∃ A c, v = .slice A acc.length c := by
      rcases hown.2 with ⟨rfl, hx⟩ | ⟨g, cap, cur, rfl, _⟩
      · have : acc = [] := by simpa using hx
        subst this
        exact ⟨none, 0, rfl⟩
      · exact ⟨_, _, rfl⟩
    have hrd := jrRead_any s p acc.length w' (by omega) hpl (by omega)
    have Hb := Lib.hid hb
    clear hb
    rcases hr : Jr.rd s.data.toList p acc.length with _ | ⟨r, b⟩
    · have hpa := hup.stop hr
      have Hpa := Lib.hid hpa
      rw [hr] at hrd
      simp only [jrV] at hrd
      have Hown := Lib.hid hown
      have Hrd := Lib.hid hrd
      clear hup hown hrd hr hpa
      go_wp2_with fail
      refine Hrd.out.mono ?_
      rintro e w1 ⟨rfl, hb1⟩
      have hown1 := own_below Hown.out hb1
      have hb2 := Hb.out.trans (hb1.mono Hb.out.size)
      have Hown1 := Lib.hid hown1
      have Hb2 := Lib.hid hb2
      clear hown1 hb2 hb1
      have hsl : ∃ A', (∀ W : World, (Instr.slice 22 (.slice A acc.length c) none (some (.int .i64 (acc.length : Int))) (some (.int .i64 (acc.length : Int)))).run Tryd.prog W = .ok (.slice A' acc.length acc.length) W) ∧ Lst w1 w.heap.size (.slice A' acc.length acc.length) acc := by
        rcases Hown1.out.2 with ⟨hA, hx⟩ | ⟨g, cap, cur, hv, _⟩
        · have : acc = [] := by simpa using hx
          subst this
          injection hA with hA1 hA2 hA3
          subst hA1
          subst hA3
          exact ⟨none, fun W => by simp [go_sem], lst_nil _ _ _ _⟩
        · injection hv with hA1 hA2 hA3
          subst hA1
          subst hA3
          have hnc : ¬ c < acc.length := by omega
          exact ⟨some ⟨g, 0, none⟩, fun W => by simp [go_sem, hnc], lst_own Hown1.out _⟩
      obtain ⟨A', hsl, hlst⟩ := hsl
      have Hlst := Lib.hid hlst
      clear hlst
      go_wp2_with fail
      simp only [Exit.jump]
      go_ret2
      rw [Hpa.out]
      exact ⟨⟨_, rfl, Hlst.out⟩, Hb2.out⟩
    · obtain ⟨hup2, hpb, hbl⟩ := hup.go hr
      obtain ⟨_, hbe, _, hr4⟩ := Jr.rd_some hr
      have hl5 := Jr.lay_pos acc.length r
      rw [Hlen.out] at hbl
      rw [hr] at hrd
      simp only [jrV] at hrd
      have Hup2 := Lib.hid hup2
      have Hown := Lib.hid hown
      have Hrd := Lib.hid hrd
      have h5 : 5 * (acc.length + 1) ≤ b := by omega
      clear hup2 hup hown hrd hr hbe hl5
      go_wp2_with fail
      refine Hrd.out.mono ?_
      rintro e w1 ⟨rfl, hb1⟩
      have hown1 := (own_below Hown.out hb1).alloc (.cells #[S r] 9)
      have hbel1 := (Hb.out.trans (hb1.mono Hb.out.size)).alloc (Hb.out.trans (hb1.mono Hb.out.size)).size (.cells #[S r] 9)
      have hsz := hbel1.size
      have hMx : acc.length + 1 ≤ 219902325556 := by omega
      have c3 : acc.length + 1 ≤ maxLen := Nat.le_trans hMx (by decide)
      have c4 : (acc.length + 1) * 16 ≤ 140737488355328 := by omega
      have hc1 := one_at w1 9 (S r)
      have Hown1 := Lib.hid hown1
      have Hc1 := Lib.hid hc1
      clear hown1 hc1
      go_wp2_with (at_builtin; refine wpList_append_own _ rfl (.tmp 19) (.tmp 21) _ rfl w.heap.size 9 i0 _ 1 16 Tryd.underlying22 Hi.out Hz0.out Hz1.out Hz2.out rfl (by decide) (.slice A acc.length c) acc.length (acc.map S) rfl Hown1.out ⟨w1.heap.size, 0, none⟩ 1 1 [S r] rfl rfl Hc1.out (by simp [Value.oneCell']) c3 c4 hsz ?_; intro v2 w2 hown2 hgr2 _)
      go_step3
      refine ⟨rfl, ⟨b, acc ++ [r], v2, by simp [Array.getD], Hup2.out, by rw [List.length_append]; exact h5, by simpa using hown2, hbel1.grown hgr2 hsz (fun g hg => (Hown1.out.lt g hg).1)⟩, by simp [intOf]; omega⟩
  · intro hround
    have Hround := Lib.hid hround
    clear hround
    go_wp2_with fail
    go_step3
    go_step
    go_step
    exact Hround.out _ _ ⟨0, [], _, rfl, Jr.Upto.start _, by simp, World.ownsRow_nil _ _ _ _, Below.refl _ _⟩
end Go.Proofs.YtpphljdnnlfjhaaDoor
namespace Go.Proofs.YtpphljdnnlfjhaaDoor
open Go.RowKit
set_option maxRecDepth 100000
set_option linter.unusedVariables false
set_option linter.unusedSimpArgs false

theorem Lst.texts {w : World} {base : Nat} {v : Value} {L : List (List UInt8)} (h : Lst w base v L) : ∃ A c, v = .slice A L.length c ∧ Texts w w.heap.size A L := by
  obtain ⟨A, c, hv, hr⟩ := h
  refine ⟨A, c, hv, fun hne => ?_⟩
  obtain ⟨b, h1, h2, h3, h4⟩ := hr hne
  exact ⟨b, 0, h1, h3, fun i hi => by rw [Nat.zero_add]; exact h4 i hi⟩
theorem Lst.below {w w' : World} {base : Nat} {v : Value} {L : List (List UInt8)} (h : Lst w base v L) (hb : Below w.heap.size w w') : Lst w' base v L := by
  obtain ⟨A, c, hv, hr⟩ := h
  refine ⟨A, c, hv, fun hne => ?_⟩
  obtain ⟨b, h1, h2, h3, h4⟩ := hr hne
  exact ⟨b, h1, h2, Nat.lt_of_lt_of_le h3 hb.size, fun i hi => by rw [← h4 i hi]; exact World.cell?_of_block (a := ⟨b, i, none⟩) (hb.block b h3)⟩
theorem same_lists {w : World} {b1 b2 : Nat} {v1 v2 : Value} {L1 L2 : List (List UInt8)} (h1 : Lst w b1 v1 L1) (h2 : Lst w b2 v2 L2) (hl1 : L1.length ≤ 9223372036854775807) (hl2 : L2.length ≤ 9223372036854775807) :
    Calls Tryd.prog 11 #[v1, v2] w fun e w' => e = .returned (.bool (decide (L1 = L2))) ∧ ∃ n, w' = w.drewN n := by
  obtain ⟨A1, c1, rfl, t1⟩ := h1.texts
  obtain ⟨A2, c2, rfl, t2⟩ := h2.texts
  exact refSame_any A1 A2 c1 c2 L1 L2 w _ _ t1 t2 hl1 hl2
theorem parse_many (s : List UInt8) : (Jr.parse s).1.length ≤ s.length := by
  have h := Jr.parse_is s
  have h2 := lays_many 0 (Jr.parse s).1
  rw [← h.1, List.length_take] at h2
  omega
set_option maxHeartbeats 800000 in
theorem journalParses_any (s : ByteArray) (w : World) (hs : s.size ≤ 1099511627776) :
    Calls Tryd.prog 3 #[.string s] w fun e w' => e = .returned (.bool true) ∧ Below w.heap.size w w' := by
  have k1 := fun w : World => jrParse_any s w hs
  have k2 := fun w : World => jrRefParse_any s w hs
  have hm := parse_many s.data.toList
  have hsl : s.data.toList.length = s.size := rfl
  obtain ⟨⟨L, n⟩, hp⟩ : ∃ x, Jr.parse s.data.toList = x := ⟨_, rfl⟩
  rw [hp] at hm
  simp only [hp] at k1 k2
  have hL : L.length ≤ 9223372036854775807 := by
    have : L.length ≤ s.data.toList.length := hm
    omega
  have K1 := Lib.hid k1
  have K2 := Lib.hid k2
  clear k1 k2 hp hm hsl hs
  go_enter Tryd.func3, Tryd.ntmps3
  go_wp2_with fail
  refine (K1.out _).mono ?_
  rintro _ w1 ⟨⟨v1, rfl, hl1⟩, hb1⟩
  have Hl1 := Lib.hid hl1
  have Hb1 := Lib.hid hb1
  clear hl1 hb1
  go_wp2_with fail
  refine (K2.out _).mono ?_
  rintro _ w2 ⟨⟨v2, rfl, hl2⟩, hb2⟩
  have Hl2 := Lib.hid hl2
  have Hl12 := Lib.hid (Hl1.out.below hb2)
  have Hb2 := Lib.hid (Hb1.out.trans (hb2.mono Hb1.out.size))
  clear hl2 hb2
  go_wp2_with fail
  refine (awake10 _).mono ?_
  rintro _ w3 ⟨rfl, hb3⟩
  have Hl1' := Lib.hid (Hl12.out.below hb3)
  have Hl2' := Lib.hid (Hl2.out.below hb3)
  have Hb3 := Lib.hid (Hb2.out.trans (hb3.mono Hb2.out.size))
  clear hb3
  go_wp2_with fail
  refine (same_lists Hl1'.out Hl2'.out hL hL).mono ?_
  rintro _ w4 ⟨rfl, m, rfl⟩
  have hd : decide (L = L) = true := by simp
  rw [hd]
  have Hb4 := Lib.hid (bel_drewN Hb3.out m)
  go_wp2_with fail
  go_ret
  exact ⟨by simp, Hb4.out⟩
set_option maxHeartbeats 800000 in
theorem journalNone_any (nm s : ByteArray) (w : World) :
    Calls Tryd.prog 7 #[.string nm, .string s] w fun e w' => e = .returned (.bool true) ∧ Below w.heap.size w w' := by
  have k1 : ∀ w : World, Calls Tryd.prog 13 #[.pointer none, .string nm] w fun e w' => e = .returned (.tuple #[.pointer none, .slice none 0 0, .int .i64 1]) ∧ w = w' := by
    intro w
    have h := jopen_nil nm.data.toList w
    have e : Sb nm.data.toList = .string nm := by obtain ⟨⟨l⟩⟩ := nm; rfl
    rwa [e] at h
  have k2 : ∀ w : World, Calls Tryd.prog 15 #[.pointer none, .string s] w fun e w' => e = .returned (.int .i64 1) ∧ w = w' := by
    intro w
    have h := jadd_nil s.data.toList w
    have e : Sb s.data.toList = .string s := by obtain ⟨⟨l⟩⟩ := s; rfl
    rwa [e] at h
  have K1 := Lib.hid k1
  have K2 := Lib.hid k2
  clear k1 k2
  go_enter Tryd.func7, Tryd.ntmps7
  go_wp2_with fail
  refine (K1.out _).mono ?_
  rintro _ w1 ⟨rfl, rfl⟩
  go_wp2_with fail
  refine (awake10 _).mono ?_
  rintro _ w2 ⟨rfl, hb2⟩
  have Hb2 := Lib.hid hb2
  clear hb2
  go_wp2_with fail
  refine (K2.out _).mono ?_
  rintro _ w3 ⟨rfl, rfl⟩
  go_wp2_with fail
  refine (jsync_nil _).mono ?_
  rintro _ w3 ⟨rfl, rfl⟩
  go_wp2_with fail
  refine (jrenew_nil _ _).mono ?_
  rintro _ w3 ⟨rfl, rfl⟩
  go_wp2_with fail
  refine (jlen_nil _).mono ?_
  rintro _ w3 ⟨rfl, rfl⟩
  go_wp2_with fail
  refine (jsynced_nil _).mono ?_
  rintro _ w3 ⟨rfl, rfl⟩
  go_wp2_with fail
  go_ret
  exact ⟨rfl, Hb2.out⟩
end Go.Proofs.YtpphljdnnlfjhaaDoor
namespace Go.Proofs.YtpphljdnnlfjhaaDoor
open Go.RowKit
set_option maxRecDepth 100000
set_option linter.unusedVariables false
set_option linter.unusedSimpArgs false

def fewL (L : List (List UInt8)) : List (List UInt8) := L.filter fun l => decide (l.length ≤ 4096)
theorem fewL_small (L : List (List UInt8)) : ∀ r ∈ fewL L, r.length ≤ 4096 := by
  intro r hr
  have := (List.mem_filter.1 hr).2
  simpa using this
theorem fewL_le (L : List (List UInt8)) : (fewL L).length ≤ L.length := List.length_filter_le _ _
set_option maxHeartbeats 800000 in
theorem few_any (A : Option Addr) (c : Nat) (L : List (List UInt8)) (w : World) (hr : Texts w w.heap.size A L) (hL : L.length ≤ 8796093022208) (hs : ∀ l ∈ L, l.length ≤ 140737488351232) :
    Calls Tryd.prog 17 #[.slice A L.length c] w fun e w' => (∃ A2 c2, e = .returned (.slice A2 (fewL L).length c2) ∧ (fewL L).length ≤ c2 ∧ Lst w' w.heap.size (.slice A2 (fewL L).length c2) (fewL L)) ∧ Below w.heap.size w w' := by
  obtain ⟨i0, hi, hz0, hz1, hz2⟩ := info_parts str_info
  have Hi := Lib.hid hi; clear hi
  have Hz0 := Lib.hid hz0; clear hz0
  have Hz1 := Lib.hid hz1; clear hz1
  have Hz2 := Lib.hid hz2; clear hz2
  have Hr := Lib.hid hr
  have Hs := Lib.hid hs
  clear hr hs
  go_enter Tryd.func17, Tryd.ntmps17
  go_wp2_with fail
  go_loopw [3, 4] (fun v i wr => ∃ k : Nat, k ≤ L.length ∧ i = .int .i64 (k : Int) ∧ wr.ownsRow w.heap.size 9 1 v (fewL (L.take k)).length ((fewL (L.take k)).map S) ∧ Below w.heap.size w wr) (fun _ i _ => L.length - (intOf i).toNat)
  case atStart => exact ⟨0, by omega, rfl, World.ownsRow_nil _ _ _ _, Below.refl _ _⟩
  case round =>
    obtain ⟨k, hk, rfl, hown, hb⟩ := hrel
    obtain ⟨acc, hacc⟩ : ∃ acc, fewL (L.take k) = acc := ⟨_, rfl⟩
    rw [hacc] at hown
    have hal : acc.length ≤ k := by rw [← hacc]; exact Nat.le_trans (fewL_le _) (by rw [List.length_take]; omega)
    have Hacc := Lib.hid hacc
    clear hacc
    obtain ⟨A3, c3, rfl, hc3⟩ : ∃ A c, u3 = .slice A acc.length c ∧ acc.length ≤ c := by
      rcases hown.2 with ⟨rfl, hx⟩ | ⟨g, cap, cur, rfl, _, _, hcap, _⟩
      · have : acc = [] := by simpa using hx
        subst this
        exact ⟨none, 0, rfl, Nat.le_refl _⟩
      · exact ⟨_, _, rfl, hcap⟩
    have Hb := Lib.hid hb
    have Hown := Lib.hid hown
    clear hb hown
    by_cases hlt : k < L.length
    · have d1 : decide ((k : Int) < (L.length : Int)) = true := by simp only [decide_eq_true_eq]; omega
      have d1' : decide (k < L.length) = true := by simp only [decide_eq_true_eq]; omega
      obtain ⟨b, off, rfl, hbl, hc⟩ := Hr.out (by rintro rfl; simp at hlt)
      have hck := hc k hlt
      have hcell : wr.cell? ⟨b, off + k, none⟩ = some (S L[k]) := by rw [← hck]; exact World.cell?_of_block (a := ⟨b, off + k, none⟩) (Hb.out.block b hbl)
      obtain ⟨s, hsb⟩ : ∃ s : ByteArray, (⟨L[k].toArray⟩ : ByteArray) = s := ⟨_, rfl⟩
      have hsz : s.size = L[k].length := by rw [← hsb]; rfl
      have hSv : S L[k] = .string s := by rw [← hsb]
      rw [hSv] at hcell
      have hsm := Hs.out L[k] (List.getElem_mem hlt)
      have hsucc : fewL (L.take (k + 1)) = if L[k].length ≤ 4096 then acc ++ [L[k]] else acc := by
        rw [List.take_succ_eq_append_getElem hlt]
        unfold fewL at *
        rw [List.filter_append, Hacc.out]
        by_cases hle : L[k].length ≤ 4096
        · rw [if_pos hle]; simp [hle]
        · rw [if_neg hle]; simp [hle]
      by_cases hle : s.size ≤ 4096
      · have d2 : decide ((s.size : Int) ≤ 4096) = true := by simp only [decide_eq_true_eq]; omega
        have d2' : decide (s.size ≤ 4096) = true := by simp only [decide_eq_true_eq]; omega
        rw [if_pos (by omega)] at hsucc
        have Hsucc := Lib.hid hsucc
        have hown1 := Hown.out.alloc (.cells #[.string s] 9)
        have hbel1 := Hb.out.alloc Hb.out.size (.cells #[.string s] 9)
        have hszw := hbel1.size
        have hMx : acc.length + 1 ≤ 8796093022208 := by omega
        have c1 : acc.length + 1 ≤ maxLen := Nat.le_trans hMx (by decide)
        have c4 : (acc.length + 1) * 16 ≤ 140737488355328 := by omega
        have hc1 := one_at wr 9 (.string s)
        have Hown1 := Lib.hid hown1
        have Hc1 := Lib.hid hc1
        have HSv := Lib.hid hSv
        have Hbl := Lib.hid hbl
        clear hown1 hc1 hc hck hsb hsz hSv hsm hsucc hbl
        go_wp2_with (at_builtin; refine wpList_append_own _ rfl (.tmp 17) (.tmp 22) _ rfl w.heap.size 9 i0 _ 1 16 Tryd.underlying22 Hi.out Hz0.out Hz1.out Hz2.out rfl (by decide) (.slice A3 acc.length c3) acc.length (acc.map S) rfl Hown1.out ⟨wr.heap.size, 0, none⟩ 1 1 [.string s] rfl rfl Hc1.out (by simp [Value.oneCell']) c1 c4 hszw ?_; intro v2 w2 hown2 hgr2 _)
        refine ⟨⟨k + 1, by omega, by go_num, ?_, hbel1.grown hgr2 hszw (fun g hg => (Hown1.out.lt g hg).1)⟩, by simp [intOf]; omega⟩
        rw [Hsucc.out, List.map_append, List.map_singleton, HSv.out, List.length_append]
        simpa using hown2
      · have d2 : decide ((s.size : Int) ≤ 4096) = false := by simp only [decide_eq_false_iff_not]; omega
        have d2' : decide (s.size ≤ 4096) = false := by simp only [decide_eq_false_iff_not]; omega
        rw [if_neg (by omega)] at hsucc
        have Hsucc := Lib.hid hsucc
        clear hc hck hsb hsz hSv hsm hsucc hbl
        go_wp2_with fail
        refine ⟨⟨k + 1, by omega, by go_num, by rw [Hsucc.out]; exact Hown.out, Hb.out⟩, by simp [intOf]; omega⟩
    · have d1 : decide ((k : Int) < (L.length : Int)) = false := by simp only [decide_eq_false_iff_not]; omega
      have d1' : decide (k < L.length) = false := by simp only [decide_eq_false_iff_not]; omega
      have hal2 : acc = fewL L := by rw [← Hacc.out, List.take_of_length_le (by omega)]
      have Hal := Lib.hid hal2
      clear hal2
      go_wp2_with fail
      go_ret
      rw [← Hal.out]
      refine ⟨⟨A3, c3, rfl, hc3, ?_⟩, Hb.out⟩
      rcases Hown.out.2 with ⟨hA, hx⟩ | ⟨g, cap, cur, hv, _⟩
      · have : acc = [] := by simpa using hx
        subst this
        exact lst_nil _ _ _ _
      · injection hv with hA1 hA2 hA3
        subst hA1
        subst hA3
        exact lst_own Hown.out _
end Go.Proofs.YtpphljdnnlfjhaaDoor
namespace Go.Proofs.YtpphljdnnlfjhaaDoor
open Go.RowKit
set_option maxRecDepth 100000
set_option linter.unusedVariables false
set_option linter.unusedSimpArgs false

theorem Lst.cut {w : World} {base : Nat} {A : Option Addr} {c : Nat} {L : List (List UInt8)} (h : Lst w base (.slice A L.length c) L) (hc : L.length ≤ c) (k : Nat) (hk : k ≤ L.length) :
    ∃ A2, (∀ W : World, (Instr.slice 22 (.slice A L.length c) none (some (.int .i64 (k : Int))) none).run Tryd.prog W = .ok (.slice A2 k c) W) ∧ Lst w base (.slice A2 k c) (L.take k) := by
  obtain ⟨A', c', hv, hr⟩ := h
  injection hv with e1 e2 e3
  subst e1
  subst e3
  have htk : (L.take k).length = k := by rw [List.length_take]; omega
  by_cases h0 : L = []
  · subst h0
    obtain rfl : k = 0 := by simpa using hk
    cases A with
    | none =>
      by_cases hc0 : c = 0
      · subst hc0
        exact ⟨none, fun W => by simp [go_sem], lst_nil _ _ _ _⟩
      · exact ⟨none, fun W => by simp [go_sem], lst_nil _ _ _ _⟩
    | some a => exact ⟨some a, fun W => by simp [go_sem], lst_nil _ _ _ _⟩
  · obtain ⟨b, e4, h1, h2, h3⟩ := hr h0
    subst e4
    have hkc : ¬ c < k := by omega
    refine ⟨some ⟨b, 0, none⟩, fun W => by simp [go_sem, hkc], some ⟨b, 0, none⟩, c, by rw [htk], fun _ => ⟨b, rfl, h1, h2, fun i hi => ?_⟩⟩
    rw [htk] at hi
    rw [h3 i (by omega)]
    simp
theorem quiet_same {W : World} {b1 b2 : Nat} {v1 v2 : Value} {L1 L2 : List (List UInt8)} (h1 : Lst W b1 v1 L1) (h2 : Lst W b2 v2 L2) (hl1 : L1.length ≤ 9223372036854775807) (he : L1 = L2) (n : Nat) :
    Calls Tryd.prog 11 #[v1, v2] (W.drewN n) fun e w' => e = .returned (.bool true) ∧ ∃ m, w' = W.drewN m := by
  subst he
  have hbm : Below W.heap.size W (W.drewN n) := bel_drewN (Below.refl _ _) n
  refine (same_lists (h1.below hbm) (h2.below hbm) hl1 hl1).mono ?_
  rintro e w' ⟨rfl, m, rfl⟩
  exact ⟨by simp, n + m, World.drewN_drewN _ _ _⟩
/-- what is told apart: the number k alone lacks -/
def Lacks (G : List (List UInt8)) (k i : Nat) (s : List UInt8) : Prop := (i ≤ k ∧ s = Jr.lays 0 (G.take i)) ∨ (k < i ∧ ∃ x, s = Jr.lays 0 (G.take k) ++ x)
theorem Lacks.skip {G : List (List UInt8)} {k : Nat} {s : List UInt8} (h : Lacks G k k s) : Lacks G k (k + 1) s := by
  rcases h with ⟨_, h⟩ | ⟨h, _⟩
  · exact .inr ⟨by omega, [], by rw [List.append_nil]; exact h⟩
  · omega
theorem Lacks.step {G : List (List UInt8)} {k i : Nat} {s : List UInt8} (h : Lacks G k i s) (hi : i < G.length) (hk : i ≠ k) : Lacks G k (i + 1) (s ++ Jr.lay i G[i]) := by
  rcases h with ⟨h1, h⟩ | ⟨h1, x, h⟩
  · refine .inl ⟨by omega, ?_⟩
    rw [List.take_succ_eq_append_getElem hi, Jr.lays_app, h, List.length_take, Nat.min_eq_left (by omega)]
    simp [Jr.lays]
  · exact .inr ⟨by omega, x ++ Jr.lay i G[i], by rw [h, List.append_assoc]⟩
set_option maxHeartbeats 3200000 in
theorem journalOrder_any (A : Option Addr) (c : Nat) (L : List (List UInt8)) (n : Int) (w : World) (hr : Texts w w.heap.size A L) (hL : L.length ≤ 8796093022208) (hs : ∀ l ∈ L, l.length ≤ 140737488351232) (hn : 0 ≤ n ∧ n ≤ 255) :
    Calls Tryd.prog 6 #[.slice A L.length c, .int .u8 n] w fun e w' => e = .returned (.bool true) ∧ Below w.heap.size w w' := by
  have kf := few_any A c L w hr hL hs
  have hsm := fewL_small L
  have hle := fewL_le L
  obtain ⟨F, hF⟩ : ∃ F, fewL L = F := ⟨_, rfl⟩
  rw [hF] at kf hsm hle
  have Kf := Lib.hid kf
  clear kf hF hs hr
  have hFl : F.length ≤ 8796093022208 := by omega
  clear hle hL
  by_cases h60 : 60 < F.length
  · have d0 : decide ((60 : Int) < (F.length : Int)) = true := by simp only [decide_eq_true_eq]; omega
    have d0' : decide (60 < F.length) = true := by simp only [decide_eq_true_eq]; omega
    go_enter Tryd.func6, Tryd.ntmps6
    go_wp2_with fail
    refine Kf.out.mono ?_
    rintro _ w1 ⟨⟨A2, c2, rfl, hc2, hl⟩, hb1⟩
    obtain ⟨A3, hsl, hl3⟩ := hl.cut hc2 60 (by omega)
    obtain ⟨G, hG⟩ : ∃ G, F.take 60 = G := ⟨_, rfl⟩
    have hGl : G.length = 60 := by rw [← hG, List.length_take]; omega
    have hGs : ∀ r ∈ G, r.length ≤ 4096 := fun r hr => hsm r (List.mem_of_mem_take (by rw [hG]; exact hr))
    rw [hG] at hl3
    have hl4 : Lst w1 w.heap.size (.slice A3 G.length c2) G := by rw [hGl]; exact hl3
    have hG60 : G.length ≤ 60 := by omega
    have hGc : G.length ≤ c2 := by omega
    have HGs := Lib.hid hGs
    have Hl := Lib.hid hl4
    have Hb1 := Lib.hid hb1
    have HG := Lib.hid hG
    have HGl := Lib.hid hGl
    clear hl hl3 hl4 hb1 hG hGs hsm hc2 h60 hFl
    have hsl60 : ∀ W : World, (Instr.slice 22 (.slice A2 F.length c2) none (some (.int .i64 60)) none).run Tryd.prog W = .ok (.slice A3 G.length c2) W := fun W => by rw [HGl.out]; exact hsl W
    clear hsl hGl
    have hne : G ≠ [] := by intro h; have := HGl.out; rw [h] at this; simp at this
    have hpos : 0 < G.length := by have := HGl.out; omega
    go_wp2_with fail
    refine (awake10 _).mono ?_
    rintro _ w2 ⟨rfl, hb2⟩
    have Hl2 := Lib.hid (Hl.out.below hb2)
    have Hb2 := Lib.hid (Hb1.out.trans (hb2.mono Hb1.out.size))
    clear hb2
    obtain ⟨k, hk⟩ : ∃ k : Nat, n % (G.length : Int) = (k : Int) := ⟨(n % (G.length : Int)).toNat, by have := Int.emod_nonneg n (b := (G.length : Int)) (by omega); omega⟩
    have hkl : k < G.length := by have := Int.emod_lt_of_pos n (b := (G.length : Int)) (by omega); omega
    have hrem : Int.tmod n (G.length : Int) = (k : Int) := by rw [Int.tmod_eq_emod_of_nonneg hn.1]; exact hk
    have hwk : IntKind.i64.wrap (k : Int) = (k : Int) := IntWalk.i64_in _ (by omega)
    have hwn : IntKind.i64.wrap n = n := IntWalk.i64_in _ (by omega)
    have e1 : ((G.length : Int) == 0) = false := by simp only [beq_eq_false_iff_ne]; omega
    have hp2 : (G.length : Int) ≠ 0 := by omega
    have hp3 : G.length ≠ 0 := by omega
    have Hk := Lib.hid hk
    clear hk
    go_wp2_with fail
    go_loopw [6, 7] (fun s i wr => ∃ (j : Nat) (sb : ByteArray), j ≤ G.length ∧ i = .int .i64 (j : Int) ∧ s = .string sb ∧ sb.size ≤ 4109 * j ∧ Lacks G k j sb.data.toList ∧ Below w2.heap.size w2 wr) (fun _ i _ => G.length - (intOf i).toNat)
    case atStart => exact ⟨0, ⟨#[]⟩, by omega, rfl, rfl, Nat.zero_le _, .inl ⟨Nat.zero_le _, rfl⟩, Below.refl _ _⟩
    case round =>
      obtain ⟨j, sb, hj, rfl, rfl, hsz, hla, hbr⟩ := hrel
      have hl3 := Hl2.out.below hbr
      have Hla := Lib.hid hla
      have Hl3 := Lib.hid hl3
      have Hbr := Lib.hid hbr
      clear hla hl3 hbr
      by_cases hlt : j < G.length
      · have d1 : decide ((j : Int) < (G.length : Int)) = true := by simp only [decide_eq_true_eq]; omega
        have d1' : decide (j < G.length) = true := by simp only [decide_eq_true_eq]; omega
        by_cases hjk : j = k
        · have d2 : ((j : Int) != (k : Int)) = false := by simp [hjk]
          have d2' : (j != k) = false := by simp [hjk]
          have d2'' : decide (j = k) = true := by simp [hjk]
          have Hjk := Lib.hid hjk
          clear hjk
          go_wp2_with fail
          refine ⟨⟨j + 1, sb, by omega, by go_num, rfl, by omega, ?_, Hbr.out⟩, by simp [intOf]; omega⟩
          have h := Hla.out
          rw [Hjk.out] at h ⊢
          exact h.skip
        · have d2 : ((j : Int) != (k : Int)) = true := by simp only [bne_iff_ne]; omega
          have d2' : (j != k) = true := by simp only [bne_iff_ne]; exact hjk
          have d2'' : decide (j = k) = false := by simp only [decide_eq_false_iff_not]; exact hjk
          obtain ⟨A', c', hv, hcs⟩ := Hl3.out
          injection hv with ev1 ev2 ev3
          obtain ⟨b, hA, _, _, hc⟩ := hcs (by intro h; rw [h] at hlt; simp at hlt)
          rw [hA] at ev1
          have hcell := hc j hlt
          obtain ⟨rb, hrb⟩ : ∃ r : ByteArray, (⟨G[j].toArray⟩ : ByteArray) = r := ⟨_, rfl⟩
          have hrl : rb.data.toList = G[j] := by rw [← hrb]
          have hrz : rb.size = G[j].length := by rw [← hrb]; rfl
          have hSv : S G[j] = .string rb := by rw [← hrb]
          rw [hSv] at hcell
          have hg4 := HGs.out G[j] (List.getElem_mem hlt)
          have kr := fun W : World => jrRec_any j rb W (by omega) (by omega)
          rw [hrl] at kr
          have hll := Jr.lay_le j G[j]
          obtain ⟨lb, hlb⟩ : ∃ lb : ByteArray, (⟨(Jr.lay j G[j]).toArray⟩ : ByteArray) = lb := ⟨_, rfl⟩
          have hlbl : lb.data.toList = Jr.lay j G[j] := by rw [← hlb]
          have hlbz : lb.size = (Jr.lay j G[j]).length := by rw [← hlb]; rfl
          have kr2 : ∀ W : World, Calls Tryd.prog 23 #[.int .i64 (j : Int), .string rb] W fun e w' => e = .returned (.string lb) ∧ Below W.heap.size W w' := by
            intro W; rw [← hlb]; exact kr W
          have hla2 : Lacks G k (j + 1) (sb ++ lb).data.toList := by
            have := Hla.out.step hlt hjk
            rw [← hlbl] at this
            simpa using this
          have hs2 : (sb ++ lb).size ≤ 4109 * (j + 1) := by rw [ByteArray.size_append]; omega
          have hlbs : lb.size ≤ 4109 := by omega
          have Kr := Lib.hid kr2
          have Hla2 := Lib.hid hla2
          have Hs2 := Lib.hid hs2
          clear kr kr2 hla2 hs2 hlb hlbl hlbz hll hg4 hSv hrz hrl hrb hc hcs ev2 ev3 hA hjk
          subst ev1
          go_wp2_with fail
          refine (Kr.out _).mono ?_
          rintro _ w4 ⟨rfl, hb4⟩
          have Hb4 := Lib.hid (Hbr.out.trans (hb4.mono Hbr.out.size))
          clear hb4
          go_wp2_with fail
          refine ⟨⟨j + 1, sb ++ lb, by omega, by go_num, rfl, Hs2.out, Hla2.out, Hb4.out⟩, by simp [intOf]; omega⟩
      · have d1 : decide ((j : Int) < (G.length : Int)) = false := by simp only [decide_eq_false_iff_not]; omega
        have d1' : decide (j < G.length) = false := by simp only [decide_eq_false_iff_not]; omega
        obtain ⟨x, hx⟩ : ∃ x, sb.data.toList = Jr.lays 0 (G.take k) ++ x := by
          rcases Hla.out with ⟨h, _⟩ | ⟨_, h⟩
          · omega
          · exact h
        have hpre := Jr.order_pre (G.take k) x (fun r hr => HGs.out r (List.mem_of_mem_take hr))
        rw [← hx] at hpre
        have kp := fun W : World => jrParse_cap sb W (by omega)
        have kq := fun W : World => jrRefParse_any sb W (by omega)
        have hmany := parse_many sb.data.toList
        have hsbl : sb.data.toList.length = sb.size := rfl
        obtain ⟨⟨P, m⟩, hp⟩ : ∃ x, Jr.parse sb.data.toList = x := ⟨_, rfl⟩
        rw [hp] at hpre hmany
        simp only [hp] at kp kq
        have hPl : P.length ≤ 9223372036854775807 := by
          have : P.length ≤ sb.data.toList.length := hmany
          omega
        have hgk : (G.take k).length = k := by rw [List.length_take]; omega
        have hkP : k ≤ P.length := by
          have := hpre.length_le
          simp only at this
          omega
        have htk : P.take k = G.take k := by
          have := List.prefix_iff_eq_take.1 hpre
          rw [hgk] at this
          exact this.symm
        have d4 : decide ((k : Int) ≤ (P.length : Int)) = true := by simp only [decide_eq_true_eq]; omega
        have d4' : decide (k ≤ P.length) = true := by simp only [decide_eq_true_eq]; exact hkP
        have Kp := Lib.hid kp
        have Kq := Lib.hid kq
        have Htk := Lib.hid htk
        clear kp kq htk hp hpre hx hmany hsbl hgk
        go_wp2_with fail
        refine (Kp.out _).mono ?_
        rintro _ w5 ⟨⟨AP, rfl, hl5⟩, hb5⟩
        have Hl5 := Lib.hid hl5
        have Hl3b := Lib.hid (Hl3.out.below hb5)
        have Hb5 := Lib.hid ((Hb2.out.trans (Hbr.out.mono Hb2.out.size)).trans (hb5.mono (Nat.le_trans Hb2.out.size Hbr.out.size)))
        clear hl5 hb5
        go_wp2_with fail
        refine (Kq.out _).mono ?_
        rintro _ w6 ⟨⟨v6, rfl, hl6⟩, hb6⟩
        have hb56 := Hb5.out.trans (hb6.mono Hb5.out.size)
        have hP6 := Hl5.out.below hb6
        have hG6 := Hl3b.out.below hb6
        obtain ⟨A7, hs7, hl7⟩ := hP6.cut (Nat.le_refl _) k hkP
        obtain ⟨A8, hs8, hl8⟩ := hG6.cut hGc k (by omega)
        have q1 := quiet_same hP6 hl6 hPl rfl
        have q2 := quiet_same hl7 hl8 (by rw [List.length_take]; omega) Htk.out
        have Hb6 := Lib.hid hb56
        have Q1 := Lib.hid q1
        have Q2 := Lib.hid q2
        clear q1 q2 hb56 hP6 hG6 hl7 hl8 hl6 hb6
        go_wp2_with fail
        go_quiet (first | (with_reducible exact Q1.out _) | (with_reducible exact Q2.out _))
        go_wp2_with fail
        go_ret
        exact ⟨by simp, bel_drewN Hb6.out _⟩
  · have d0 : decide ((60 : Int) < (F.length : Int)) = false := by simp only [decide_eq_false_iff_not]; omega
    have d0' : decide (60 < F.length) = false := by simp only [decide_eq_false_iff_not]; omega
    by_cases hne : F = []
    · subst hne
      go_enter Tryd.func6, Tryd.ntmps6
      go_wp2_with fail
      refine Kf.out.mono ?_
      rintro _ w1 ⟨⟨A3, c2, rfl, hc2, hl⟩, hb1⟩
      have Hb1 := Lib.hid hb1
      clear hl hb1 hc2
      simp only [List.length_nil] at *
      go_wp2_with fail
      refine (awake10 _).mono ?_
      rintro _ w2 ⟨rfl, hb2⟩
      have Hb2 := Lib.hid (Hb1.out.trans (hb2.mono Hb1.out.size))
      clear hb2
      go_wp2_with fail
      go_ret
      exact ⟨rfl, Hb2.out⟩
    · have hpos : 0 < F.length := List.length_pos_iff.2 hne
      have HGs := Lib.hid hsm
      have hG60 : F.length ≤ 60 := by omega
      clear hsm h60 hFl
      go_enter Tryd.func6, Tryd.ntmps6
      go_wp2_with fail
      refine Kf.out.mono ?_
      rintro _ w1 ⟨⟨A3, c2, rfl, hGc, hl⟩, hb1⟩
      have Hl := Lib.hid hl
      have Hb1 := Lib.hid hb1
      clear hl hb1
      go_wp2_with fail
      refine (awake10 _).mono ?_
      rintro _ w2 ⟨rfl, hb2⟩
      have Hl2 := Lib.hid (Hl.out.below hb2)
      have Hb2 := Lib.hid (Hb1.out.trans (hb2.mono Hb1.out.size))
      clear hb2
      obtain ⟨k, hk⟩ : ∃ k : Nat, n % (F.length : Int) = (k : Int) := ⟨(n % (F.length : Int)).toNat, by have := Int.emod_nonneg n (b := (F.length : Int)) (by omega); omega⟩
      have hkl : k < F.length := by have := Int.emod_lt_of_pos n (b := (F.length : Int)) (by omega); omega
      have hrem : Int.tmod n (F.length : Int) = (k : Int) := by rw [Int.tmod_eq_emod_of_nonneg hn.1]; exact hk
      have hwk : IntKind.i64.wrap (k : Int) = (k : Int) := IntWalk.i64_in _ (by omega)
      have hwn : IntKind.i64.wrap n = n := IntWalk.i64_in _ (by omega)
      have e1 : ((F.length : Int) == 0) = false := by simp only [beq_eq_false_iff_ne]; omega
      have hp2 : (F.length : Int) ≠ 0 := by omega
      have hp3 : F.length ≠ 0 := by omega
      have Hk := Lib.hid hk
      clear hk
      go_wp2_with fail
      go_loopw [6, 7] (fun s i wr => ∃ (j : Nat) (sb : ByteArray), j ≤ F.length ∧ i = .int .i64 (j : Int) ∧ s = .string sb ∧ sb.size ≤ 4109 * j ∧ Lacks F k j sb.data.toList ∧ Below w2.heap.size w2 wr) (fun _ i _ => F.length - (intOf i).toNat)
      case atStart => exact ⟨0, ⟨#[]⟩, by omega, rfl, rfl, Nat.zero_le _, .inl ⟨Nat.zero_le _, rfl⟩, Below.refl _ _⟩
      case round =>
        obtain ⟨j, sb, hj, rfl, rfl, hsz, hla, hbr⟩ := hrel
        have hl3 := Hl2.out.below hbr
        have Hla := Lib.hid hla
        have Hl3 := Lib.hid hl3
        have Hbr := Lib.hid hbr
        clear hla hl3 hbr
        by_cases hlt : j < F.length
        · have d1 : decide ((j : Int) < (F.length : Int)) = true := by simp only [decide_eq_true_eq]; omega
          have d1' : decide (j < F.length) = true := by simp only [decide_eq_true_eq]; omega
          by_cases hjk : j = k
          · have d2 : ((j : Int) != (k : Int)) = false := by simp [hjk]
            have d2' : (j != k) = false := by simp [hjk]
            have d2'' : decide (j = k) = true := by simp [hjk]
            have Hjk := Lib.hid hjk
            clear hjk
            go_wp2_with fail
            refine ⟨⟨j + 1, sb, by omega, by go_num, rfl, by omega, ?_, Hbr.out⟩, by simp [intOf]; omega⟩
            have h := Hla.out
            rw [Hjk.out] at h ⊢
            exact h.skip
          · have d2 : ((j : Int) != (k : Int)) = true := by simp only [bne_iff_ne]; omega
            have d2' : (j != k) = true := by simp only [bne_iff_ne]; exact hjk
            have d2'' : decide (j = k) = false := by simp only [decide_eq_false_iff_not]; exact hjk
            obtain ⟨A', c', hv, hcs⟩ := Hl3.out
            injection hv with ev1 ev2 ev3
            obtain ⟨b, hA, _, _, hc⟩ := hcs (by intro h; rw [h] at hlt; simp at hlt)
            rw [hA] at ev1
            have hcell := hc j hlt
            obtain ⟨rb, hrb⟩ : ∃ r : ByteArray, (⟨F[j].toArray⟩ : ByteArray) = r := ⟨_, rfl⟩
            have hrl : rb.data.toList = F[j] := by rw [← hrb]
            have hrz : rb.size = F[j].length := by rw [← hrb]; rfl
            have hSv : S F[j] = .string rb := by rw [← hrb]
            rw [hSv] at hcell
            have hg4 := HGs.out F[j] (List.getElem_mem hlt)
            have kr := fun W : World => jrRec_any j rb W (by omega) (by omega)
            rw [hrl] at kr
            have hll := Jr.lay_le j F[j]
            obtain ⟨lb, hlb⟩ : ∃ lb : ByteArray, (⟨(Jr.lay j F[j]).toArray⟩ : ByteArray) = lb := ⟨_, rfl⟩
            have hlbl : lb.data.toList = Jr.lay j F[j] := by rw [← hlb]
            have hlbz : lb.size = (Jr.lay j F[j]).length := by rw [← hlb]; rfl
            have kr2 : ∀ W : World, Calls Tryd.prog 23 #[.int .i64 (j : Int), .string rb] W fun e w' => e = .returned (.string lb) ∧ Below W.heap.size W w' := by
              intro W; rw [← hlb]; exact kr W
            have hla2 : Lacks F k (j + 1) (sb ++ lb).data.toList := by
              have := Hla.out.step hlt hjk
              rw [← hlbl] at this
              simpa using this
            have hs2 : (sb ++ lb).size ≤ 4109 * (j + 1) := by rw [ByteArray.size_append]; omega
            have hlbs : lb.size ≤ 4109 := by omega
            have Kr := Lib.hid kr2
            have Hla2 := Lib.hid hla2
            have Hs2 := Lib.hid hs2
            clear kr kr2 hla2 hs2 hlb hlbl hlbz hll hg4 hSv hrz hrl hrb hc hcs ev2 ev3 hA hjk
            subst ev1
            go_wp2_with fail
            refine (Kr.out _).mono ?_
            rintro _ w4 ⟨rfl, hb4⟩
            have Hb4 := Lib.hid (Hbr.out.trans (hb4.mono Hbr.out.size))
            clear hb4
            go_wp2_with fail
            refine ⟨⟨j + 1, sb ++ lb, by omega, by go_num, rfl, Hs2.out, Hla2.out, Hb4.out⟩, by simp [intOf]; omega⟩
        · have d1 : decide ((j : Int) < (F.length : Int)) = false := by simp only [decide_eq_false_iff_not]; omega
          have d1' : decide (j < F.length) = false := by simp only [decide_eq_false_iff_not]; omega
          obtain ⟨x, hx⟩ : ∃ x, sb.data.toList = Jr.lays 0 (F.take k) ++ x := by
            rcases Hla.out with ⟨h, _⟩ | ⟨_, h⟩
            · omega
            · exact h
          have hpre := Jr.order_pre (F.take k) x (fun r hr => HGs.out r (List.mem_of_mem_take hr))
          rw [← hx] at hpre
          have kp := fun W : World => jrParse_cap sb W (by omega)
          have kq := fun W : World => jrRefParse_any sb W (by omega)
          have hmany := parse_many sb.data.toList
          have hsbl : sb.data.toList.length = sb.size := rfl
          obtain ⟨⟨P, m⟩, hp⟩ : ∃ x, Jr.parse sb.data.toList = x := ⟨_, rfl⟩
          rw [hp] at hpre hmany
          simp only [hp] at kp kq
          have hPl : P.length ≤ 9223372036854775807 := by
            have : P.length ≤ sb.data.toList.length := hmany
            omega
          have hgk : (F.take k).length = k := by rw [List.length_take]; omega
          have hkP : k ≤ P.length := by
            have := hpre.length_le
            simp only at this
            omega
          have htk : P.take k = F.take k := by
            have := List.prefix_iff_eq_take.1 hpre
            rw [hgk] at this
            exact this.symm
          have d4 : decide ((k : Int) ≤ (P.length : Int)) = true := by simp only [decide_eq_true_eq]; omega
          have d4' : decide (k ≤ P.length) = true := by simp only [decide_eq_true_eq]; exact hkP
          have Kp := Lib.hid kp
          have Kq := Lib.hid kq
          have Htk := Lib.hid htk
          clear kp kq htk hp hpre hx hmany hsbl hgk
          go_wp2_with fail
          refine (Kp.out _).mono ?_
          rintro _ w5 ⟨⟨AP, rfl, hl5⟩, hb5⟩
          have Hl5 := Lib.hid hl5
          have Hl3b := Lib.hid (Hl3.out.below hb5)
          have Hb5 := Lib.hid ((Hb2.out.trans (Hbr.out.mono Hb2.out.size)).trans (hb5.mono (Nat.le_trans Hb2.out.size Hbr.out.size)))
          clear hl5 hb5
          go_wp2_with fail
          refine (Kq.out _).mono ?_
          rintro _ w6 ⟨⟨v6, rfl, hl6⟩, hb6⟩
          have hb56 := Hb5.out.trans (hb6.mono Hb5.out.size)
          have hP6 := Hl5.out.below hb6
          have hG6 := Hl3b.out.below hb6
          obtain ⟨A7, hs7, hl7⟩ := hP6.cut (Nat.le_refl _) k hkP
          obtain ⟨A8, hs8, hl8⟩ := hG6.cut hGc k (by omega)
          have q1 := quiet_same hP6 hl6 hPl rfl
          have q2 := quiet_same hl7 hl8 (by rw [List.length_take]; omega) Htk.out
          have Hb6 := Lib.hid hb56
          have Q1 := Lib.hid q1
          have Q2 := Lib.hid q2
          clear q1 q2 hb56 hP6 hG6 hl7 hl8 hl6 hb6
          go_wp2_with fail
          go_quiet (first | (with_reducible exact Q1.out _) | (with_reducible exact Q2.out _))
          go_wp2_with fail
          go_ret
          exact ⟨by simp, bel_drewN Hb6.out _⟩
end Go.Proofs.YtpphljdnnlfjhaaDoor
