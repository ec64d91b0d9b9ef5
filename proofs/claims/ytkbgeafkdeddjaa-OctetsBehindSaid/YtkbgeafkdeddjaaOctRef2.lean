/- The reference's ReadText, ReadList, List, Same: what they return. -/
import Derived.Test.YtkbgeafkdeddjaaOctRef
import Derived.Test.YtkbgeafkdeddjaaOctList
import Derived.Test.YtkbgeafkdeddjaaOwn8
namespace Go.Proofs.Ytkbgeafkdeddjaa
open Go.RowKit
set_option linter.unusedVariables false

set_option maxHeartbeats 400000 in
theorem refReadText_any (s : ByteArray) (p : Int) (w : World) (hs : s.size ≤ 140737488351232) :
    Calls Try.prog 19 #[.string s, .int .i64 p] w fun e w' =>
      e = .returned (.tuple #[S (Oct.rdText s.data.toList p).1, .int .i64 (Oct.rdText s.data.toList p).2.1, .int .i64 (Oct.rdText s.data.toList p).2.2]) ∧ w = w' := by
  rcases hn : Oct.rdNum s.data.toList p with ⟨n, q, e⟩
  have hok := Oct.rdNum_ok hn
  have hv : rdNumV s p = three n q e := by unfold rdNumV; rw [hn]
  by_cases he : e ≠ 0
  · have hr : Oct.rdText s.data.toList p = ([], 0, e) := by unfold Oct.rdText; rw [hn]; simp only; rw [if_pos he]
    rw [hr]
    have hd : (e != 0) = true := by rw [bne_iff_ne]; exact he
    clear he hr hok
    have Hv := Lib.hid hv; clear hv hn
    go_enter Try.func19, Try.ntmps19
    go_wp2_with fail
    refine (refReadNumber_any s p _ hs).mono ?_
    rintro e w1 ⟨rfl, rfl⟩
    rw [Hv.out]
    unfold three
    go_wp2
    go_ret3
    exact ⟨rfl, rfl⟩
  · obtain rfl : e = 0 := by omega
    rcases hok with h | ⟨_, hp, hn0, hn1, hpq, hq, _⟩
    · exact absurd h.1 he
    have hlen := Oct.bytes_len s
    by_cases h6 : 65536 < n
    · have hr : Oct.rdText s.data.toList p = ([], 0, 3) := by unfold Oct.rdText; rw [hn]; simp only; rw [if_neg he, if_pos h6]
      rw [hr]
      have hd : decide (65536 < n) = true := by simpa using h6
      clear he hr
      have Hv := Lib.hid hv; clear hv hn
      go_enter Try.func19, Try.ntmps19
      go_wp2_with fail
      refine (refReadNumber_any s p _ hs).mono ?_
      rintro e w1 ⟨rfl, rfl⟩
      rw [Hv.out]
      unfold three
      go_wp2
      go_ret3
      exact ⟨rfl, rfl⟩
    have hd : decide (65536 < n) = false := by simpa using h6
    rw [hlen] at hq
    by_cases h7 : (s.size : Int) - q < n
    · have hr : Oct.rdText s.data.toList p = ([], 0, 5) := by unfold Oct.rdText; rw [hn]; simp only; rw [if_neg he, if_neg h6, hlen, if_pos h7]
      rw [hr]
      have hd2 : decide ((s.size : Int) < q + n) = true := by simp; omega
      clear he hr
      have Hv := Lib.hid hv; clear hv hn
      go_enter Try.func19, Try.ntmps19
      go_wp2_with fail
      refine (refReadNumber_any s p _ hs).mono ?_
      rintro e w1 ⟨rfl, rfl⟩
      rw [Hv.out]
      unfold three
      go_wp2
      go_ret3
      exact ⟨rfl, rfl⟩
    · have hr : Oct.rdText s.data.toList p = ((s.data.toList.drop q.toNat).take n.toNat, q + n, 0) := by unfold Oct.rdText; rw [hn]; simp only; rw [if_neg he, if_neg h6, hlen, if_neg h7]
      rw [hr]
      have hd2 : decide ((s.size : Int) < q + n) = false := by simp; omega
      have hq0 : 0 ≤ q := by omega
      obtain ⟨k, rfl⟩ := Int.eq_ofNat_of_zero_le hq0
      obtain ⟨m, rfl⟩ := Int.eq_ofNat_of_zero_le hn0
      clear he hr
      have Hv := Lib.hid hv; clear hv hn
      have hsl := cut_run (P := Try.prog) 9 Try.underlying9 s k m (by omega)
      go_enter Try.func19, Try.ntmps19
      go_wp2_with fail
      refine (refReadNumber_any s p _ hs).mono ?_
      rintro e w1 ⟨rfl, rfl⟩
      rw [Hv.out]
      unfold three
      go_wp2
      go_ret3
      exact ⟨rfl, rfl⟩

set_option maxHeartbeats 400000 in
theorem refReadList_any (s : ByteArray) (p : Int) (w : World) (hs : s.size ≤ 140737488351232) :
    Calls Try.prog 21 #[.string s, .int .i64 p] w (ListEnds w s.data.toList p) := by
  obtain ⟨i0, hi, hz0, hz1, hz2⟩ := info_parts str_info
  have Hi := Lib.hid hi; clear hi
  have Hz0 := Lib.hid hz0; clear hz0
  have Hz1 := Lib.hid hz1; clear hz1
  have Hz2 := Lib.hid hz2; clear hz2
  rcases hn : Oct.rdNum s.data.toList p with ⟨n, q, e⟩
  have hok := Oct.rdNum_ok hn
  have hv : rdNumV s p = three n q e := by unfold rdNumV; rw [hn]
  have hnil : ∀ W : World, TextsV W (.slice none 0 0) [] := fun W => ⟨none, 0, rfl, fun h => absurd rfl h⟩
  by_cases he : e ≠ 0
  · have hr : Oct.rdList s.data.toList p = ([], 0, e) := by unfold Oct.rdList; rw [hn]; simp only; rw [if_pos he]
    unfold ListEnds
    rw [hr]
    have hd : (e != 0) = true := by rw [bne_iff_ne]; exact he
    clear he hr hok
    have Hv := Lib.hid hv; clear hv hn
    go_enter Try.func21, Try.ntmps21
    go_wp2_with fail
    refine (refReadNumber_any s p _ hs).mono ?_
    rintro e w1 ⟨rfl, rfl⟩
    rw [Hv.out]
    unfold three
    go_wp2
    go_ret3
    exact ⟨_, rfl, hnil _, Below.refl _ _⟩
  · obtain rfl : e = 0 := by omega
    rcases hok with h | ⟨_, hp, hn0, hn1, hpq, hq, _⟩
    · exact absurd h.1 he
    by_cases h6 : 1024 < n
    · have hr : Oct.rdList s.data.toList p = ([], 0, 3) := by unfold Oct.rdList; rw [hn]; simp only; rw [if_neg he, if_pos h6]
      unfold ListEnds
      rw [hr]
      have hd : decide (1024 < n) = true := by simpa using h6
      clear he hr
      have Hv := Lib.hid hv; clear hv hn
      go_enter Try.func21, Try.ntmps21
      go_wp2_with fail
      refine (refReadNumber_any s p _ hs).mono ?_
      rintro e w1 ⟨rfl, rfl⟩
      rw [Hv.out]
      unfold three
      go_wp2
      go_ret3
      exact ⟨_, rfl, hnil _, Below.refl _ _⟩
    have hd : decide (1024 < n) = false := by simpa using h6
    obtain ⟨m, rfl⟩ := Int.eq_ofNat_of_zero_le hn0
    have hr : Oct.rdList s.data.toList p = finish (Oct.rdGo s.data.toList m 65536 q) := by
      unfold Oct.rdList; rw [hn]; simp only; rw [if_neg he, if_neg h6, Int.toNat_natCast]
      cases Oct.rdGo s.data.toList m 65536 q <;> rfl
    have hlen := Oct.bytes_len s
    rw [hlen] at hq
    have Hr := Lib.hid hr
    have Hv := Lib.hid hv
    clear hv hn he hr hlen
    go_enter Try.func21, Try.ntmps21
    go_wp2_with fail
    refine (refReadNumber_any s p _ hs).mono ?_
    rintro e w1 ⟨rfl, rfl⟩
    rw [Hv.out]
    unfold three
    go_wp2_with fail
    go_loopw [8, 11, 10, 12] (fun at_ sum v i wr => ∃ (k : Nat) (acc : List (List UInt8)) (lf : Nat) (b : Int), k ≤ m ∧ acc.length = k ∧ lf ≤ 65536 ∧ 0 ≤ b ∧ b ≤ s.size ∧ i = .int .i64 k ∧ at_ = .int .i64 b ∧ sum = .int .i64 (65536 - (lf : Int)) ∧
        wr.ownsRow w.heap.size 9 1 v acc.length (acc.map S) ∧ Below w.heap.size w wr ∧ Oct.rdGo s.data.toList m 65536 q = more acc (Oct.rdGo s.data.toList (m - k) lf b)) (fun _ _ _ i _ => m - (intOf i).toNat)
    case atStart => exact ⟨0, [], 65536, q, by omega, rfl, by omega, by omega, hq, rfl, rfl, rfl, World.ownsRow_nil _ _ _ _, Below.refl _ _, by rw [more_nil, Nat.sub_zero]⟩
    case round =>
      obtain ⟨k, acc, lf, b, hk, hacc, hlf, hb0, hb1, rfl, rfl, rfl, hown, hbel, hrem⟩ := hrel
      have Hacc := Lib.hid hacc
      have Hrem := Lib.hid hrem
      clear hacc hrem
      by_cases hlt : k < m
      · rcases ht : Oct.rdText s.data.toList b with ⟨t, b2, e2⟩
        have hok := Oct.rdText_ok ht
        have Ht := Lib.hid ht
        clear ht
        obtain ⟨j, hj⟩ : ∃ j, m - k = j + 1 := ⟨m - k - 1, by omega⟩
        have hrem := Hrem.out
        rw [hj] at hrem
        by_cases he2 : e2 ≠ 0
        · have hfin : Oct.rdList s.data.toList p = ([], 0, e2) := by rw [Hr.out, hrem, more_err Ht.out he2]; rfl
          have Hfin := Lib.hid hfin
          have hd : (e2 != 0) = true := by rw [bne_iff_ne]; exact he2
          clear hfin hrem hj hok he2
          go_wp2_with fail
          refine (refReadText_any s b _ hs).mono ?_
          rintro e w1 ⟨rfl, rfl⟩
          rw [Ht.out]
          go_wp2_with fail
          go_ret3
          unfold ListEnds
          rw [Hfin.out]
          exact ⟨_, rfl, hnil _, hbel⟩
        obtain rfl : e2 = 0 := by omega
        rcases hok with h | ⟨_, _, ht64, hbb, hb2s, _⟩
        · exact absurd h.1 he2
        rw [Oct.bytes_len] at hb2s
        by_cases hbig : lf < t.length
        · have hfin : Oct.rdList s.data.toList p = ([], 0, 3) := by rw [Hr.out, hrem, more_big Ht.out hbig]; rfl
          have Hfin := Lib.hid hfin
          have hd1 : decide ((65536 : Int) < 65536 - (lf : Int) + (t.length : Int)) = true := by simp; omega
          clear hfin hrem hj he2
          go_wp2_with fail
          refine (refReadText_any s b _ hs).mono ?_
          rintro e w1 ⟨rfl, rfl⟩
          rw [Ht.out]
          go_wp2_with fail
          go_ret3
          unfold ListEnds
          rw [Hfin.out]
          exact ⟨_, rfl, hnil _, hbel⟩
        · rw [more_step Ht.out hbig] at hrem
          have hj' : j = m - (k + 1) := by omega
          subst hj'
          have Hrem2 := Lib.hid hrem
          have hd1 : decide ((65536 : Int) < 65536 - (lf : Int) + (t.length : Int)) = false := by simp; omega
          clear hrem hj he2
          go_wp2_with fail
          refine (refReadText_any s b _ hs).mono ?_
          rintro e w1 ⟨rfl, rfl⟩
          rw [Ht.out]
          have hown1 := hown.alloc (.cells #[S t] 9)
          have hal := Hacc.out
          have hbel1 := hbel.alloc hbel.size (.cells #[S t] 9)
          have hsz := hbel1.size
          have c3 : acc.length + 1 ≤ maxLen := by unfold maxLen; omega
          have c4 : (acc.length + 1) * 16 ≤ 140737488355328 := by omega
          have hc1 := one_at wr 9 (S t)
          have Hown1 := Lib.hid hown1
          have Hc1 := Lib.hid hc1
          clear hown hown1 hc1 hal
          go_wp2_with (at_builtin; refine wpList_append_own _ rfl (.tmp 49) (.tmp 51) _ rfl w.heap.size 9 i0 _ 1 16 Try.underlying28 Hi.out Hz0.out Hz1.out Hz2.out rfl (by decide) u10 acc.length (acc.map S) rfl Hown1.out ⟨wr.heap.size, 0, none⟩ 1 1 [S t] rfl rfl Hc1.out (by simp [Value.oneCell']) c3 c4 hsz ?_; intro v2 w2 hown2 hgr2 _)
          refine ⟨⟨k + 1, acc ++ [t], lf - t.length, b2, by omega, by rw [List.length_append, Hacc.out]; rfl, by omega, by omega, hb2s, by go_num, rfl, ?_, ?_, hbel1.grown hgr2 hsz (fun g hg => (Hown1.out.lt g hg).1), Hrem2.out⟩, by simp [intOf]; omega⟩
          · congr 1; omega
          · simpa using hown2
      · obtain rfl : k = m := by omega
        have hfin : Oct.rdList s.data.toList p = (acc, b, 0) := by rw [Hr.out, Hrem.out, Nat.sub_self]; simp [Oct.rdGo, more, finish]
        have Hfin := Lib.hid hfin
        have Hown := Lib.hid hown
        clear hfin hown
        go_wp2_with fail
        go_ret3
        unfold ListEnds
        rw [Hfin.out]
        exact ⟨_, rfl, texts_own Hown.out, hbel⟩
end Go.Proofs.Ytkbgeafkdeddjaa
