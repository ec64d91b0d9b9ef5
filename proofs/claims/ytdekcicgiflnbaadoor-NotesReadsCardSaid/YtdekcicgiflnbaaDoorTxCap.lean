/- octets.ReadList with its slice's capacity; list. -/
import Derived.Test.YtdekcicgiflnbaaDoorTxReads
namespace Go.Proofs.YtdekcicgiflnbaaDoor.Cap
open Go.RowKit
set_option linter.unusedVariables false
set_option linter.unusedSimpArgs false

/-- a slice value that reads as these texts -/
def TextsV (w : World) (v : Value) (l : List (List UInt8)) : Prop := ∃ A c, v = .slice A l.length c ∧ l.length ≤ c ∧ Texts w w.heap.size A l
theorem texts_own {w : World} {base : Nat} {v : Value} {l : List (List UInt8)} (h : w.ownsRow base 9 1 v l.length (l.map S)) : TextsV w v l := by
  have hlt := h.lt
  have hcs := fun g (hg : v.ownBlock = some g) => h.cells hg
  rcases h.2 with ⟨rfl, hx⟩ | ⟨g, cap, cur, rfl, _, hh, hnc, _⟩
  · have : l = [] := by simpa using hx
    subst this
    exact ⟨none, 0, rfl, Nat.le_refl _, fun h => absurd rfl h⟩
  · refine ⟨some ⟨g, 0, none⟩, cap, rfl, by first | exact hnc | omega, fun _ => ⟨g, 0, rfl, (hlt g rfl).2, fun i hi => ?_⟩⟩
    have := hcs g rfl i (S l[i]) (by simp [hi])
    have e : (⟨g, 0, none⟩ : Addr).add i = ⟨g, 0 + i, none⟩ := by unfold Addr.add; split <;> simp_all
    rwa [e] at this

def ListEnds (w : World) (s : List UInt8) (p : Int) (e : Ending) (w' : World) : Prop :=
  ∃ v, e = .returned (.tuple #[v, .int .i64 (Oct.rdList s p).2.1, .int .i64 (Oct.rdList s p).2.2]) ∧ TextsV w' v (Oct.rdList s p).1 ∧ Below w.heap.size w w'

set_option maxRecDepth 20000 in
set_option maxHeartbeats 800000 in
theorem ReadList_any (s : ByteArray) (p : Int) (w : World) (hs : s.size ≤ 9223372036854775807) :
    Calls Tryd.prog 109 #[.string s, .int .i64 p] w (ListEnds w s.data.toList p) := by
  obtain ⟨i0, hi, hz0, hz1, hz2⟩ := info_parts str_info
  have Hi := Lib.hid hi; clear hi
  have Hz0 := Lib.hid hz0; clear hz0
  have Hz1 := Lib.hid hz1; clear hz1
  have Hz2 := Lib.hid hz2; clear hz2
  rcases hn : Oct.rdNum s.data.toList p with ⟨n, q, e⟩
  have hok := Oct.rdNum_ok hn
  have hv : rdNumV s p = three n q e := by unfold rdNumV; rw [hn]
  have hnil : ∀ W : World, TextsV W (.slice none 0 0) [] := fun W => ⟨none, 0, rfl, Nat.le_refl _, fun h => absurd rfl h⟩
  by_cases he : e ≠ 0
  · have hr : Oct.rdList s.data.toList p = ([], 0, e) := by unfold Oct.rdList; rw [hn]; simp only; rw [if_pos he]
    unfold ListEnds
    rw [hr]
    have hd : (e != 0) = true := by rw [bne_iff_ne]; exact he
    clear he hr hok
    have Hv := Lib.hid hv; clear hv hn
    go_enter Tryd.func109, Tryd.ntmps109
    go_wp2_with fail
    refine (readNumber_any s p _ hs).mono ?_
    rintro e w1 ⟨rfl, rfl⟩
    rw [Hv.out]
    unfold three
    go_wp2
    go_ret3
    exact ⟨_, rfl, hnil _, Below.refl _ _⟩
  · obtain rfl : e = 0 := by omega
    rcases hok with h | ⟨_, hp, hn0, hn1, hpq, hq, _⟩
    · exact absurd h.1 he
    by_cases h6 : 1024 < n
    · have hr : Oct.rdList s.data.toList p = ([], 0, 3) := by unfold Oct.rdList; rw [hn]; simp only; rw [if_neg he, if_pos h6]
      unfold ListEnds
      rw [hr]
      have hd : decide (1024 < n) = true := by simpa using h6
      clear he hr
      have Hv := Lib.hid hv; clear hv hn
      go_enter Tryd.func109, Tryd.ntmps109
      go_wp2_with fail
      refine (readNumber_any s p _ hs).mono ?_
      rintro e w1 ⟨rfl, rfl⟩
      rw [Hv.out]
      unfold three
      go_wp2
      go_ret3
      exact ⟨_, rfl, hnil _, Below.refl _ _⟩
    have hd : decide (1024 < n) = false := by simpa using h6
    obtain ⟨m, rfl⟩ := Int.eq_ofNat_of_zero_le hn0
    have hr : Oct.rdList s.data.toList p = finish (Oct.rdGo s.data.toList m 65536 q) := by
      unfold Oct.rdList; rw [hn]; simp only; rw [if_neg he, if_neg h6, Int.toNat_natCast]
      cases Oct.rdGo s.data.toList m 65536 q <;> rfl
    have hlen := Oct.bytes_len s
    rw [hlen] at hq
    have Hr := Lib.hid hr
    have Hv := Lib.hid hv
    clear hv hn he hr hlen
    go_enter Tryd.func109, Tryd.ntmps109
    go_wp2_with fail
    refine (readNumber_any s p _ hs).mono ?_
    rintro e w1 ⟨rfl, rfl⟩
    rw [Hv.out]
    unfold three
    go_wp2_with fail
    go_loopw [1, 9, 10, 27] (fun at_ left v i wr => ∃ (k : Nat) (acc : List (List UInt8)) (lf : Nat) (b : Int), k ≤ m ∧ acc.length = k ∧ lf ≤ 65536 ∧ 0 ≤ b ∧ b ≤ s.size ∧ i = .int .i64 k ∧ at_ = .int .i64 b ∧ left = .int .i64 lf ∧
        wr.ownsRow w.heap.size 9 1 v acc.length (acc.map S) ∧ Below w.heap.size w wr ∧ Oct.rdGo s.data.toList m 65536 q = more acc (Oct.rdGo s.data.toList (m - k) lf b)) (fun _ _ _ i _ => m - (intOf i).toNat)
    case atStart => exact ⟨0, [], 65536, q, by omega, rfl, by omega, by omega, hq, rfl, rfl, rfl, World.ownsRow_nil _ _ _ _, Below.refl _ _, by rw [more_nil, Nat.sub_zero]⟩
    case round =>
      obtain ⟨k, acc, lf, b, hk, hacc, hlf, hb0, hb1, rfl, rfl, rfl, hown, hbel, hrem⟩ := hrel
      have Hacc := Lib.hid hacc
      have Hrem := Lib.hid hrem
      clear hacc hrem
      by_cases hlt : k < m
      · rcases ht : Oct.rdText s.data.toList b with ⟨t, b2, e2⟩
        have hok := Oct.rdText_ok ht
        have Ht := Lib.hid ht
        clear ht
        obtain ⟨j, hj⟩ : ∃ j, m - k = j + 1 := ⟨m - k - 1, by omega⟩
        have hrem := Hrem.out
        rw [hj] at hrem
        by_cases he2 : e2 ≠ 0
        · have hfin : Oct.rdList s.data.toList p = ([], 0, e2) := by rw [Hr.out, hrem, more_err Ht.out he2]; rfl
          have Hfin := Lib.hid hfin
          have hd : (e2 != 0) = true := by rw [bne_iff_ne]; exact he2
          clear hfin hrem hj hok he2
          go_wp2_with fail
          refine (ReadText_any s b _ hs).mono ?_
          rintro e w1 ⟨rfl, hb2⟩
          rw [Ht.out]
          go_wp2_with fail
          go_ret3
          unfold ListEnds
          rw [Hfin.out]
          exact ⟨_, rfl, hnil _, hbel.trans (hb2.mono hbel.size)⟩
        obtain rfl : e2 = 0 := by omega
        rcases hok with h | ⟨_, _, ht64, hbb, hb2s, _⟩
        · exact absurd h.1 he2
        rw [Oct.bytes_len] at hb2s
        by_cases hbig : lf < t.length
        · have hfin : Oct.rdList s.data.toList p = ([], 0, 3) := by rw [Hr.out, hrem, more_big Ht.out hbig]; rfl
          have Hfin := Lib.hid hfin
          have hd1 : decide ((lf : Int) < (t.length : Int)) = true := by simp; omega
          have hd2 : decide (lf < t.length) = true := by simp; omega
          clear hfin hrem hj he2
          go_wp2_with fail
          refine (ReadText_any s b _ hs).mono ?_
          rintro e w1 ⟨rfl, hb2⟩
          rw [Ht.out]
          go_wp2_with fail
          go_ret3
          unfold ListEnds
          rw [Hfin.out]
          exact ⟨_, rfl, hnil _, hbel.trans (hb2.mono hbel.size)⟩
        · rw [more_step Ht.out hbig] at hrem
          have hj' : j = m - (k + 1) := by omega
          subst hj'
          have Hrem2 := Lib.hid hrem
          have hd1 : decide ((lf : Int) < (t.length : Int)) = false := by simp; omega
          have hd2 : decide (lf < t.length) = false := by simp; omega
          clear hrem hj he2
          go_wp2_with fail
          refine (ReadText_any s b _ hs).mono ?_
          rintro e w1 ⟨rfl, hb2⟩
          rw [Ht.out]
          have hown1 := (own_below hown hb2).alloc (.cells #[S t] 9)
          have hal := Hacc.out
          have hbel1 := (hbel.trans (hb2.mono hbel.size)).alloc (hbel.trans (hb2.mono hbel.size)).size (.cells #[S t] 9)
          have hsz := hbel1.size
          have c3 : acc.length + 1 ≤ maxLen := by unfold maxLen; omega
          have c4 : (acc.length + 1) * 16 ≤ 140737488355328 := by omega
          have hc1 := one_at w1 9 (S t)
          have Hown1 := Lib.hid hown1
          have Hc1 := Lib.hid hc1
          clear hown hown1 hc1 hal
          go_wp2_with (at_builtin; refine wpList_append_own _ rfl (.tmp 48) (.tmp 50) _ rfl w.heap.size 9 i0 _ 1 16 Tryd.underlying73 Hi.out Hz0.out Hz1.out Hz2.out rfl (by decide) u10 acc.length (acc.map S) rfl Hown1.out ⟨w1.heap.size, 0, none⟩ 1 1 [S t] rfl rfl Hc1.out (by simp [Value.oneCell']) c3 c4 hsz ?_; intro v2 w2 hown2 hgr2 _)
          refine ⟨⟨k + 1, acc ++ [t], lf - t.length, b2, by omega, by rw [List.length_append, Hacc.out]; rfl, by omega, by omega, hb2s, by go_num, rfl, ?_, ?_, hbel1.grown hgr2 hsz (fun g hg => (Hown1.out.lt g hg).1), Hrem2.out⟩, by simp [intOf]; omega⟩
          · congr 1; omega
          · simpa using hown2
      · obtain rfl : k = m := by omega
        have hfin : Oct.rdList s.data.toList p = (acc, b, 0) := by rw [Hr.out, Hrem.out, Nat.sub_self]; simp [Oct.rdGo, more, finish]
        have Hfin := Lib.hid hfin
        have Hown := Lib.hid hown
        clear hfin hown
        go_wp2_with fail
        go_ret3
        unfold ListEnds
        rw [Hfin.out]
        exact ⟨_, rfl, texts_own Hown.out, hbel⟩
set_option maxRecDepth 20000 in
theorem list_some (s : ByteArray) (L : List (List UInt8)) (w : World) (hs : s.size ≤ 9223372036854775807) (h : Tx.listAll s.data.toList = some L) :
    Calls Tryd.prog 70 #[.string s] w fun e w' => ∃ v, e = .returned (.tuple #[v, .int .i64 0]) ∧ TextsV w' v L ∧ Below w.heap.size w w' := by
  unfold Tx.listAll at h
  split at h
  · next h1 =>
    obtain ⟨h2, h3⟩ := h1
    have hL : (Oct.rdList s.data.toList 0).1 = L := by simpa using h
    have RL := ReadList_any s 0 w hs
    unfold ListEnds at RL
    rw [h2, h3, hL] at RL
    have hq : (s.data.toList.length : Int) = (s.size : Int) := by rw [Array.length_toList]; rfl
    rw [hq] at RL
    have HRL := Lib.hid RL
    clear h h2 h3 hL hq RL
    go_enter Tryd.func70, Tryd.ntmps70
    go_wp2_with fail
    refine HRL.out.mono ?_
    rintro _ w1 ⟨v, rfl, hT, hb⟩
    have HT := Lib.hid hT
    have Hb := Lib.hid hb
    clear hT hb
    go_wp2_with fail
    go_ret2
    exact ⟨_, rfl, HT.out, Hb.out⟩
  · cases h
end Go.Proofs.YtdekcicgiflnbaaDoor.Cap
