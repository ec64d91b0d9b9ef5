/- What later texts need besides of the earlier layers. -/
import Derived.Test.YtoicpidiejhjeaaDoorSlD
import Derived.Test.YtoicpidiejhjeaaDoorAdBack
namespace Go.Proofs.YtoicpidiejhjeaaDoor
set_option linter.unusedVariables false
set_option linter.unusedSimpArgs false
namespace Oct
end Oct
end Go.Proofs.YtoicpidiejhjeaaDoor
namespace Go.Proofs.YtoicpidiejhjeaaDoor
open Go.RowKit
set_option linter.unusedVariables false
set_option linter.unusedSimpArgs false
end Go.Proofs.YtoicpidiejhjeaaDoor
namespace Go.Proofs.YtoicpidiejhjeaaDoor
set_option linter.unusedVariables false
set_option linter.unusedSimpArgs false
namespace Oct
end Oct
end Go.Proofs.YtoicpidiejhjeaaDoor
namespace Go.Proofs.YtoicpidiejhjeaaDoor
open Go.RowKit
set_option linter.unusedVariables false
set_option linter.unusedSimpArgs false
end Go.Proofs.YtoicpidiejhjeaaDoor
namespace Go.Proofs.YtoicpidiejhjeaaDoor
open Go.RowKit
set_option linter.unusedVariables false
set_option linter.unusedSimpArgs false
end Go.Proofs.YtoicpidiejhjeaaDoor
namespace Go.Proofs.YtoicpidiejhjeaaDoor
open Go.RowKit
set_option linter.unusedVariables false
set_option linter.unusedSimpArgs false
end Go.Proofs.YtoicpidiejhjeaaDoor
namespace Go.Proofs.YtoicpidiejhjeaaDoor
open Go.RowKit
set_option linter.unusedVariables false
set_option linter.unusedSimpArgs false
end Go.Proofs.YtoicpidiejhjeaaDoor
namespace Go.Proofs.YtoicpidiejhjeaaDoor
open Go.RowKit
set_option linter.unusedVariables false
set_option linter.unusedSimpArgs false
end Go.Proofs.YtoicpidiejhjeaaDoor
namespace Go.Proofs.YtoicpidiejhjeaaDoor
open Go.RowKit
set_option linter.unusedVariables false
set_option linter.unusedSimpArgs false
theorem refReadNumber_out (s : ByteArray) (p : Int) (w : World) (h : p < 0 ∨ (s.size : Int) < p) :
    Calls Tryd.prog 57 #[.string s, .int .i64 p] w fun e w' => e = .returned (three 0 0 4) ∧ w = w' := by
  by_cases h0 : p < 0
  · have hd : decide (p < 0) = true := by simpa using h0
    go_enter Tryd.func57, Tryd.ntmps57
    go_wp2
    go_ret3
    exact ⟨rfl, rfl⟩
  · have hd : decide (p < 0) = false := by simpa using h0
    have h1 : (s.size : Int) < p := by omega
    have hd1 : decide ((s.size : Int) < p) = true := by simpa using h1
    go_enter Tryd.func57, Tryd.ntmps57
    go_wp2
    go_ret3
    exact ⟨rfl, rfl⟩
theorem refReadNumber_end (s : ByteArray) (w : World) :
    Calls Tryd.prog 57 #[.string s, .int .i64 s.size] w fun e w' => e = .returned (three 0 0 5) ∧ w = w' := by
  go_enter Tryd.func57, Tryd.ntmps57
  go_wp2
  go_ret3
  exact ⟨rfl, rfl⟩
theorem refReadNumber_big (s : ByteArray) (p : Nat) (w : World) (hs : s.size ≤ 140737488351232) (hp : p < s.size) (hk : 8 < s[p].toNat) :
    Calls Tryd.prog 57 #[.string s, .int .i64 p] w fun e w' => e = .returned (three 0 0 6) ∧ w = w' := by
  have hd : decide ((p : Int) < 0) = false := by simp
  have hd1 : decide (s.size < p) = false := by simp; omega
  have hd2 : ((p : Int) == (s.size : Int)) = false := by simp; omega
  have hb := byte_le s[p]
  have hd3 : decide ((8 : Int) < (s[p].toNat : Int)) = true := by simp; omega
  go_enter Tryd.func57, Tryd.ntmps57
  go_wp2
  go_ret3
  exact ⟨rfl, rfl⟩
theorem refReadNumber_short (s : ByteArray) (p : Nat) (w : World) (hs : s.size ≤ 140737488351232) (hp : p < s.size) (hk : s[p].toNat ≤ 8) (hk2 : s.size < p + 1 + s[p].toNat) :
    Calls Tryd.prog 57 #[.string s, .int .i64 p] w fun e w' => e = .returned (three 0 0 5) ∧ w = w' := by
  have hd : decide ((p : Int) < 0) = false := by simp
  have hd1 : decide (s.size < p) = false := by simp; omega
  have hd2 : ((p : Int) == (s.size : Int)) = false := by simp; omega
  have hb := byte_le s[p]
  have hd3 : decide ((8 : Int) < (s[p].toNat : Int)) = false := by simp; omega
  have hd4 : decide ((s.size : Int) < (p : Int) + 1 + (s[p].toNat : Int)) = true := by simp; omega
  go_enter Tryd.func57, Tryd.ntmps57
  go_wp2
  go_ret3
  exact ⟨rfl, rfl⟩
set_option maxRecDepth 20000 in
set_option maxHeartbeats 800000 in
theorem refReadNumber_loop (s : ByteArray) (p : Nat) (w : World) (hs : s.size ≤ 140737488351232) (hp : p < s.size) (hk : s[p].toNat ≤ 8) (hk2 : p + 1 + s[p].toNat ≤ s.size) :
    Calls Tryd.prog 57 #[.string s, .int .i64 p] w fun e w' => e = .returned (rdNumV s p) ∧ w = w' := by
  have hd : decide ((p : Int) < 0) = false := by simp
  have hd1 : decide (s.size < p) = false := by simp; omega
  have hd2 : ((p : Int) == (s.size : Int)) = false := by simp; omega
  have hb := byte_le s[p]
  have hd3 : decide ((8 : Int) < (s[p].toNat : Int)) = false := by simp; omega
  have hd4 : decide ((s.size : Int) < (p : Int) + 1 + (s[p].toNat : Int)) = false := by simp; omega
  go_enter Tryd.func57, Tryd.ntmps57
  go_wp2
  go_loop [8, 9] (fun n c => ∃ j : Nat, j ≤ s[p].toNat ∧ c = .int .i64 ((p + 1 + j : Nat) : Int) ∧ n = .int .u64 (Oct.val (Oct.own s p j))) (fun _ c => p + 1 + s[p].toNat - (intOf c).toNat)
  case atStart => exact ⟨0, by omega, by go_num, rfl⟩
  case round =>
    obtain ⟨j, hj, rfl, rfl⟩ := hrel
    by_cases hlt : j < s[p].toNat
    · have hsn := Oct.own_snoc s p j (by omega)
      have hvs : Oct.val (Oct.own s p (j + 1)) = Oct.val (Oct.own s p j) * 256 + (s[p + 1 + j]'(by omega)).toNat := by rw [hsn, Oct.val_snoc]
      have hvl : (Oct.val (Oct.own s p j) : Int) ≤ 72057594037927935 := by
        have h1 := Oct.val_lt (Oct.own s p j)
        rw [Oct.own_len s p j (by omega)] at h1
        have h2 : 256 ^ j ≤ 256 ^ 7 := Nat.pow_le_pow_right (by decide) (by omega)
        have h3 : (256 : Nat) ^ 7 = 72057594037927936 := by decide
        omega
      have hb2 := byte_le (s[p + 1 + j]'(by omega))
      have Hvs := Lib.hid hvs
      clear hvs hsn
      go_wp2
      go_round
      case rel => exact ⟨j + 1, by omega, by go_num, by rw [Hvs.out]; go_num⟩
      case measure => simp [intOf]; omega
    · obtain rfl : j = s[p].toNat := by omega
      have Hfine := fun h => Lib.hid (Oct.rdNum_fine s p hp hk hk2 h)
      have Hbad := fun h => Lib.hid (Oct.rdNum_bad s p hp hk hk2 h)
      by_cases hk0 : 0 < s[p].toNat
      · have hp1 : p + 1 < s.size := by omega
        have hp2 : (p : Int) + 1 < s.size := by omega
        have hd5 : decide ((0 : Int) < (s[p].toNat : Int)) = true := by simp; omega
        have hd6 : decide (0 < s[p].toNat) = true := by simp; omega
        by_cases hz : s[p + 1].toNat = 0
        · have hd7 : ((s[p + 1].toNat : Int) == 0) = true := by simp [hz]
          have Hres := Hbad (.inl ((Oct.head_zero s p _ hk2 hk0).2 hz))
          have Hz := Lib.hid hz
          clear hz Hfine Hbad
          go_wp2
          go_ret3
          unfold rdNumV
          rw [Hres.out]
          exact ⟨rfl, rfl⟩
        · have hd7 : ((s[p + 1].toNat : Int) == 0) = false := by simp; omega
          by_cases hv : 2 ^ 63 ≤ Oct.val (Oct.own s p s[p].toNat)
          · have hd8 : decide ((9223372036854775807 : Int) < (Oct.val (Oct.own s p s[p].toNat) : Int)) = true := by simp; omega
            have Hres := Hbad (.inr hv)
            clear hv Hfine Hbad
            go_wp2
            go_ret3
            unfold rdNumV
            rw [Hres.out]
            exact ⟨rfl, rfl⟩
          · have hd8 : decide ((9223372036854775807 : Int) < (Oct.val (Oct.own s p s[p].toNat) : Int)) = false := by simp; omega
            have Hres := Hfine (by
              rintro (h | h)
              · exact hz ((Oct.head_zero s p _ hk2 hk0).1 h)
              · exact hv h)
            have hv2 : (Oct.val (Oct.own s p s[p].toNat) : Int) ≤ 9223372036854775807 := by omega
            clear hv Hfine Hbad
            go_wp2
            go_ret3
            unfold rdNumV
            rw [Hres.out]
            exact ⟨rfl, rfl⟩
      · have hk00 : s[p].toNat ≤ 0 := by omega
        have hd5 : decide ((0 : Int) < (s[p].toNat : Int)) = false := by simp; omega
        have hd6 : decide (0 < s[p].toNat) = false := by simp; omega
        have hv : ¬ 2 ^ 63 ≤ Oct.val (Oct.own s p s[p].toNat) := by
          have h1 := Oct.val_small s p s[p].toNat (by omega) hk2
          omega
        have hd8 : decide ((9223372036854775807 : Int) < (Oct.val (Oct.own s p s[p].toNat) : Int)) = false := by simp; omega
        have Hres := Hfine (by
          rintro (h | h)
          · have e0 : s[p].toNat = 0 := by omega
            rw [e0, Oct.own_zero] at h; simp at h
          · exact hv h)
        have hv2 : (Oct.val (Oct.own s p s[p].toNat) : Int) ≤ 9223372036854775807 := by omega
        clear hv Hfine Hbad
        go_wp2
        go_ret3
        unfold rdNumV
        rw [Hres.out]
        exact ⟨rfl, rfl⟩
theorem refReadNumber_any (s : ByteArray) (p : Int) (w : World) (hs : s.size ≤ 140737488351232) :
    Calls Tryd.prog 57 #[.string s, .int .i64 p] w fun e w' => e = .returned (rdNumV s p) ∧ w = w' := by
  have hl := Oct.bytes_len s
  by_cases h0 : p < 0 ∨ (s.size : Int) < p
  · unfold rdNumV
    rw [Oct.rdNum_neg _ _ (by rw [hl]; exact h0)]
    exact refReadNumber_out s p w h0
  obtain ⟨k, rfl⟩ := Int.eq_ofNat_of_zero_le (show 0 ≤ p by omega)
  by_cases h1 : k = s.size
  · subst h1
    unfold rdNumV
    rw [Oct.rdNum_end]
    exact refReadNumber_end s w
  have hp : k < s.size := by omega
  by_cases h2 : 8 < s[k].toNat
  · unfold rdNumV
    rw [Oct.rdNum_big s k hp h2]
    exact refReadNumber_big s k w hs hp h2
  by_cases h3 : s.size < k + 1 + s[k].toNat
  · unfold rdNumV
    rw [Oct.rdNum_short s k hp (by omega) h3]
    exact refReadNumber_short s k w hs hp (by omega) h3
  exact refReadNumber_loop s k w hs hp (by omega) (by omega)
end Go.Proofs.YtoicpidiejhjeaaDoor
namespace Go.Proofs.YtoicpidiejhjeaaDoor
open Go.RowKit
set_option linter.unusedVariables false
set_option linter.unusedSimpArgs false
end Go.Proofs.YtoicpidiejhjeaaDoor
namespace Go.Proofs.YtoicpidiejhjeaaDoor
open Go.RowKit
set_option linter.unusedVariables false
set_option linter.unusedSimpArgs false
set_option maxRecDepth 20000 in
set_option maxHeartbeats 400000 in
theorem refReadText_any (s : ByteArray) (p : Int) (w : World) (hs : s.size ≤ 140737488351232) :
    Calls Tryd.prog 71 #[.string s, .int .i64 p] w fun e w' =>
      e = .returned (.tuple #[S (Oct.rdText s.data.toList p).1, .int .i64 (Oct.rdText s.data.toList p).2.1, .int .i64 (Oct.rdText s.data.toList p).2.2]) ∧ w = w' := by
  rcases hn : Oct.rdNum s.data.toList p with ⟨n, q, e⟩
  have hok := Oct.rdNum_ok hn
  have hv : rdNumV s p = three n q e := by unfold rdNumV; rw [hn]
  by_cases he : e ≠ 0
  · have hr : Oct.rdText s.data.toList p = ([], 0, e) := by unfold Oct.rdText; rw [hn]; simp only; rw [if_pos he]
    rw [hr]
    have hd : (e != 0) = true := by rw [bne_iff_ne]; exact he
    clear he hr hok
    have Hv := Lib.hid hv; clear hv hn
    go_enter Tryd.func71, Tryd.ntmps71
    go_wp2_with fail
    refine (refReadNumber_any s p _ hs).mono ?_
    rintro e w1 ⟨rfl, rfl⟩
    rw [Hv.out]
    unfold three
    go_wp2
    go_ret3
    exact ⟨rfl, rfl⟩
  · obtain rfl : e = 0 := by omega
    rcases hok with h | ⟨_, hp, hn0, hn1, hpq, hq, _⟩
    · exact absurd h.1 he
    have hlen := Oct.bytes_len s
    by_cases h6 : 65536 < n
    · have hr : Oct.rdText s.data.toList p = ([], 0, 3) := by unfold Oct.rdText; rw [hn]; simp only; rw [if_neg he, if_pos h6]
      rw [hr]
      have hd : decide (65536 < n) = true := by simpa using h6
      clear he hr
      have Hv := Lib.hid hv; clear hv hn
      go_enter Tryd.func71, Tryd.ntmps71
      go_wp2_with fail
      refine (refReadNumber_any s p _ hs).mono ?_
      rintro e w1 ⟨rfl, rfl⟩
      rw [Hv.out]
      unfold three
      go_wp2
      go_ret3
      exact ⟨rfl, rfl⟩
    have hd : decide (65536 < n) = false := by simpa using h6
    rw [hlen] at hq
    by_cases h7 : (s.size : Int) - q < n
    · have hr : Oct.rdText s.data.toList p = ([], 0, 5) := by unfold Oct.rdText; rw [hn]; simp only; rw [if_neg he, if_neg h6, hlen, if_pos h7]
      rw [hr]
      have hd2 : decide ((s.size : Int) < q + n) = true := by simp; omega
      clear he hr
      have Hv := Lib.hid hv; clear hv hn
      go_enter Tryd.func71, Tryd.ntmps71
      go_wp2_with fail
      refine (refReadNumber_any s p _ hs).mono ?_
      rintro e w1 ⟨rfl, rfl⟩
      rw [Hv.out]
      unfold three
      go_wp2
      go_ret3
      exact ⟨rfl, rfl⟩
    · have hr : Oct.rdText s.data.toList p = ((s.data.toList.drop q.toNat).take n.toNat, q + n, 0) := by unfold Oct.rdText; rw [hn]; simp only; rw [if_neg he, if_neg h6, hlen, if_neg h7]
      rw [hr]
      have hd2 : decide ((s.size : Int) < q + n) = false := by simp; omega
      have hq0 : 0 ≤ q := by omega
      obtain ⟨k, rfl⟩ := Int.eq_ofNat_of_zero_le hq0
      obtain ⟨m, rfl⟩ := Int.eq_ofNat_of_zero_le hn0
      clear he hr
      have Hv := Lib.hid hv; clear hv hn
      have hsl := cut_run (P := Tryd.prog) 9 Tryd.underlying9 s k m (by omega)
      go_enter Tryd.func71, Tryd.ntmps71
      go_wp2_with fail
      refine (refReadNumber_any s p _ hs).mono ?_
      rintro e w1 ⟨rfl, rfl⟩
      rw [Hv.out]
      unfold three
      go_wp2
      go_ret3
      exact ⟨rfl, rfl⟩
set_option maxRecDepth 20000 in
set_option maxHeartbeats 400000 in
theorem refReadList_any (s : ByteArray) (p : Int) (w : World) (hs : s.size ≤ 140737488351232) :
    Calls Tryd.prog 56 #[.string s, .int .i64 p] w (ListEnds w s.data.toList p) := by
  obtain ⟨i0, hi, hz0, hz1, hz2⟩ := info_parts str_info
  have Hi := Lib.hid hi; clear hi
  have Hz0 := Lib.hid hz0; clear hz0
  have Hz1 := Lib.hid hz1; clear hz1
  have Hz2 := Lib.hid hz2; clear hz2
  rcases hn : Oct.rdNum s.data.toList p with ⟨n, q, e⟩
  have hok := Oct.rdNum_ok hn
  have hv : rdNumV s p = three n q e := by unfold rdNumV; rw [hn]
  have hnil : ∀ W : World, TextsV W (.slice none 0 0) [] := fun W => ⟨none, 0, rfl, fun h => absurd rfl h⟩
  by_cases he : e ≠ 0
  · have hr : Oct.rdList s.data.toList p = ([], 0, e) := by unfold Oct.rdList; rw [hn]; simp only; rw [if_pos he]
    unfold ListEnds
    rw [hr]
    have hd : (e != 0) = true := by rw [bne_iff_ne]; exact he
    clear he hr hok
    have Hv := Lib.hid hv; clear hv hn
    go_enter Tryd.func56, Tryd.ntmps56
    go_wp2_with fail
    refine (refReadNumber_any s p _ hs).mono ?_
    rintro e w1 ⟨rfl, rfl⟩
    rw [Hv.out]
    unfold three
    go_wp2
    go_ret3
    exact ⟨_, rfl, hnil _, Below.refl _ _⟩
  · obtain rfl : e = 0 := by omega
    rcases hok with h | ⟨_, hp, hn0, hn1, hpq, hq, _⟩
    · exact absurd h.1 he
    by_cases h6 : 1024 < n
    · have hr : Oct.rdList s.data.toList p = ([], 0, 3) := by unfold Oct.rdList; rw [hn]; simp only; rw [if_neg he, if_pos h6]
      unfold ListEnds
      rw [hr]
      have hd : decide (1024 < n) = true := by simpa using h6
      clear he hr
      have Hv := Lib.hid hv; clear hv hn
      go_enter Tryd.func56, Tryd.ntmps56
      go_wp2_with fail
      refine (refReadNumber_any s p _ hs).mono ?_
      rintro e w1 ⟨rfl, rfl⟩
      rw [Hv.out]
      unfold three
      go_wp2
      go_ret3
      exact ⟨_, rfl, hnil _, Below.refl _ _⟩
    have hd : decide (1024 < n) = false := by simpa using h6
    obtain ⟨m, rfl⟩ := Int.eq_ofNat_of_zero_le hn0
    have hr : Oct.rdList s.data.toList p = finish (Oct.rdGo s.data.toList m 65536 q) := by
      unfold Oct.rdList; rw [hn]; simp only; rw [if_neg he, if_neg h6, Int.toNat_natCast]
      cases Oct.rdGo s.data.toList m 65536 q <;> rfl
    have hlen := Oct.bytes_len s
    rw [hlen] at hq
    have Hr := Lib.hid hr
    have Hv := Lib.hid hv
    clear hv hn he hr hlen
    go_enter Tryd.func56, Tryd.ntmps56
    go_wp2_with fail
    refine (refReadNumber_any s p _ hs).mono ?_
    rintro e w1 ⟨rfl, rfl⟩
    rw [Hv.out]
    unfold three
    go_wp2_with fail
    go_loopw [8, 11, 10, 12] (fun at_ sum v i wr => ∃ (k : Nat) (acc : List (List UInt8)) (lf : Nat) (b : Int), k ≤ m ∧ acc.length = k ∧ lf ≤ 65536 ∧ 0 ≤ b ∧ b ≤ s.size ∧ i = .int .i64 k ∧ at_ = .int .i64 b ∧ sum = .int .i64 (65536 - (lf : Int)) ∧
        wr.ownsRow w.heap.size 9 1 v acc.length (acc.map S) ∧ Below w.heap.size w wr ∧ Oct.rdGo s.data.toList m 65536 q = more acc (Oct.rdGo s.data.toList (m - k) lf b)) (fun _ _ _ i _ => m - (intOf i).toNat)
    case atStart => exact ⟨0, [], 65536, q, by omega, rfl, by omega, by omega, hq, rfl, rfl, rfl, World.ownsRow_nil _ _ _ _, Below.refl _ _, by rw [more_nil, Nat.sub_zero]⟩
    case round =>
      obtain ⟨k, acc, lf, b, hk, hacc, hlf, hb0, hb1, rfl, rfl, rfl, hown, hbel, hrem⟩ := hrel
      have Hacc := Lib.hid hacc
      have Hrem := Lib.hid hrem
      clear hacc hrem
      by_cases hlt : k < m
      · rcases ht : Oct.rdText s.data.toList b with ⟨t, b2, e2⟩
        have hok := Oct.rdText_ok ht
        have Ht := Lib.hid ht
        clear ht
        obtain ⟨j, hj⟩ : ∃ j, m - k = j + 1 := ⟨m - k - 1, by omega⟩
        have hrem := Hrem.out
        rw [hj] at hrem
        by_cases he2 : e2 ≠ 0
        · have hfin : Oct.rdList s.data.toList p = ([], 0, e2) := by rw [Hr.out, hrem, more_err Ht.out he2]; rfl
          have Hfin := Lib.hid hfin
          have hd : (e2 != 0) = true := by rw [bne_iff_ne]; exact he2
          clear hfin hrem hj hok he2
          go_wp2_with fail
          refine (refReadText_any s b _ hs).mono ?_
          rintro e w1 ⟨rfl, rfl⟩
          rw [Ht.out]
          go_wp2_with fail
          go_ret3
          unfold ListEnds
          rw [Hfin.out]
          exact ⟨_, rfl, hnil _, hbel⟩
        obtain rfl : e2 = 0 := by omega
        rcases hok with h | ⟨_, _, ht64, hbb, hb2s, _⟩
        · exact absurd h.1 he2
        rw [Oct.bytes_len] at hb2s
        by_cases hbig : lf < t.length
        · have hfin : Oct.rdList s.data.toList p = ([], 0, 3) := by rw [Hr.out, hrem, more_big Ht.out hbig]; rfl
          have Hfin := Lib.hid hfin
          have hd1 : decide ((65536 : Int) < 65536 - (lf : Int) + (t.length : Int)) = true := by simp; omega
          clear hfin hrem hj he2
          go_wp2_with fail
          refine (refReadText_any s b _ hs).mono ?_
          rintro e w1 ⟨rfl, rfl⟩
          rw [Ht.out]
          go_wp2_with fail
          go_ret3
          unfold ListEnds
          rw [Hfin.out]
          exact ⟨_, rfl, hnil _, hbel⟩
        · rw [more_step Ht.out hbig] at hrem
          have hj' : j = m - (k + 1) := by omega
          subst hj'
          have Hrem2 := Lib.hid hrem
          have hd1 : decide ((65536 : Int) < 65536 - (lf : Int) + (t.length : Int)) = false := by simp; omega
          clear hrem hj he2
          go_wp2_with fail
          refine (refReadText_any s b _ hs).mono ?_
          rintro e w1 ⟨rfl, rfl⟩
          rw [Ht.out]
          have hown1 := hown.alloc (.cells #[S t] 9)
          have hal := Hacc.out
          have hbel1 := hbel.alloc hbel.size (.cells #[S t] 9)
          have hsz := hbel1.size
          have c3 : acc.length + 1 ≤ maxLen := by unfold maxLen; omega
          have c4 : (acc.length + 1) * 16 ≤ 140737488355328 := by omega
          have hc1 := one_at wr 9 (S t)
          have Hown1 := Lib.hid hown1
          have Hc1 := Lib.hid hc1
          clear hown hown1 hc1 hal
          go_wp2_with (at_builtin; refine wpList_append_own _ rfl (.tmp 49) (.tmp 51) _ rfl w.heap.size 9 i0 _ 1 16 Tryd.underlying66 Hi.out Hz0.out Hz1.out Hz2.out rfl (by decide) u10 acc.length (acc.map S) rfl Hown1.out ⟨wr.heap.size, 0, none⟩ 1 1 [S t] rfl rfl Hc1.out (by simp [Value.oneCell']) c3 c4 hsz ?_; intro v2 w2 hown2 hgr2 _)
          refine ⟨⟨k + 1, acc ++ [t], lf - t.length, b2, by omega, by rw [List.length_append, Hacc.out]; rfl, by omega, by omega, hb2s, by go_num, rfl, ?_, ?_, hbel1.grown hgr2 hsz (fun g hg => (Hown1.out.lt g hg).1), Hrem2.out⟩, by simp [intOf]; omega⟩
          · congr 1; omega
          · simpa using hown2
      · obtain rfl : k = m := by omega
        have hfin : Oct.rdList s.data.toList p = (acc, b, 0) := by rw [Hr.out, Hrem.out, Nat.sub_self]; simp [Oct.rdGo, more, finish]
        have Hfin := Lib.hid hfin
        have Hown := Lib.hid hown
        clear hfin hown
        go_wp2_with fail
        go_ret3
        unfold ListEnds
        rw [Hfin.out]
        exact ⟨_, rfl, texts_own Hown.out, hbel⟩
end Go.Proofs.YtoicpidiejhjeaaDoor
namespace Go.Proofs.YtoicpidiejhjeaaDoor
open Go.RowKit
set_option linter.unusedVariables false
set_option linter.unusedSimpArgs false
end Go.Proofs.YtoicpidiejhjeaaDoor
