/- octets.Number, Text, ReadText: what they return. -/
import Derived.Test.YtkbgeafkdeddjaaOctNum
import Derived.Test.YtkbgeafkdeddjaaOctRdn
import Derived.Test.YtkbgeafkdeddjaaOctJoin
import Derived.Deep.RegionWith
namespace Go.Proofs.Ytkbgeafkdeddjaa
open Go.RowKit
set_option linter.unusedVariables false

def two (l : List UInt8) (e : Int) : Value := .tuple #[S l, .int .i64 e]

theorem join_one (a : List UInt8) (w : World) (h : a.length ≤ 281474976710656) :
    Calls Try.prog 24 #[.slice (some ⟨w.heap.size, 0, none⟩) 1 1] (w.alloc (.cells #[S a] 9)) fun e w' => e = .returned (S a) ∧ Below w.heap.size w w' := by
  have ht : Texts (w.alloc (.cells #[S a] 9)) (w.alloc (.cells #[S a] 9)).heap.size (some ⟨w.heap.size, 0, none⟩) [a] := fun _ => ⟨w.heap.size, 0, rfl, by simp, fun i hi => by
    obtain rfl : i = 0 := by simpa using hi
    simp [go_sem]⟩
  have hj := join_any (some ⟨w.heap.size, 0, none⟩) 1 [a] _ ht (by simp) (by simpa using h)
  refine hj.mono ?_
  rintro e w' ⟨rfl, hb⟩
  exact ⟨by simp, ((Below.refl _ _).alloc (Nat.le_refl _) _).trans (hb.mono (by simp))⟩
theorem join_two (a b : List UInt8) (w : World) (h : a.length + b.length ≤ 281474976710656) :
    Calls Try.prog 24 #[.slice (some ⟨w.heap.size, 0, none⟩) 2 2] (w.alloc (.cells #[S a, S b] 9)) fun e w' => e = .returned (S (a ++ b)) ∧ Below w.heap.size w w' := by
  have ht : Texts (w.alloc (.cells #[S a, S b] 9)) (w.alloc (.cells #[S a, S b] 9)).heap.size (some ⟨w.heap.size, 0, none⟩) [a, b] := fun _ => ⟨w.heap.size, 0, rfl, by simp, fun i hi => by
    have h2 : i = 0 ∨ i = 1 := by simp at hi; omega
    rcases h2 with rfl | rfl <;> simp [go_sem]⟩
  have hj := join_any (some ⟨w.heap.size, 0, none⟩) 2 [a, b] _ ht (by simp) (by simpa using h)
  refine hj.mono ?_
  rintro e w' ⟨rfl, hb⟩
  exact ⟨by simp, ((Below.refl _ _).alloc (Nat.le_refl _) _).trans (hb.mono (by simp))⟩

set_option maxHeartbeats 400000 in
theorem Number_any (n : Int) (w : World) (h1 : n ≤ 9223372036854775807) :
    Calls Try.prog 9 #[.int .i64 n] w fun e w' => e = .returned (two (Oct.numE n).1 (Oct.numE n).2) ∧ Below w.heap.size w w' := by
  by_cases h0 : n < 0
  · have e : Oct.numE n = ([], 2) := by unfold Oct.numE; rw [if_pos h0]
    rw [e]
    go_enter Try.func9, Try.ntmps9
    go_wp2_with fail
    go_ret2
    exact ⟨rfl, Below.refl _ _⟩
  · have e : Oct.numE n = (Oct.num n.toNat, 0) := by unfold Oct.numE; rw [if_neg h0]
    rw [e]
    go_enter Try.func9, Try.ntmps9
    go_wp2_with (go_at_call 23; refine (number_any n _ (by omega) h1).mono ?_; rintro e w1 ⟨rfl, hb1⟩)
    go_ret2
    exact ⟨rfl, hb1⟩

set_option maxHeartbeats 400000 in
theorem Text_any (s : ByteArray) (w : World) (hs : s.size ≤ 9223372036854775807) :
    Calls Try.prog 11 #[.string s] w fun e w' => e = .returned (two (Oct.textE s.data.toList).1 (Oct.textE s.data.toList).2) ∧ Below w.heap.size w w' := by
  by_cases h0 : 65536 < s.size
  · have e : Oct.textE s.data.toList = ([], 3) := by unfold Oct.textE; rw [Oct.bytes_len, if_pos h0]
    rw [e]
    go_enter Try.func11, Try.ntmps11
    go_wp2_with fail
    go_ret2
    exact ⟨rfl, Below.refl _ _⟩
  · have e : Oct.textE s.data.toList = (Oct.text s.data.toList, 0) := by unfold Oct.textE; rw [Oct.bytes_len, if_neg h0]
    rw [e]
    go_enter Try.func11, Try.ntmps11
    go_wp2_with fail
    refine (number_any _ _ (by omega) (by omega)).mono ?_
    rintro e w1 ⟨rfl, hb1⟩
    go_wp2_with fail
    refine (join_two (Oct.num s.size) s.data.toList w1 (by have := Oct.num_length_le s.size; rw [Oct.bytes_len]; omega)).mono ?_
    rintro e w2 ⟨rfl, hb2⟩
    go_wp2_with fail
    go_ret2
    refine ⟨rfl, hb1.trans (hb2.mono hb1.size)⟩

theorem extract_list (s : ByteArray) (k m : Nat) : s.extract k (k + m) = ⟨((s.data.toList.drop k).take m).toArray⟩ := by
  have h := ByteArray.extract_mk s.data.toList k (k + m)
  rw [Nat.add_sub_cancel_left] at h
  exact h
theorem cut_run {P : Program} (t : TypeId) (ht : P.underlying t = some .string) (s : ByteArray) (k m : Nat) (h : k + m ≤ s.size) (W : World) :
    (Instr.slice t (.string s) (some (.int .i64 (k : Int))) (some (.int .i64 ((k : Int) + (m : Int)))) none).run P W = .ok (S ((s.data.toList.drop k).take m)) W := by
  rw [run_slice_string W t s .i64 .i64 _ _ ht (by omega) (by omega) (by omega)]
  have e : ((k : Int) + (m : Int)).toNat = k + m := by omega
  rw [e, Int.toNat_natCast, extract_list]
set_option maxHeartbeats 400000 in
theorem ReadText_any (s : ByteArray) (p : Int) (w : World) (hs : s.size ≤ 9223372036854775807) :
    Calls Try.prog 18 #[.string s, .int .i64 p] w fun e w' =>
      e = .returned (.tuple #[S (Oct.rdText s.data.toList p).1, .int .i64 (Oct.rdText s.data.toList p).2.1, .int .i64 (Oct.rdText s.data.toList p).2.2]) ∧ Below w.heap.size w w' := by
  rcases hn : Oct.rdNum s.data.toList p with ⟨n, q, e⟩
  have hok := Oct.rdNum_ok hn
  have hv : rdNumV s p = three n q e := by unfold rdNumV; rw [hn]
  by_cases he : e ≠ 0
  · have hr : Oct.rdText s.data.toList p = ([], 0, e) := by unfold Oct.rdText; rw [hn]; simp only; rw [if_pos he]
    rw [hr]
    have hd : (e != 0) = true := by rw [bne_iff_ne]; exact he
    clear he hr hok
    have Hv := Lib.hid hv; clear hv hn
    go_enter Try.func18, Try.ntmps18
    go_wp2_with fail
    refine (readNumber_any s p _ hs).mono ?_
    rintro e w1 ⟨rfl, rfl⟩
    rw [Hv.out]
    unfold three
    go_wp2
    go_ret3
    exact ⟨rfl, Below.refl _ _⟩
  · obtain rfl : e = 0 := by omega
    rcases hok with h | ⟨_, hp, hn0, hn1, hpq, hq, _⟩
    · exact absurd h.1 he
    have hlen := Oct.bytes_len s
    by_cases h6 : 65536 < n
    · have hr : Oct.rdText s.data.toList p = ([], 0, 3) := by unfold Oct.rdText; rw [hn]; simp only; rw [if_neg he, if_pos h6]
      rw [hr]
      have hd : decide (65536 < n) = true := by simpa using h6
      clear he hr
      have Hv := Lib.hid hv; clear hv hn
      go_enter Try.func18, Try.ntmps18
      go_wp2_with fail
      refine (readNumber_any s p _ hs).mono ?_
      rintro e w1 ⟨rfl, rfl⟩
      rw [Hv.out]
      unfold three
      go_wp2
      go_ret3
      exact ⟨rfl, Below.refl _ _⟩
    have hd : decide (65536 < n) = false := by simpa using h6
    by_cases h7 : (s.size : Int) - q < n
    · have hr : Oct.rdText s.data.toList p = ([], 0, 5) := by unfold Oct.rdText; rw [hn]; simp only; rw [if_neg he, if_neg h6, hlen, if_pos h7]
      rw [hr]
      have hd2 : decide ((s.size : Int) - q < n) = true := by simpa using h7
      clear he hr
      have Hv := Lib.hid hv; clear hv hn
      go_enter Try.func18, Try.ntmps18
      go_wp2_with fail
      refine (readNumber_any s p _ hs).mono ?_
      rintro e w1 ⟨rfl, rfl⟩
      rw [Hv.out]
      unfold three
      go_wp2
      go_ret3
      exact ⟨rfl, Below.refl _ _⟩
    · have hr : Oct.rdText s.data.toList p = ((s.data.toList.drop q.toNat).take n.toNat, q + n, 0) := by unfold Oct.rdText; rw [hn]; simp only; rw [if_neg he, if_neg h6, hlen, if_neg h7]
      rw [hr]
      have hd2 : decide ((s.size : Int) - q < n) = false := by simpa using h7
      rw [hlen] at hq
      have hq0 : 0 ≤ q := by omega
      obtain ⟨k, rfl⟩ := Int.eq_ofNat_of_zero_le hq0
      obtain ⟨m, rfl⟩ := Int.eq_ofNat_of_zero_le hn0
      clear he hr
      have Hv := Lib.hid hv; clear hv hn
      have hsl := cut_run (P := Try.prog) 9 Try.underlying9 s k m (by omega)
      go_enter Try.func18, Try.ntmps18
      go_wp2_with fail
      refine (readNumber_any s p _ hs).mono ?_
      rintro e w1 ⟨rfl, rfl⟩
      rw [Hv.out]
      unfold three
      go_wp2_with fail
      refine (join_one ((s.data.toList.drop k).take m) w (by rw [List.length_take]; omega)).mono ?_
      rintro e w1 ⟨rfl, hb⟩
      go_wp2
      go_ret3
      exact ⟨rfl, hb⟩
end Go.Proofs.Ytkbgeafkdeddjaa
