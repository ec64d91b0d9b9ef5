/- tx.Read: its mathematics; list, whole. -/
import Derived.Test.YtdekcicgiflnbaaDoorTxSign2
namespace Go.Proofs.YtdekcicgiflnbaaDoor
open Go.RowKit
set_option linter.unusedVariables false
set_option linter.unusedSimpArgs false

namespace Tx
/-- a list that is all of a text -/
def listAll (s : List UInt8) : Option (List (List UInt8)) := if (Oct.rdList s 0).2.2 = 0 ∧ (Oct.rdList s 0).2.1 = s.length then some (Oct.rdList s 0).1 else Option.none
/-- a number that is all of a text -/
def numAll (s : List UInt8) : Option Int := if (Oct.rdNum s 0).2.2 = 0 ∧ (Oct.rdNum s 0).2.1 = s.length then some (Oct.rdNum s 0).1 else Option.none
theorem listAll_listE {L : List (List UInt8)} {b : List UInt8} (h : Oct.listE L = (b, 0)) : listAll b = some L := by
  have := Oct.rdList_list [] [] L b h
  simp only [List.nil_append, List.append_nil, List.length_nil, Int.natCast_zero] at this
  unfold listAll
  rw [this]
  simp
theorem listE_listAll {s : List UInt8} {L : List (List UInt8)} (h : listAll s = some L) : Oct.listE L = (s, 0) := by
  unfold listAll at h
  split at h
  · next h1 =>
    obtain ⟨h2, h3⟩ := h1
    have hL : (Oct.rdList s 0).1 = L := by simpa using h
    rcases Oct.rdList_ok (s := s) (p := 0) (q := (Oct.rdList s 0).2.1) (e := (Oct.rdList s 0).2.2) (l := (Oct.rdList s 0).1) rfl with ⟨h4, _⟩ | ⟨_, _, _, _, h4⟩
    · exact absurd h2 h4
    · rw [hL, h3] at h4
      rw [h4]
      simp
  · cases h
theorem numAll_num {n : Nat} (h : n < 2 ^ 63) : numAll (Oct.num n) = some (n : Int) := by
  have := Oct.rdNum_num [] [] n h
  simp only [List.nil_append, List.append_nil, List.length_nil, Int.natCast_zero] at this
  unfold numAll
  rw [this]
  simp
theorem num_numAll {s : List UInt8} {n : Int} (h : numAll s = some n) : 0 ≤ n ∧ n ≤ 9223372036854775807 ∧ Oct.num n.toNat = s := by
  unfold numAll at h
  split at h
  · next h1 =>
    obtain ⟨h2, h3⟩ := h1
    have hN : (Oct.rdNum s 0).1 = n := by simpa using h
    rcases Oct.rdNum_ok (s := s) (p := 0) (n := (Oct.rdNum s 0).1) (q := (Oct.rdNum s 0).2.1) (e := (Oct.rdNum s 0).2.2) rfl with ⟨h4, _⟩ | ⟨_, _, h5, h6, _, _, h7⟩
    · exact absurd h2 h4
    · rw [hN] at h5 h6 h7
      rw [h3] at h7
      refine ⟨h5, by omega, ?_⟩
      rw [← h7]
      simp
  · cases h
end Tx

set_option maxRecDepth 20000 in
theorem list_some (s : ByteArray) (L : List (List UInt8)) (w : World) (hs : s.size ≤ 9223372036854775807) (h : Tx.listAll s.data.toList = some L) :
    Calls Tryd.prog 70 #[.string s] w fun e w' => ∃ v, e = .returned (.tuple #[v, .int .i64 0]) ∧ TextsV w' v L ∧ Below w.heap.size w w' := by
  unfold Tx.listAll at h
  split at h
  · next h1 =>
    obtain ⟨h2, h3⟩ := h1
    have hL : (Oct.rdList s.data.toList 0).1 = L := by simpa using h
    have RL := ReadList_any s 0 w hs
    unfold ListEnds at RL
    rw [h2, h3, hL] at RL
    have hq : (s.data.toList.length : Int) = (s.size : Int) := by rw [Array.length_toList]; rfl
    rw [hq] at RL
    have HRL := Lib.hid RL
    clear h h2 h3 hL hq RL
    go_enter Tryd.func70, Tryd.ntmps70
    go_wp2_with fail
    refine HRL.out.mono ?_
    rintro _ w1 ⟨v, rfl, hT, hb⟩
    have HT := Lib.hid hT
    have Hb := Lib.hid hb
    clear hT hb
    go_wp2_with fail
    go_ret2
    exact ⟨_, rfl, HT.out, Hb.out⟩
  · cases h
set_option maxRecDepth 20000 in
theorem list_no (s : ByteArray) (w : World) (hs : s.size ≤ 9223372036854775807) (h : Tx.listAll s.data.toList = none) :
    Calls Tryd.prog 70 #[.string s] w fun e w' => ∃ n : Int, (n != 0) = true ∧ e = .returned (.tuple #[.slice none 0 0, .int .i64 n]) ∧ Below w.heap.size w w' := by
  unfold Tx.listAll at h
  split at h
  · cases h
  · next h1 =>
    have RL := ReadList_any s 0 w hs
    unfold ListEnds at RL
    have hq : (s.data.toList.length : Int) = (s.size : Int) := by rw [Array.length_toList]; rfl
    rw [hq] at h1
    generalize (Oct.rdList s.data.toList 0).2.1 = q at *
    generalize (Oct.rdList s.data.toList 0).2.2 = er at *
    generalize (Oct.rdList s.data.toList 0).1 = L at *
    have HRL := Lib.hid RL
    clear h hq RL
    by_cases h0 : er = 0
    · have hne : q ≠ (s.size : Int) := fun e => h1 ⟨h0, e⟩
      have d1 : (q != (s.size : Int)) = true := by simpa using hne
      subst h0
      clear h1 hne
      go_enter Tryd.func70, Tryd.ntmps70
      go_wp2_with fail
      refine HRL.out.mono ?_
      rintro _ w1 ⟨v, rfl, hT, hb⟩
      have Hb := Lib.hid hb
      clear hT hb
      go_wp2_with fail
      go_ret2
      exact ⟨6, rfl, rfl, Hb.out⟩
    · have d0 : (er != 0) = true := by simpa using h0
      clear h1 h0
      go_enter Tryd.func70, Tryd.ntmps70
      go_wp2_with fail
      refine HRL.out.mono ?_
      rintro _ w1 ⟨v, rfl, hT, hb⟩
      have Hb := Lib.hid hb
      have D0 := Lib.hid d0
      clear hT hb
      go_wp2_with fail
      go_ret2
      exact ⟨er, D0.out, rfl, Hb.out⟩
set_option maxRecDepth 20000 in
theorem whole_some (s : ByteArray) (n : Int) (w : World) (hs : s.size ≤ 9223372036854775807) (h : Tx.numAll s.data.toList = some n) :
    Calls Tryd.prog 110 #[.string s] w fun e w' => e = .returned (.tuple #[.int .i64 n, .int .i64 0]) ∧ w = w' := by
  unfold Tx.numAll at h
  split at h
  · next h1 =>
    obtain ⟨h2, h3⟩ := h1
    have hN : (Oct.rdNum s.data.toList 0).1 = n := by simpa using h
    have RL := readNumber_any s 0 w hs
    unfold rdNumV three at RL
    rw [h2, h3, hN] at RL
    have hq : (s.data.toList.length : Int) = (s.size : Int) := by rw [Array.length_toList]; rfl
    rw [hq] at RL
    have HRL := Lib.hid RL
    clear h h2 h3 hN hq RL
    go_enter Tryd.func110, Tryd.ntmps110
    go_wp2_with fail
    refine HRL.out.mono ?_
    rintro _ w1 ⟨rfl, rfl⟩
    go_wp2_with fail
    go_ret2
    exact ⟨rfl, rfl⟩
  · cases h
set_option maxRecDepth 20000 in
theorem whole_no (s : ByteArray) (w : World) (hs : s.size ≤ 9223372036854775807) (h : Tx.numAll s.data.toList = none) :
    Calls Tryd.prog 110 #[.string s] w fun e w' => ∃ n : Int, (n != 0) = true ∧ e = .returned (.tuple #[.int .i64 0, .int .i64 n]) ∧ w = w' := by
  unfold Tx.numAll at h
  split at h
  · cases h
  · next h1 =>
    have RL := readNumber_any s 0 w hs
    unfold rdNumV three at RL
    have hq : (s.data.toList.length : Int) = (s.size : Int) := by rw [Array.length_toList]; rfl
    rw [hq] at h1
    generalize (Oct.rdNum s.data.toList 0).2.1 = q at *
    generalize (Oct.rdNum s.data.toList 0).2.2 = er at *
    generalize (Oct.rdNum s.data.toList 0).1 = x at *
    have HRL := Lib.hid RL
    clear h hq RL
    by_cases h0 : er = 0
    · have hne : q ≠ (s.size : Int) := fun e => h1 ⟨h0, e⟩
      have d1 : (q != (s.size : Int)) = true := by simpa using hne
      subst h0
      clear h1 hne
      go_enter Tryd.func110, Tryd.ntmps110
      go_wp2_with fail
      refine HRL.out.mono ?_
      rintro _ w1 ⟨rfl, rfl⟩
      go_wp2_with fail
      go_ret2
      exact ⟨6, rfl, rfl, rfl⟩
    · have d0 : (er != 0) = true := by simpa using h0
      clear h1 h0
      have D0 := Lib.hid d0
      go_enter Tryd.func110, Tryd.ntmps110
      go_wp2_with fail
      refine HRL.out.mono ?_
      rintro _ w1 ⟨rfl, rfl⟩
      go_wp2_with fail
      go_ret2
      exact ⟨er, D0.out, rfl, rfl⟩
end Go.Proofs.YtdekcicgiflnbaaDoor
