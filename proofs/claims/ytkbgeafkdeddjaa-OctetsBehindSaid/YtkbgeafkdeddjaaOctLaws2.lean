/- Layer 1's laws over lists: what they return. -/
import Derived.Test.YtkbgeafkdeddjaaOctLaws
namespace Go.Proofs.Ytkbgeafkdeddjaa
open Go.RowKit
set_option linter.unusedVariables false

theorem Texts.below {w w1 : World} {B : Nat} {A : Option Addr} {L : List (List UInt8)} (h : Texts w B A L) (hB : B ≤ w.heap.size) (hb : Below w.heap.size w w1) : Texts w1 B A L := by
  intro hne
  obtain ⟨b, off, rfl, hbb, hc⟩ := h hne
  exact ⟨b, off, rfl, hbb, fun i hi => (hb.cell (p := ⟨b, off + i, none⟩) (by show b < _; omega)).trans (hc i hi)⟩
theorem Texts.more {w : World} {B B' : Nat} {A : Option Addr} {L : List (List UInt8)} (h : Texts w B A L) (hB : B ≤ B') : Texts w B' A L := by
  intro hne
  obtain ⟨b, off, rfl, hbb, hc⟩ := h hne
  exact ⟨b, off, rfl, by omega, hc⟩
theorem TextsV.below {w w1 : World} {v : Value} {l : List (List UInt8)} (h : TextsV w v l) (hb : Below w.heap.size w w1) : TextsV w1 v l := by
  obtain ⟨A, c, rfl, ht⟩ := h
  exact ⟨A, c, rfl, (ht.below (Nat.le_refl _) hb).more hb.size⟩
theorem rdList_len (s : List UInt8) (p : Int) : (Oct.rdList s p).1.length ≤ 1024 := by
  rcases h : Oct.rdList s p with ⟨l, q, e⟩
  rcases Oct.rdList_ok h with ⟨_, rfl, _⟩ | ⟨_, _, _, _, hl⟩
  · simp
  · unfold Oct.listE at hl
    by_cases hb : 1024 < l.length
    · rw [if_pos hb] at hl; simp at hl
    · simpa using Nat.le_of_not_lt hb
theorem same_v {w : World} {v1 v2 : Value} {l1 l2 : List (List UInt8)} (h1 : TextsV w v1 l1) (h2 : TextsV w v2 l2) (hl1 : l1.length ≤ 9223372036854775807) (hl2 : l2.length ≤ 9223372036854775807) :
    Calls Try.prog 22 #[v1, v2] w fun e w' => e = .returned (.bool (decide (l1 = l2))) ∧ ∃ n, w' = w.drewN n := by
  obtain ⟨A1, c1, rfl, t1⟩ := h1
  obtain ⟨A2, c2, rfl, t2⟩ := h2
  exact refSame_any A1 A2 c1 c2 l1 l2 w _ _ t1 t2 hl1 hl2
theorem list_v {w : World} {v : Value} {l : List (List UInt8)} (h : TextsV w v l) :
    Calls Try.prog 14 #[v] w fun e w' => e = .returned (two (Oct.listE l).1 (Oct.listE l).2) ∧ Below w.heap.size w w' := by
  obtain ⟨A, c, rfl, t⟩ := h
  exact List_any A c l w t
theorem refList_v {w : World} {v : Value} {l : List (List UInt8)} (h : TextsV w v l) :
    Calls Try.prog 15 #[v] w fun e w' => e = .returned (two (Oct.listE l).1 (Oct.listE l).2) ∧ Below w.heap.size w w' := by
  obtain ⟨A, c, rfl, t⟩ := h
  exact refList_any A c l w t
theorem below_drewN {B : Nat} {a w : World} (h : Below B a w) (n : Nat) : Below B a (w.drewN n) := ⟨h.os, h.tape, h.output, h.size, h.block⟩

theorem octetsLists_any (v : Value) (l : List (List UInt8)) (w : World) (hv : TextsV w v l) :
    Calls Try.prog 4 #[v] w fun e w' => e = .returned (.bool true) ∧ Below w.heap.size w w' := by
  rcases hx : Oct.listE l with ⟨a, ea⟩
  have Hx := Lib.hid hx
  clear hx
  go_enter Try.func4, Try.ntmps4
  go_wp2_with fail
  refine (list_v hv).mono ?_
  rintro e w1 ⟨rfl, hb1⟩
  rw [Hx.out]
  unfold two
  go_wp2_with fail
  refine (refList_v (hv.below hb1)).mono ?_
  rintro e w2 ⟨rfl, hb2⟩
  rw [Hx.out]
  unfold two
  go_wp2_with fail
  refine (awake1_any _).mono ?_
  rintro e w5 ⟨rfl, hb5⟩
  go_wp2_with fail
  go_ret
  have h2 := hb1.trans (hb2.mono hb1.size)
  exact ⟨rfl, h2.trans (hb5.mono h2.size)⟩

set_option maxHeartbeats 800000 in
set_option maxRecDepth 100000 in
theorem octetsReads_any (s : ByteArray) (p : Int) (w : World) (hs : s.size ≤ 140737488351232) :
    Calls Try.prog 5 #[.string s, .int .i64 p] w fun e w' => e = .returned (.bool true) ∧ Below w.heap.size w w' := by
  have hs2 : s.size ≤ 9223372036854775807 := by omega
  rcases hx : Oct.rdNum s.data.toList p with ⟨n, q, e⟩
  have hx2 : rdNumV s p = three n q e := by unfold rdNumV; rw [hx]
  rcases hy : Oct.rdText s.data.toList p with ⟨t, q2, e2⟩
  rcases hz : Oct.rdList s.data.toList p with ⟨l, q3, e3⟩
  have hl : l.length ≤ 1024 := by have h := rdList_len s.data.toList p; rw [hz] at h; exact h
  have Hx := Lib.hid hx2
  have Hy := Lib.hid hy
  have Hz := Lib.hid hz
  clear hx hx2 hy hz
  go_enter Try.func5, Try.ntmps5
  go_wp2_with fail
  refine (readNumber_any s p _ hs2).mono ?_
  rintro e w1 ⟨rfl, rfl⟩
  rw [Hx.out]
  unfold three
  go_wp2_with fail
  refine (refReadNumber_any s p _ hs).mono ?_
  rintro e w1 ⟨rfl, rfl⟩
  rw [Hx.out]
  unfold three
  go_wp2_with fail
  refine (ReadText_any s p _ hs2).mono ?_
  rintro e w1 ⟨rfl, hb1⟩
  rw [Hy.out]
  go_wp2_with fail
  refine (refReadText_any s p _ hs).mono ?_
  rintro e w2 ⟨rfl, rfl⟩
  rw [Hy.out]
  go_wp2_with fail
  refine (ReadList_any s p _ hs2).mono ?_
  rintro e w2 ⟨v1, rfl, ht1, hb2⟩
  rw [Hz.out] at ht1 ⊢
  go_wp2_with fail
  refine (refReadList_any s p _ hs).mono ?_
  rintro e w3 ⟨v2, rfl, ht2, hb3⟩
  rw [Hz.out] at ht2 ⊢
  go_wp2_with fail
  refine (awake1_any _).mono ?_
  rintro e w4 ⟨rfl, hb4⟩
  go_wp2_with fail
  refine (same_v ((ht1.below hb3).below hb4) (ht2.below hb4) (by omega) (by omega)).mono ?_
  rintro e w5 ⟨rfl, nn, rfl⟩
  go_wp2_with fail
  go_ret
  have h2 := hb1.trans (hb2.mono hb1.size)
  have h3 := h2.trans (hb3.mono h2.size)
  exact ⟨rfl, below_drewN (h3.trans (hb4.mono h3.size)) _⟩
end Go.Proofs.Ytkbgeafkdeddjaa
