/- JournalParses, JournalNone: the walks. -/
import Derived.Test.YtpphljdnnlfjhaaDoorJrAwk
import Derived.Test.YtpphljdnnlfjhaaDoorJrRparse
namespace Go.Proofs.YtpphljdnnlfjhaaDoor
open Go.RowKit
set_option maxRecDepth 100000
set_option linter.unusedVariables false
set_option linter.unusedSimpArgs false

theorem Lst.texts {w : World} {base : Nat} {v : Value} {L : List (List UInt8)} (h : Lst w base v L) : ∃ A c, v = .slice A L.length c ∧ Texts w w.heap.size A L := by
  obtain ⟨A, c, hv, hr⟩ := h
  refine ⟨A, c, hv, fun hne => ?_⟩
  obtain ⟨b, h1, h2, h3, h4⟩ := hr hne
  exact ⟨b, 0, h1, h3, fun i hi => by rw [Nat.zero_add]; exact h4 i hi⟩
theorem Lst.below {w w' : World} {base : Nat} {v : Value} {L : List (List UInt8)} (h : Lst w base v L) (hb : Below w.heap.size w w') : Lst w' base v L := by
  obtain ⟨A, c, hv, hr⟩ := h
  refine ⟨A, c, hv, fun hne => ?_⟩
  obtain ⟨b, h1, h2, h3, h4⟩ := hr hne
  exact ⟨b, h1, h2, Nat.lt_of_lt_of_le h3 hb.size, fun i hi => by rw [← h4 i hi]; exact World.cell?_of_block (a := ⟨b, i, none⟩) (hb.block b h3)⟩
theorem same_lists {w : World} {b1 b2 : Nat} {v1 v2 : Value} {L1 L2 : List (List UInt8)} (h1 : Lst w b1 v1 L1) (h2 : Lst w b2 v2 L2) (hl1 : L1.length ≤ 9223372036854775807) (hl2 : L2.length ≤ 9223372036854775807) :
    Calls Tryd.prog 11 #[v1, v2] w fun e w' => e = .returned (.bool (decide (L1 = L2))) ∧ ∃ n, w' = w.drewN n := by
  obtain ⟨A1, c1, rfl, t1⟩ := h1.texts
  obtain ⟨A2, c2, rfl, t2⟩ := h2.texts
  exact refSame_any A1 A2 c1 c2 L1 L2 w _ _ t1 t2 hl1 hl2
theorem parse_many (s : List UInt8) : (Jr.parse s).1.length ≤ s.length := by
  have h := Jr.parse_is s
  have h2 := lays_many 0 (Jr.parse s).1
  rw [← h.1, List.length_take] at h2
  omega
set_option maxHeartbeats 800000 in
theorem journalParses_any (s : ByteArray) (w : World) (hs : s.size ≤ 1099511627776) :
    Calls Tryd.prog 3 #[.string s] w fun e w' => e = .returned (.bool true) ∧ Below w.heap.size w w' := by
  have k1 := fun w : World => jrParse_any s w hs
  have k2 := fun w : World => jrRefParse_any s w hs
  have hm := parse_many s.data.toList
  have hsl : s.data.toList.length = s.size := rfl
  obtain ⟨⟨L, n⟩, hp⟩ : ∃ x, Jr.parse s.data.toList = x := ⟨_, rfl⟩
  rw [hp] at hm
  simp only [hp] at k1 k2
  have hL : L.length ≤ 9223372036854775807 := by
    have : L.length ≤ s.data.toList.length := hm
    omega
  have K1 := Lib.hid k1
  have K2 := Lib.hid k2
  clear k1 k2 hp hm hsl hs
  go_enter Tryd.func3, Tryd.ntmps3
  go_wp2_with fail
  refine (K1.out _).mono ?_
  rintro _ w1 ⟨⟨v1, rfl, hl1⟩, hb1⟩
  have Hl1 := Lib.hid hl1
  have Hb1 := Lib.hid hb1
  clear hl1 hb1
  go_wp2_with fail
  refine (K2.out _).mono ?_
  rintro _ w2 ⟨⟨v2, rfl, hl2⟩, hb2⟩
  have Hl2 := Lib.hid hl2
  have Hl12 := Lib.hid (Hl1.out.below hb2)
  have Hb2 := Lib.hid (Hb1.out.trans (hb2.mono Hb1.out.size))
  clear hl2 hb2
  go_wp2_with fail
  refine (awake10 _).mono ?_
  rintro _ w3 ⟨rfl, hb3⟩
  have Hl1' := Lib.hid (Hl12.out.below hb3)
  have Hl2' := Lib.hid (Hl2.out.below hb3)
  have Hb3 := Lib.hid (Hb2.out.trans (hb3.mono Hb2.out.size))
  clear hb3
  go_wp2_with fail
  refine (same_lists Hl1'.out Hl2'.out hL hL).mono ?_
  rintro _ w4 ⟨rfl, m, rfl⟩
  have hd : decide (L = L) = true := by simp
  rw [hd]
  have Hb4 := Lib.hid (bel_drewN Hb3.out m)
  go_wp2_with fail
  go_ret
  exact ⟨by simp, Hb4.out⟩
set_option maxHeartbeats 800000 in
theorem journalNone_any (nm s : ByteArray) (w : World) :
    Calls Tryd.prog 7 #[.string nm, .string s] w fun e w' => e = .returned (.bool true) ∧ Below w.heap.size w w' := by
  have k1 : ∀ w : World, Calls Tryd.prog 13 #[.pointer none, .string nm] w fun e w' => e = .returned (.tuple #[.pointer none, .slice none 0 0, .int .i64 1]) ∧ w = w' := by
    intro w
    have h := jopen_nil nm.data.toList w
    have e : Sb nm.data.toList = .string nm := by obtain ⟨⟨l⟩⟩ := nm; rfl
    rwa [e] at h
  have k2 : ∀ w : World, Calls Tryd.prog 15 #[.pointer none, .string s] w fun e w' => e = .returned (.int .i64 1) ∧ w = w' := by
    intro w
    have h := jadd_nil s.data.toList w
    have e : Sb s.data.toList = .string s := by obtain ⟨⟨l⟩⟩ := s; rfl
    rwa [e] at h
  have K1 := Lib.hid k1
  have K2 := Lib.hid k2
  clear k1 k2
  go_enter Tryd.func7, Tryd.ntmps7
  go_wp2_with fail
  refine (K1.out _).mono ?_
  rintro _ w1 ⟨rfl, rfl⟩
  go_wp2_with fail
  refine (awake10 _).mono ?_
  rintro _ w2 ⟨rfl, hb2⟩
  have Hb2 := Lib.hid hb2
  clear hb2
  go_wp2_with fail
  refine (K2.out _).mono ?_
  rintro _ w3 ⟨rfl, rfl⟩
  go_wp2_with fail
  refine (jsync_nil _).mono ?_
  rintro _ w3 ⟨rfl, rfl⟩
  go_wp2_with fail
  refine (jrenew_nil _ _).mono ?_
  rintro _ w3 ⟨rfl, rfl⟩
  go_wp2_with fail
  refine (jlen_nil _).mono ?_
  rintro _ w3 ⟨rfl, rfl⟩
  go_wp2_with fail
  refine (jsynced_nil _).mono ?_
  rintro _ w3 ⟨rfl, rfl⟩
  go_wp2_with fail
  go_ret
  exact ⟨rfl, Hb2.out⟩
end Go.Proofs.YtpphljdnnlfjhaaDoor
