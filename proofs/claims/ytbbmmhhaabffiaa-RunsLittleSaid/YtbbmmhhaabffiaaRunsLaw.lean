/- Layer 6's laws: what they return. -/
import Derived.Test.YtbbmmhhaabffiaaChecked
import Derived.Test.YtbbmmhhaabffiaaRunsR3
namespace Go.Proofs.Ytbbmmhhaabffiaa
open Go.RowKit
set_option linter.unusedVariables false
set_option linter.unusedSimpArgs false

theorem awake6_any (w : World) :
    Calls Try.prog 8 #[] w fun e w' => e = .returned (.bool true) ∧ Below w.heap.size w w' := by
  have e1 : upV [128, 97, 0, 98] 4 = .tuple #[.string ⟨#[97, 97, 97, 98]⟩, .int .i64 0] := by
    unfold upV
    have : Runs.unpack [128, 97, 0, 98] 4 = ([97, 97, 97, 98], 0) := by decide
    rw [this]
  have e2 : Runs.pack [97, 97, 97, 98] = [128, 97, 0, 98] := by decide
  have E1 := Lib.hid e1
  have E2 := Lib.hid e2
  clear e1 e2
  go_enter Try.func8, Try.ntmps8
  go_wp2_with fail
  refine (unpack_pos ⟨#[128, 97, 0, 98]⟩ 4 _ (by decide) (by decide) (.inl (by decide))).mono ?_
  rintro e w1 ⟨rfl, hb1⟩
  rw [show (⟨#[128, 97, 0, 98]⟩ : ByteArray).data.toList = [128, 97, 0, 98] from rfl, show upV [128, 97, 0, 98] ((4 : Nat) : Int) = upV [128, 97, 0, 98] 4 from rfl, E1.out]
  go_wp2_with fail
  refine (pack_any ⟨#[97, 97, 97, 98]⟩ _ (by decide)).mono ?_
  rintro e w2 ⟨rfl, hb2⟩
  rw [show (⟨#[97, 97, 97, 98]⟩ : ByteArray).data.toList = [97, 97, 97, 98] from rfl, E2.out]
  go_wp2_with fail
  go_ret
  exact ⟨rfl, hb1.trans (hb2.mono hb1.size)⟩

theorem runsPacks_any (s : ByteArray) (w : World) (hs : s.size ≤ 140737488351232) :
    Calls Try.prog 3 #[.string s] w fun e w' => e = .returned (.bool true) ∧ Below w.heap.size w w' := by
  go_enter Try.func3, Try.ntmps3
  go_wp2_with fail
  refine (awake6_any _).mono ?_
  rintro e w1 ⟨rfl, hb1⟩
  go_wp2_with fail
  refine (pack_any s _ hs).mono ?_
  rintro e w2 ⟨rfl, hb2⟩
  go_wp2_with fail
  refine (refPack_any s _ hs).mono ?_
  rintro e w3 ⟨rfl, hb3⟩
  go_wp2_with fail
  go_ret
  have h2 := hb1.trans (hb2.mono hb1.size)
  exact ⟨rfl, h2.trans (hb3.mono h2.size)⟩

theorem unpack_all (s : ByteArray) (most : Int) (w : World) (hs : s.size ≤ 9223372036854775807) (hM : most ≤ 9223372036854775807) (hroom : most ≤ 225179981368371 ∨ 65 * s.size ≤ 225179981368371) :
    Calls Try.prog 11 #[.string s, .int .i64 most] w fun e w' => e = .returned (upV s.data.toList most) ∧ Below w.heap.size w w' := by
  by_cases h : most < 0
  · exact unpack_neg s most w h
  · obtain ⟨M, rfl⟩ : ∃ M : Nat, most = (M : Int) := ⟨most.toNat, by omega⟩
    exact unpack_pos s M w (by omega) hM (by omega)
theorem refUnpack_all (s : ByteArray) (most : Int) (w : World) (hs : s.size ≤ 140737488351232) (hM : most ≤ 9223372036854775807) (hroom : most ≤ 225179981368371 ∨ 65 * s.size ≤ 225179981368371) :
    Calls Try.prog 12 #[.string s, .int .i64 most] w fun e w' => e = .returned (upV s.data.toList most) ∧ Below w.heap.size w w' := by
  by_cases h : most < 0
  · exact refUnpack_neg s most w h
  · obtain ⟨M, rfl⟩ : ∃ M : Nat, most = (M : Int) := ⟨most.toNat, by omega⟩
    exact refUnpack_pos s M w (by omega) hM (by omega)

theorem runsUnpacks_any (s : ByteArray) (most : Int) (w : World) (hs : s.size ≤ 140737488351232) (hM : most ≤ 9223372036854775807) (hroom : most ≤ 225179981368371 ∨ 65 * s.size ≤ 225179981368371) :
    Calls Try.prog 4 #[.string s, .int .i64 most] w fun e w' => e = .returned (.bool true) ∧ Below w.heap.size w w' := by
  rcases hx : Runs.unpack s.data.toList most with ⟨a, e⟩
  have hv : upV s.data.toList most = .tuple #[S a, .int .i64 e] := by unfold upV; rw [hx]
  have Hv := Lib.hid hv
  clear hx hv
  go_enter Try.func4, Try.ntmps4
  go_wp2_with fail
  refine (unpack_all s most _ (by omega) hM hroom).mono ?_
  rintro e w1 ⟨rfl, hb1⟩
  rw [Hv.out]
  go_wp2_with fail
  refine (refUnpack_all s most _ hs hM hroom).mono ?_
  rintro e w2 ⟨rfl, hb2⟩
  rw [Hv.out]
  go_wp2_with fail
  refine (awake6_any _).mono ?_
  rintro e w3 ⟨rfl, hb3⟩
  go_wp2_with fail
  go_ret
  have h2 := hb1.trans (hb2.mono hb1.size)
  exact ⟨rfl, h2.trans (hb3.mono h2.size)⟩

theorem runsLittle_any (s : ByteArray) (w : World) (hs : s.size ≤ 140737488351232) :
    Calls Try.prog 6 #[.string s] w fun e w' => e = .returned (.bool true) ∧ Below w.heap.size w w' := by
  have hl : (Runs.pack s.data.toList).length ≤ s.size + (s.size + 127) / 128 := Runs.pack_little s.data.toList.length s.data.toList (Nat.le_refl _)
  obtain ⟨t, ht⟩ : ∃ t, t = Runs.pack s.data.toList := ⟨_, rfl⟩
  rw [← ht] at hl
  have Ht := Lib.hid ht
  have hz : (⟨t.toArray⟩ : ByteArray).size = t.length := rfl
  generalize hu : (⟨t.toArray⟩ : ByteArray) = u at hz
  rw [← hz] at hl
  have Hu := Lib.hid hu
  clear ht hu hz
  have hd : decide ((u.size : Int) ≤ (s.size : Int) + ((s.size : Int) + 127) / 128) = true := by simp only [decide_eq_true_eq]; omega
  have hl2 : (u.size : Int) ≤ (s.size : Int) + ((s.size : Int) + 127) / 128 := by omega
  go_enter Try.func6, Try.ntmps6
  go_wp2_with fail
  refine (awake6_any _).mono ?_
  rintro e w1 ⟨rfl, hb1⟩
  go_wp2_with fail
  refine (pack_any s _ hs).mono ?_
  rintro e w2 ⟨rfl, hb2⟩
  rw [← Ht.out, Hu.out]
  go_wp2_with fail
  go_ret
  exact ⟨rfl, hb1.trans (hb2.mono hb1.size)⟩

theorem str_self (s : ByteArray) : (⟨s.data.toList.toArray⟩ : ByteArray) = s := by
  obtain ⟨⟨l⟩⟩ := s; rfl
theorem str_add (a b : ByteArray) : (⟨(a.data.toList ++ b.data.toList).toArray⟩ : ByteArray) = a ++ b := by
  apply ByteArray.ext
  simp

theorem runsBack_any (s : ByteArray) (less : Int) (w : World) (hs : s.size ≤ 140737488351232) (hl0 : -9223372036854775808 ≤ less) (hl1 : less ≤ 9223372036854775807) :
    Calls Try.prog 5 #[.string s, .int .i64 less] w fun e w' => e = .returned (.bool true) ∧ Below w.heap.size w w' := by
  have hl : (Runs.pack s.data.toList).length ≤ s.size + (s.size + 127) / 128 := Runs.pack_little s.data.toList.length s.data.toList (Nat.le_refl _)
  have hlen : s.data.toList.length = s.size := rfl
  obtain ⟨t, ht⟩ : ∃ t, t = Runs.pack s.data.toList := ⟨_, rfl⟩
  rw [← ht] at hl
  have h1 : upV t (s.size : Int) = .tuple #[.string s, .int .i64 0] := by
    have := Runs.unpack_pack s.data.toList
    rw [hlen] at this
    unfold upV
    rw [ht, this]
  have h2 : ∀ m : Nat, m < s.size → upV t (m : Int) = .tuple #[.string ⟨#[]⟩, .int .i64 3] := by
    intro m hm
    have := Runs.unpack_less s.data.toList m (by rw [hlen]; exact hm)
    unfold upV
    rw [ht, this]
  have Ht := Lib.hid ht
  have H1 := Lib.hid h1
  have H2 := Lib.hid h2
  have hz : (⟨t.toArray⟩ : ByteArray).size = t.length := rfl
  have hzt : (⟨t.toArray⟩ : ByteArray).data.toList = t := rfl
  generalize hu : (⟨t.toArray⟩ : ByteArray) = u at hz hzt
  rw [← hz] at hl
  have Hu := Lib.hid hu
  have Hzt := Lib.hid hzt
  clear ht hu hz h1 h2 hzt hlen
  by_cases hc : less < 1 ∨ (s.size : Int) < less
  · rcases hc with hc | hc
    · have hd : decide (less < 1) = true := by simpa using hc
      go_enter Try.func5, Try.ntmps5
      go_wp2_with fail
      refine (pack_any s _ hs).mono ?_
      rintro e w1 ⟨rfl, hb1⟩
      rw [← Ht.out, Hu.out]
      go_wp2_with fail
      refine (unpack_all u (s.size : Int) _ (by omega) (by omega) (.inl (by omega))).mono ?_
      rintro e w2 ⟨rfl, hb2⟩
      rw [Hzt.out, H1.out]
      go_wp2_with fail
      refine (awake6_any _).mono ?_
      rintro e w3 ⟨rfl, hb3⟩
      go_wp2_with fail
      go_ret
      have h2 := hb1.trans (hb2.mono hb1.size)
      exact ⟨rfl, h2.trans (hb3.mono h2.size)⟩
    · have hd : decide (less < 1) = false := by simp only [decide_eq_false_iff_not]; omega
      have hd2 : decide ((s.size : Int) < less) = true := by simpa using hc
      go_enter Try.func5, Try.ntmps5
      go_wp2_with fail
      refine (pack_any s _ hs).mono ?_
      rintro e w1 ⟨rfl, hb1⟩
      rw [← Ht.out, Hu.out]
      go_wp2_with fail
      refine (unpack_all u (s.size : Int) _ (by omega) (by omega) (.inl (by omega))).mono ?_
      rintro e w2 ⟨rfl, hb2⟩
      rw [Hzt.out, H1.out]
      go_wp2_with fail
      refine (awake6_any _).mono ?_
      rintro e w3 ⟨rfl, hb3⟩
      go_wp2_with fail
      go_ret
      have h2 := hb1.trans (hb2.mono hb1.size)
      exact ⟨rfl, h2.trans (hb3.mono h2.size)⟩
  · have hc1 : 1 ≤ less := by omega
    have hc2 : less ≤ (s.size : Int) := by omega
    obtain ⟨m, hm⟩ : ∃ m : Nat, (s.size : Int) - less = (m : Int) := ⟨((s.size : Int) - less).toNat, by omega⟩
    have h3 := H2.out m (by omega)
    have H3 := Lib.hid h3
    have Hm := Lib.hid hm
    have hd : decide (less < 1) = false := by simp only [decide_eq_false_iff_not]; omega
    have hd2 : decide ((s.size : Int) < less) = false := by simp only [decide_eq_false_iff_not]; omega
    clear h3 hm hc
    go_enter Try.func5, Try.ntmps5
    go_wp2_with fail
    refine (pack_any s _ hs).mono ?_
    rintro e w1 ⟨rfl, hb1⟩
    rw [← Ht.out, Hu.out]
    go_wp2_with fail
    refine (unpack_all u (s.size : Int) _ (by omega) (by omega) (.inl (by omega))).mono ?_
    rintro e w2 ⟨rfl, hb2⟩
    rw [Hzt.out, H1.out]
    go_wp2_with fail
    refine (awake6_any _).mono ?_
    rintro e w3 ⟨rfl, hb3⟩
    go_wp2_with fail
    refine (unpack_all u ((s.size : Int) - less) _ (by omega) (by omega) (.inl (by omega))).mono ?_
    rintro e w4 ⟨rfl, hb4⟩
    rw [Hzt.out, Hm.out, H3.out]
    go_wp2_with fail
    go_ret
    have h2 := hb1.trans (hb2.mono hb1.size)
    have h3 := h2.trans (hb3.mono h2.size)
    exact ⟨rfl, h3.trans (hb4.mono h3.size)⟩

theorem runsJoin_any (a b : ByteArray) (w : World) (ha : a.size ≤ 1048576) (hb : b.size ≤ 1048576) :
    Calls Try.prog 7 #[.string a, .string b] w fun e w' => e = .returned (.bool true) ∧ Below w.heap.size w w' := by
  have hla : (Runs.pack a.data.toList).length ≤ a.size + (a.size + 127) / 128 := Runs.pack_little a.data.toList.length a.data.toList (Nat.le_refl _)
  have hlb : (Runs.pack b.data.toList).length ≤ b.size + (b.size + 127) / 128 := Runs.pack_little b.data.toList.length b.data.toList (Nat.le_refl _)
  have hj := Runs.unpack_join a.data.toList b.data.toList
  generalize hta : Runs.pack a.data.toList = ta at *
  generalize htb : Runs.pack b.data.toList = tb at *
  have h1 : upV (ta ++ tb) ((a.size : Int) + (b.size : Int)) = .tuple #[.string (a ++ b), .int .i64 0] := by
    unfold upV
    rw [show ((a.size : Int) + (b.size : Int)) = (a.data.toList.length : Int) + (b.data.toList.length : Int) from rfl, hj]
    show Value.tuple #[.string ⟨(a.data.toList ++ b.data.toList).toArray⟩, .int .i64 0] = _
    rw [str_add]
  have hz : (⟨(ta ++ tb).toArray⟩ : ByteArray).size = ta.length + tb.length := by
    show (ta ++ tb).length = _
    rw [List.length_append]
  have hs : (⟨ta.toArray⟩ ++ ⟨tb.toArray⟩ : ByteArray) = ⟨(ta ++ tb).toArray⟩ := by rw [← str_add]
  generalize hu : (⟨(ta ++ tb).toArray⟩ : ByteArray) = u at hz hs
  have hzt : u.data.toList = ta ++ tb := by rw [← hu]
  have hzu : u.size ≤ 3000000 := by omega
  have H1 := Lib.hid h1
  have Hta := Lib.hid hta
  have Htb := Lib.hid htb
  have Hu := Lib.hid hu
  have Hs := Lib.hid hs
  have Hzt := Lib.hid hzt
  clear h1 hta htb hu hs hzt hz hj
  generalize hA : (⟨ta.toArray⟩ : ByteArray) = A at Hs
  generalize hB : (⟨tb.toArray⟩ : ByteArray) = B at Hs
  have hAz : A.size ≤ 1500000 := by rw [← hA]; show ta.length ≤ _; omega
  have hBz : B.size ≤ 1500000 := by rw [← hB]; show tb.length ≤ _; omega
  have HA := Lib.hid hA
  have HB := Lib.hid hB
  clear hA hB
  go_enter Try.func7, Try.ntmps7
  go_wp2_with fail
  refine (pack_any a _ (by omega)).mono ?_
  rintro e w1 ⟨rfl, hb1⟩
  rw [Hta.out, HA.out]
  go_wp2_with fail
  refine (pack_any b _ (by omega)).mono ?_
  rintro e w2 ⟨rfl, hb2⟩
  rw [Htb.out, HB.out]
  go_wp2_with fail
  rw [Hs.out]
  refine (unpack_all u ((a.size : Int) + (b.size : Int)) _ (by omega) (by omega) (.inl (by omega))).mono ?_
  rintro e w3 ⟨rfl, hb3⟩
  rw [Hzt.out, H1.out]
  go_wp2_with fail
  refine (awake6_any _).mono ?_
  rintro e w4 ⟨rfl, hb4⟩
  go_wp2_with fail
  go_ret
  have h2 := hb1.trans (hb2.mono hb1.size)
  have h3 := h2.trans (hb3.mono h2.size)
  exact ⟨rfl, h3.trans (hb4.mono h3.size)⟩
end Go.Proofs.Ytbbmmhhaabffiaa
