/- Layer 7's laws: what they return. -/
import Derived.Test.YtomdbomkejfoaaaWinPk
import Derived.Test.YtomdbomkejfoaaaWinRpk
import Derived.Test.YtomdbomkejfoaaaWinUp
import Derived.Test.YtomdbomkejfoaaaWinThere
import Derived.Test.YtomdbomkejfoaaaWinTwice
namespace Go.Proofs.Ytomdbomkejfoaaa
open Go.RowKit
set_option linter.unusedVariables false
set_option linter.unusedSimpArgs false

theorem unpack_all (s : ByteArray) (most : Int) (w : World) (hs : s.size ≤ 9223372036854775807) (hM : most ≤ 9223372036854775807) (hroom : most ≤ 200000000000000 ∨ s.size ≤ 4000000000000) :
    Calls Try.prog 13 #[.string s, .int .i64 most] w fun e w' => e = .returned (upV s.data.toList most) ∧ Below w.heap.size w w' := by
  by_cases h : most < 0
  · exact unpack_neg s most w h
  · obtain ⟨M, rfl⟩ : ∃ M : Nat, most = (M : Int) := ⟨most.toNat, by omega⟩
    exact unpack_pos s M w (by omega) hM (by omega)
theorem refUnpack_all (s : ByteArray) (most : Int) (w : World) (hs : s.size ≤ 140737488351232) (hM : most ≤ 9223372036854775807) (hroom : most ≤ 200000000000000 ∨ s.size ≤ 4000000000000) :
    Calls Try.prog 14 #[.string s, .int .i64 most] w fun e w' => e = .returned (upV s.data.toList most) ∧ Below w.heap.size w w' := by
  by_cases h : most < 0
  · exact refUnpack_neg s most w h
  · obtain ⟨M, rfl⟩ : ∃ M : Nat, most = (M : Int) := ⟨most.toNat, by omega⟩
    exact refUnpack_pos s M w (by omega) hM (by omega)
/-- what a packed text is unpacked to -/
theorem packed (s : ByteArray) : ∃ u : ByteArray, S (Win.pack s.data.toList) = .string u ∧ u.size = (Win.pack s.data.toList).length ∧ u.size ≤ s.size + (s.size + 127) / 128 ∧ (∀ m : Nat, s.size ≤ m → upV u.data.toList (m : Int) = .tuple #[.string s, .int .i64 0]) ∧ (∀ m : Nat, m < s.size → upV u.data.toList (m : Int) = .tuple #[.string ⟨#[]⟩, .int .i64 3]) := by
  have hlen : s.data.toList.length = s.size := rfl
  refine ⟨⟨(Win.pack s.data.toList).toArray⟩, rfl, rfl, Win.pack_little s.data.toList, fun m hm => ?_, fun m hm => ?_⟩
  · have h := Win.unpack_pack s.data.toList m (by rw [hlen]; exact hm)
    unfold upV
    show (match Win.unpack (Win.pack s.data.toList) (m : Int) with | (a, e) => _) = _
    rw [h]
  · have h := Win.unpack_less s.data.toList m (by rw [hlen]; exact hm)
    unfold upV
    show (match Win.unpack (Win.pack s.data.toList) (m : Int) with | (a, e) => _) = _
    rw [h]
def laneB : ByteArray := ⟨#[108, 97, 110, 101, 32, 108, 97, 110, 101]⟩
theorem awake7_any (w : World) :
    Calls Try.prog 9 #[] w fun e w' => e = .returned (.bool true) ∧ Below w.heap.size w w' := by
  have e1 : upV [0, 120, 130, 0, 0] 9 = .tuple #[.string ⟨#[120, 120, 120, 120, 120, 120, 120]⟩, .int .i64 0] := by
    unfold upV
    have : Win.unpack [0, 120, 130, 0, 0] 9 = ([120, 120, 120, 120, 120, 120, 120], 0) := by decide
    rw [this]
  obtain ⟨u, hu, hz, hz2, hup, _⟩ := packed laneB
  have h9 := hup 9 (by decide)
  have hls : laneB.size = 9 := rfl
  rw [hls] at hz2
  have hp := fun w : World => pack_any laneB w (by decide)
  rw [hu] at hp
  have E1 := Lib.hid e1
  have Hp := Lib.hid hp
  have H9 := Lib.hid h9
  clear e1 hu hz hup hls hp h9
  go_enter Try.func9, Try.ntmps9
  go_wp2_with fail
  refine (unpack_pos ⟨#[0, 120, 130, 0, 0]⟩ 9 _ (by decide) (by decide) (.inl (by decide))).mono ?_
  rintro e w1 ⟨rfl, hb1⟩
  rw [show (⟨#[0, 120, 130, 0, 0]⟩ : ByteArray).data.toList = [0, 120, 130, 0, 0] from rfl, show upV [0, 120, 130, 0, 0] ((9 : Nat) : Int) = upV [0, 120, 130, 0, 0] 9 from rfl, E1.out]
  go_wp2_with fail
  refine (Hp.out _).mono ?_
  rintro e w2 ⟨rfl, hb2⟩
  go_wp2_with fail
  refine (unpack_pos u 9 _ (by omega) (by decide) (.inl (by decide))).mono ?_
  rintro e w3 ⟨rfl, hb3⟩
  rw [H9.out]
  unfold laneB
  go_wp2_with fail
  go_ret
  have h2 := hb1.trans (hb2.mono hb1.size)
  exact ⟨rfl, h2.trans (hb3.mono h2.size)⟩
/-- so many bytes at most -/
def cutB (s : ByteArray) (n : Nat) : ByteArray := if n < s.size then s.extract 0 n else s
theorem cutB_size (s : ByteArray) (n : Nat) : (cutB s n).size ≤ n := by
  unfold cutB
  split
  · rw [ByteArray.size_extract]; omega
  · omega
theorem few7_any (s : ByteArray) (w : World) (hs : s.size ≤ 140737488351232) :
    Calls Try.prog 8 #[.string s] w fun e w' => e = .returned (.string (cutB s 500)) ∧ w = w' := by
  unfold cutB
  by_cases h : 500 < s.size
  · have hd : decide ((500 : Int) < (s.size : Int)) = true := by simp only [decide_eq_true_eq]; omega
    have hd' : decide (500 < s.size) = true := by simp only [decide_eq_true_eq]; omega
    rw [if_pos h]
    go_enter Try.func8, Try.ntmps8
    go_wp2_with fail
    go_ret
    exact ⟨rfl, rfl⟩
  · have hd : decide ((500 : Int) < (s.size : Int)) = false := by simp only [decide_eq_false_iff_not]; omega
    have hd' : decide (500 < s.size) = false := by simp only [decide_eq_false_iff_not]; omega
    rw [if_neg h]
    go_enter Try.func8, Try.ntmps8
    go_wp2_with fail
    go_ret
    exact ⟨rfl, rfl⟩
set_option maxRecDepth 20000 in
theorem windowPacks_any (s : ByteArray) (w : World) (hs : s.size ≤ 140737488351232) :
    Calls Try.prog 3 #[.string s] w fun e w' => e = .returned (.bool true) ∧ Below w.heap.size w w' := by
  have hc := cutB_size s 500
  obtain ⟨P, hP⟩ : ∃ P, (⟨(Win.pack (cutB s 500).data.toList).toArray⟩ : ByteArray) = P := ⟨_, rfl⟩
  have hS : S (Win.pack (cutB s 500).data.toList) = .string P := by rw [← hP]
  have h1 := fun w : World => pack_any (cutB s 500) w (by omega)
  have h2 := fun w : World => refPack_any (cutB s 500) w (by omega)
  rw [hS] at h1 h2
  have hst : (⟨#[116, 114, 97, 110, 115, 102, 101, 114, 32, 112, 97, 121, 32, 116, 111, 32, 102, 114, 111, 109, 32, 108, 97, 110, 101, 32, 98, 105, 100, 32, 102, 101, 101, 32, 110, 111, 110, 99, 101, 32, 114, 111, 117, 110, 100, 32, 98, 97, 116, 99, 104, 32, 100, 101, 108, 97, 121, 101, 100, 32, 48, 49, 50, 51, 52, 53, 54, 55]⟩ : ByteArray) = stB := rfl
  have hf := fun w : World => few7_any s w hs
  generalize cutB s 500 = u at *
  have H1 := Lib.hid h1
  have H2 := Lib.hid h2
  have Hf := Lib.hid hf
  clear h1 h2 hP hS hf
  go_enter Try.func3, Try.ntmps3
  go_wp2_with fail
  refine (Hf.out _).mono ?_
  rintro e w0 ⟨rfl, rfl⟩
  go_wp2_with fail
  refine (awake7_any _).mono ?_
  rintro e w1 ⟨rfl, hb1⟩
  go_wp2_with fail
  refine (H1.out _).mono ?_
  rintro e w2 ⟨rfl, hb2⟩
  go_wp2_with fail
  refine (H2.out _).mono ?_
  rintro e w3 ⟨rfl, hb3⟩
  go_wp2_with fail
  refine (static_any _).mono ?_
  rintro e w4 ⟨rfl, rfl⟩
  generalize stB = sb at *
  go_wp2_with fail
  go_ret
  have h2 := hb1.trans (hb2.mono hb1.size)
  exact ⟨rfl, h2.trans (hb3.mono h2.size)⟩
theorem windowUnpacks_any (s : ByteArray) (most : Int) (w : World) (hs : s.size ≤ 140737488351232) (hM : most ≤ 9223372036854775807) (hroom : most ≤ 200000000000000 ∨ s.size ≤ 4000000000000) :
    Calls Try.prog 4 #[.string s, .int .i64 most] w fun e w' => e = .returned (.bool true) ∧ Below w.heap.size w w' := by
  rcases hx : Win.unpack s.data.toList most with ⟨a, e⟩
  have hv : upV s.data.toList most = .tuple #[S a, .int .i64 e] := by unfold upV; rw [hx]
  have Hv := Lib.hid hv
  clear hx hv
  go_enter Try.func4, Try.ntmps4
  go_wp2_with fail
  refine (unpack_all s most _ (by omega) hM hroom).mono ?_
  rintro e w1 ⟨rfl, hb1⟩
  rw [Hv.out]
  go_wp2_with fail
  refine (refUnpack_all s most _ hs hM hroom).mono ?_
  rintro e w2 ⟨rfl, hb2⟩
  rw [Hv.out]
  go_wp2_with fail
  refine (awake7_any _).mono ?_
  rintro e w3 ⟨rfl, hb3⟩
  go_wp2_with fail
  go_ret
  have h2 := hb1.trans (hb2.mono hb1.size)
  exact ⟨rfl, h2.trans (hb3.mono h2.size)⟩
theorem windowLittle_any (s : ByteArray) (w : World) (hs : s.size ≤ 140737488351232) :
    Calls Try.prog 6 #[.string s] w fun e w' => e = .returned (.bool true) ∧ Below w.heap.size w w' := by
  by_cases hcut : 20000 < s.size
  · have hd : decide ((20000 : Int) < (s.size : Int)) = true := by simp only [decide_eq_true_eq]; omega
    have hd' : decide (20000 < s.size) = true := by simp only [decide_eq_true_eq]; omega
    obtain ⟨v, hv⟩ : ∃ v, s.extract 0 20000 = v := ⟨_, rfl⟩
    have hvz : v.size ≤ 20000 := by rw [← hv, ByteArray.size_extract]; omega
    have Hv := Lib.hid hv
    obtain ⟨u, hu, hz, hz2, _, _⟩ := packed v
    have hp := fun w : World => pack_any v w (by omega)
    rw [hu] at hp
    have hl : decide ((u.size : Int) ≤ (v.size : Int) + ((v.size : Int) + 127) / 128) = true := by simp only [decide_eq_true_eq]; omega
    have hl2 : (u.size : Int) ≤ (v.size : Int) + ((v.size : Int) + 127) / 128 := by omega
    have Hp := Lib.hid hp
    clear hu hz hz2 hp
    go_enter Try.func6, Try.ntmps6
    go_wp2_with fail
    refine (awake7_any _).mono ?_
    rintro e w1 ⟨rfl, hb1⟩
    go_wp2_with fail
    refine (Hp.out _).mono ?_
    rintro e w2 ⟨rfl, hb2⟩
    go_wp2_with fail
    go_ret
    exact ⟨rfl, hb1.trans (hb2.mono hb1.size)⟩
  · have hd : decide ((20000 : Int) < (s.size : Int)) = false := by simp only [decide_eq_false_iff_not]; omega
    have hd' : decide (20000 < s.size) = false := by simp only [decide_eq_false_iff_not]; omega
    obtain ⟨v, hv⟩ : ∃ v, s = v := ⟨_, rfl⟩
    have hvz : v.size ≤ 20000 := by rw [← hv]; omega
    subst hv
    obtain ⟨u, hu, hz, hz2, _, _⟩ := packed s
    have hp := fun w : World => pack_any s w (by omega)
    rw [hu] at hp
    have hl : decide ((u.size : Int) ≤ (s.size : Int) + ((s.size : Int) + 127) / 128) = true := by simp only [decide_eq_true_eq]; omega
    have hl2 : (u.size : Int) ≤ (s.size : Int) + ((s.size : Int) + 127) / 128 := by omega
    have Hp := Lib.hid hp
    clear hu hz hz2 hp
    go_enter Try.func6, Try.ntmps6
    go_wp2_with fail
    refine (awake7_any _).mono ?_
    rintro e w1 ⟨rfl, hb1⟩
    go_wp2_with fail
    refine (Hp.out _).mono ?_
    rintro e w2 ⟨rfl, hb2⟩
    go_wp2_with fail
    go_ret
    exact ⟨rfl, hb1.trans (hb2.mono hb1.size)⟩
theorem windowAgain_any (s : ByteArray) (w : World) (hs : s.size ≤ 140737488351232) :
    Calls Try.prog 7 #[.string s] w fun e w' => e = .returned (.bool true) ∧ Below w.heap.size w w' := by
  by_cases hcut : 8000 < s.size
  · have hd : decide ((8000 : Int) < (s.size : Int)) = true := by simp only [decide_eq_true_eq]; omega
    have hd' : decide (8000 < s.size) = true := by simp only [decide_eq_true_eq]; omega
    obtain ⟨v, hv⟩ : ∃ v, s.extract 0 8000 = v := ⟨_, rfl⟩
    have hvz : v.size ≤ 8000 := by rw [← hv, ByteArray.size_extract]; omega
    have Hv := Lib.hid hv
    obtain ⟨u, hu, hz, hz2, _, _⟩ := packed v
    obtain ⟨u2, hu2, hz3, hz4, _, _⟩ := packed (v ++ v)
    have hp := fun w : World => pack_any v w (by omega)
    have hsz : (v ++ v).size = v.size + v.size := ByteArray.size_append
    have hp2 := fun w : World => pack_any (v ++ v) w (by omega)
    rw [hu] at hp
    rw [hu2] at hp2
    have htw := Win.pack_twice v.data.toList (by show v.size ≤ _; omega)
    have hap : (v ++ v).data.toList = v.data.toList ++ v.data.toList := by simp
    rw [hap] at hz3
    rw [← hz, ← hz3] at htw
    have htw2 : u2.size ≤ u.size + 3 * ((v.size + 129) / 130) + 133 := htw
    have hl : decide ((u2.size : Int) ≤ (u.size : Int) + 3 * (((v.size : Int) + 129) / 130) + 133) = true := by simp only [decide_eq_true_eq]; omega
    have hl2 : (u2.size : Int) ≤ (u.size : Int) + 3 * (((v.size : Int) + 129) / 130) + 133 := by omega
    have hu1s : u.size ≤ 20000 := by omega
    have hu2s : u2.size ≤ 40000 := by omega
    have Hp := Lib.hid hp
    have Hp2 := Lib.hid hp2
    clear hu hz hz2 hp hu2 hz3 hz4 hp2 htw hap htw2 hsz
    go_enter Try.func7, Try.ntmps7
    go_wp2_with fail
    refine (awake7_any _).mono ?_
    rintro e w1 ⟨rfl, hb1⟩
    go_wp2_with fail
    refine (Hp2.out _).mono ?_
    rintro e w2 ⟨rfl, hb2⟩
    go_wp2_with fail
    refine (Hp.out _).mono ?_
    rintro e w3 ⟨rfl, hb3⟩
    go_wp2_with fail
    go_ret
    have h2 := hb1.trans (hb2.mono hb1.size)
    exact ⟨rfl, h2.trans (hb3.mono h2.size)⟩
  · have hd : decide ((8000 : Int) < (s.size : Int)) = false := by simp only [decide_eq_false_iff_not]; omega
    have hd' : decide (8000 < s.size) = false := by simp only [decide_eq_false_iff_not]; omega
    obtain ⟨v, hv⟩ : ∃ v, s = v := ⟨_, rfl⟩
    have hvz : v.size ≤ 8000 := by rw [← hv]; omega
    subst hv
    obtain ⟨u, hu, hz, hz2, _, _⟩ := packed s
    obtain ⟨u2, hu2, hz3, hz4, _, _⟩ := packed (s ++ s)
    have hp := fun w : World => pack_any s w (by omega)
    have hsz : (s ++ s).size = s.size + s.size := ByteArray.size_append
    have hp2 := fun w : World => pack_any (s ++ s) w (by omega)
    rw [hu] at hp
    rw [hu2] at hp2
    have htw := Win.pack_twice s.data.toList (by show s.size ≤ _; omega)
    have hap : (s ++ s).data.toList = s.data.toList ++ s.data.toList := by simp
    rw [hap] at hz3
    rw [← hz, ← hz3] at htw
    have htw2 : u2.size ≤ u.size + 3 * ((s.size + 129) / 130) + 133 := htw
    have hl : decide ((u2.size : Int) ≤ (u.size : Int) + 3 * (((s.size : Int) + 129) / 130) + 133) = true := by simp only [decide_eq_true_eq]; omega
    have hl2 : (u2.size : Int) ≤ (u.size : Int) + 3 * (((s.size : Int) + 129) / 130) + 133 := by omega
    have hu1s : u.size ≤ 20000 := by omega
    have hu2s : u2.size ≤ 40000 := by omega
    have Hp := Lib.hid hp
    have Hp2 := Lib.hid hp2
    clear hu hz hz2 hp hu2 hz3 hz4 hp2 htw hap htw2 hsz
    go_enter Try.func7, Try.ntmps7
    go_wp2_with fail
    refine (awake7_any _).mono ?_
    rintro e w1 ⟨rfl, hb1⟩
    go_wp2_with fail
    refine (Hp2.out _).mono ?_
    rintro e w2 ⟨rfl, hb2⟩
    go_wp2_with fail
    refine (Hp.out _).mono ?_
    rintro e w3 ⟨rfl, hb3⟩
    go_wp2_with fail
    go_ret
    have h2 := hb1.trans (hb2.mono hb1.size)
    exact ⟨rfl, h2.trans (hb3.mono h2.size)⟩
theorem windowBack_any (s : ByteArray) (less : Int) (w : World) (hs : s.size ≤ 140737488351232) (hl0 : -9223372036854775808 ≤ less) (hl1 : less ≤ 9223372036854775807) :
    Calls Try.prog 5 #[.string s, .int .i64 less] w fun e w' => e = .returned (.bool true) ∧ Below w.heap.size w w' := by
  by_cases hcut : 20000 < s.size
  · have hd : decide ((20000 : Int) < (s.size : Int)) = true := by simp only [decide_eq_true_eq]; omega
    have hd' : decide (20000 < s.size) = true := by simp only [decide_eq_true_eq]; omega
    obtain ⟨v, hv⟩ : ∃ v, s.extract 0 20000 = v := ⟨_, rfl⟩
    have hvz : v.size ≤ 20000 := by rw [← hv, ByteArray.size_extract]; omega
    have Hv := Lib.hid hv
    obtain ⟨u, hu, hz, hz2, hup, hless⟩ := packed v
    have hp := fun w : World => pack_any v w (by omega)
    rw [hu] at hp
    have hfull := hup v.size (Nat.le_refl _)
    have Hp := Lib.hid hp
    have Hfull := Lib.hid hfull
    have Hless := Lib.hid hless
    clear hu hz hp hup hfull hless
    rcases Int.lt_or_le less 1 with hc | hc
    · have hdl : decide (less < 1) = true := by simpa using hc
      go_enter Try.func5, Try.ntmps5
      go_wp2_with fail
      refine (Hp.out _).mono ?_
      rintro e w1 ⟨rfl, hb1⟩
      go_wp2_with fail
      refine (unpack_pos u v.size _ (by omega) (by omega) (.inl (by omega))).mono ?_
      rintro e w2 ⟨rfl, hb2⟩
      rw [Hfull.out]
      go_wp2_with fail
      refine (awake7_any _).mono ?_
      rintro e w3 ⟨rfl, hb3⟩
      go_wp2_with fail
      go_ret
      have h2 := hb1.trans (hb2.mono hb1.size)
      exact ⟨rfl, h2.trans (hb3.mono h2.size)⟩
    · have hdl : decide (less < 1) = false := by simp only [decide_eq_false_iff_not]; omega
      rcases Int.lt_or_le (v.size : Int) less with hc2 | hc2
      · have hdl2 : decide ((v.size : Int) < less) = true := by simpa using hc2
        go_enter Try.func5, Try.ntmps5
        go_wp2_with fail
        refine (Hp.out _).mono ?_
        rintro e w1 ⟨rfl, hb1⟩
        go_wp2_with fail
        refine (unpack_pos u v.size _ (by omega) (by omega) (.inl (by omega))).mono ?_
        rintro e w2 ⟨rfl, hb2⟩
        rw [Hfull.out]
        go_wp2_with fail
        refine (awake7_any _).mono ?_
        rintro e w3 ⟨rfl, hb3⟩
        go_wp2_with fail
        go_ret
        have h2 := hb1.trans (hb2.mono hb1.size)
        exact ⟨rfl, h2.trans (hb3.mono h2.size)⟩
      · have hdl2 : decide ((v.size : Int) < less) = false := by simp only [decide_eq_false_iff_not]; omega
        obtain ⟨m, hm⟩ : ∃ m : Nat, (v.size : Int) - less = (m : Int) := ⟨((v.size : Int) - less).toNat, by omega⟩
        have H3 := Lib.hid (Hless.out m (by omega))
        go_enter Try.func5, Try.ntmps5
        go_wp2_with fail
        refine (Hp.out _).mono ?_
        rintro e w1 ⟨rfl, hb1⟩
        go_wp2_with fail
        refine (unpack_pos u v.size _ (by omega) (by omega) (.inl (by omega))).mono ?_
        rintro e w2 ⟨rfl, hb2⟩
        rw [Hfull.out]
        go_wp2_with fail
        refine (awake7_any _).mono ?_
        rintro e w3 ⟨rfl, hb3⟩
        go_wp2_with fail
        refine (unpack_pos u m _ (by omega) (by omega) (.inl (by omega))).mono ?_
        rintro e w4 ⟨rfl, hb4⟩
        rw [H3.out]
        go_wp2_with fail
        go_ret
        have h2 := hb1.trans (hb2.mono hb1.size)
        have h3 := h2.trans (hb3.mono h2.size)
        exact ⟨rfl, h3.trans (hb4.mono h3.size)⟩
  · have hd : decide ((20000 : Int) < (s.size : Int)) = false := by simp only [decide_eq_false_iff_not]; omega
    have hd' : decide (20000 < s.size) = false := by simp only [decide_eq_false_iff_not]; omega
    obtain ⟨v, hv⟩ : ∃ v, s = v := ⟨_, rfl⟩
    have hvz : v.size ≤ 20000 := by rw [← hv]; omega
    subst hv
    obtain ⟨u, hu, hz, hz2, hup, hless⟩ := packed s
    have hp := fun w : World => pack_any s w (by omega)
    rw [hu] at hp
    have hfull := hup s.size (Nat.le_refl _)
    have Hp := Lib.hid hp
    have Hfull := Lib.hid hfull
    have Hless := Lib.hid hless
    clear hu hz hp hup hfull hless
    rcases Int.lt_or_le less 1 with hc | hc
    · have hdl : decide (less < 1) = true := by simpa using hc
      go_enter Try.func5, Try.ntmps5
      go_wp2_with fail
      refine (Hp.out _).mono ?_
      rintro e w1 ⟨rfl, hb1⟩
      go_wp2_with fail
      refine (unpack_pos u s.size _ (by omega) (by omega) (.inl (by omega))).mono ?_
      rintro e w2 ⟨rfl, hb2⟩
      rw [Hfull.out]
      go_wp2_with fail
      refine (awake7_any _).mono ?_
      rintro e w3 ⟨rfl, hb3⟩
      go_wp2_with fail
      go_ret
      have h2 := hb1.trans (hb2.mono hb1.size)
      exact ⟨rfl, h2.trans (hb3.mono h2.size)⟩
    · have hdl : decide (less < 1) = false := by simp only [decide_eq_false_iff_not]; omega
      rcases Int.lt_or_le (s.size : Int) less with hc2 | hc2
      · have hdl2 : decide ((s.size : Int) < less) = true := by simpa using hc2
        go_enter Try.func5, Try.ntmps5
        go_wp2_with fail
        refine (Hp.out _).mono ?_
        rintro e w1 ⟨rfl, hb1⟩
        go_wp2_with fail
        refine (unpack_pos u s.size _ (by omega) (by omega) (.inl (by omega))).mono ?_
        rintro e w2 ⟨rfl, hb2⟩
        rw [Hfull.out]
        go_wp2_with fail
        refine (awake7_any _).mono ?_
        rintro e w3 ⟨rfl, hb3⟩
        go_wp2_with fail
        go_ret
        have h2 := hb1.trans (hb2.mono hb1.size)
        exact ⟨rfl, h2.trans (hb3.mono h2.size)⟩
      · have hdl2 : decide ((s.size : Int) < less) = false := by simp only [decide_eq_false_iff_not]; omega
        obtain ⟨m, hm⟩ : ∃ m : Nat, (s.size : Int) - less = (m : Int) := ⟨((s.size : Int) - less).toNat, by omega⟩
        have H3 := Lib.hid (Hless.out m (by omega))
        go_enter Try.func5, Try.ntmps5
        go_wp2_with fail
        refine (Hp.out _).mono ?_
        rintro e w1 ⟨rfl, hb1⟩
        go_wp2_with fail
        refine (unpack_pos u s.size _ (by omega) (by omega) (.inl (by omega))).mono ?_
        rintro e w2 ⟨rfl, hb2⟩
        rw [Hfull.out]
        go_wp2_with fail
        refine (awake7_any _).mono ?_
        rintro e w3 ⟨rfl, hb3⟩
        go_wp2_with fail
        refine (unpack_pos u m _ (by omega) (by omega) (.inl (by omega))).mono ?_
        rintro e w4 ⟨rfl, hb4⟩
        rw [H3.out]
        go_wp2_with fail
        go_ret
        have h2 := hb1.trans (hb2.mono hb1.size)
        have h3 := h2.trans (hb3.mono h2.size)
        exact ⟨rfl, h3.trans (hb4.mono h3.size)⟩
end Go.Proofs.Ytomdbomkejfoaaa
