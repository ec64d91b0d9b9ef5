/- Layer 8's laws: what they return. -/
import Derived.Test.YtmcdanodacbpbaaCrRop
import Derived.Test.YtmcdanodacbpbaaWinOwn8
namespace Go.Proofs.Ytmcdanodacbpbaa
open Go.RowKit
set_option linter.unusedVariables false
set_option linter.unusedSimpArgs false

theorem Cr.choose_le (l : List UInt8) : (Cr.choose l).2.length ≤ (Cr.way 1 l).length := by
  have h1 : (Cr.better l 1 (0, l)).2.length ≤ (Cr.way 1 l).length := by
    unfold Cr.better
    split
    · exact Nat.le_refl _
    · rename_i h
      have h : ¬ (Cr.way 1 l).length < l.length := h
      show l.length ≤ _
      omega
  have step : ∀ (w : Nat) (b : Nat × List UInt8), (Cr.better l w b).2.length ≤ b.2.length := by
    intro w b
    unfold Cr.better
    split
    · rename_i h; exact Nat.le_of_lt h
    · exact Nat.le_refl _
  exact Nat.le_trans (step 3 _) (Nat.le_trans (step 2 _) h1)
def as8 : ByteArray := ⟨#[97, 97, 97, 97, 97, 97, 97, 97, 97, 97, 97, 97, 97, 97, 97, 97, 97, 97, 97, 97]⟩
def nine8 : ByteArray := ⟨#[49, 50, 51, 52, 53, 54, 55, 56, 57]⟩
theorem as8_len : (Cr.pack as8.data.toList).length < 20 := by
  have h := Cr.choose_le as8.data.toList
  have hr : (Cr.way 1 as8.data.toList).length = 2 := by
    unfold Cr.way as8
    rw [if_pos rfl]
    decide +kernel
  have hn : (Oct.num as8.data.toList.length).length = 2 := by decide +kernel
  unfold Cr.pack Cr.head
  simp only [List.length_append, List.length_cons, Cr.four_len]
  omega
theorem nine8_sum : Cr.sum nine8.data.toList = 3421780262 := by decide +kernel
/-- a text's crate, and what is in it -/
theorem crated (s : ByteArray) (hs : s.size ≤ 32768) : ∃ u : ByteArray, S (Cr.pack s.data.toList) = .string u ∧ u.size = (Cr.pack s.data.toList).length ∧ u.size ≤ s.size + 8 ∧ (∀ m : Nat, s.size ≤ m → pairV (Cr.opened u.data.toList (m : Int)) = .tuple #[.string s, .int .i64 0]) ∧ (∀ m : Nat, m < s.size → pairV (Cr.opened u.data.toList (m : Int)) = .tuple #[.string ⟨#[]⟩, .int .i64 3]) := by
  have hlen : s.data.toList.length = s.size := rfl
  refine ⟨⟨(Cr.pack s.data.toList).toArray⟩, rfl, rfl, Cr.pack_len (by rw [hlen]; exact hs), fun m hm => ?_, fun m hm => ?_⟩
  · show pairV (Cr.opened (Cr.pack s.data.toList) (m : Int)) = _
    rw [Cr.opened_pack (by rw [hlen]; exact hs), if_neg (by omega)]
  · show pairV (Cr.opened (Cr.pack s.data.toList) (m : Int)) = _
    rw [Cr.opened_pack (by rw [hlen]; exact hs), if_pos (by omega)]
theorem awake8_any (w : World) :
    Calls Try.prog 9 #[] w fun e w' => e = .returned (.bool true) ∧ Below w.heap.size w w' := by
  obtain ⟨u, hu, hz, hz2, hup, _⟩ := crated as8 (by decide)
  have h20 := hup 20 (by decide)
  have hul : u.size < 20 := by rw [hz]; exact as8_len
  have hp := fun w : World => crPack_any as8 w (by decide)
  rw [hu] at hp
  have hop := fun w : World => crOpen_any u 20 w (by omega)
  have e20 : ((20 : Nat) : Int) = 20 := rfl
  rw [e20] at h20
  rw [h20] at hop
  have hsum := fun w : World => crSum_any nine8 w (by decide)
  rw [nine8_sum] at hsum
  have Hp := Lib.hid hp
  have Hop := Lib.hid hop
  have Hsum := Lib.hid hsum
  clear hu hz hup hp h20 hop hsum hz2
  have d1 : decide ((u.size : Int) < 20) = true := by simp only [decide_eq_true_eq]; omega
  have d1' : decide (u.size < 20) = true := by simp only [decide_eq_true_eq]; omega
  go_enter Try.func9, Try.ntmps9
  go_wp2_with fail
  refine (Hp.out _).mono ?_
  rintro e w1 ⟨rfl, hb1⟩
  go_wp2_with fail
  refine (Hop.out _).mono ?_
  rintro e w2 ⟨rfl, hb2⟩
  go_wp2_with fail
  refine (Hsum.out _).mono ?_
  rintro e w3 ⟨rfl, rfl⟩
  unfold as8
  go_wp2_with fail
  go_ret
  exact ⟨rfl, hb1.trans (hb2.mono hb1.size)⟩
def cutB (s : ByteArray) (n : Nat) : ByteArray := if n < s.size then s.extract 0 n else s
theorem cutB_size (s : ByteArray) (n : Nat) : (cutB s n).size ≤ n := by
  unfold cutB
  split
  · rw [ByteArray.size_extract]; omega
  · omega
theorem few8_any (s : ByteArray) (n : Nat) (w : World) (hs : s.size ≤ 140737488351232) (hn : n ≤ 1000000) :
    Calls Try.prog 10 #[.string s, .int .i64 (n : Int)] w fun e w' => e = .returned (.string (cutB s n)) ∧ w = w' := by
  unfold cutB
  by_cases h : n < s.size
  · have hd : decide ((n : Int) < (s.size : Int)) = true := by simp only [decide_eq_true_eq]; omega
    have hd' : decide (n < s.size) = true := by simp only [decide_eq_true_eq]; omega
    rw [if_pos h]
    go_enter Try.func10, Try.ntmps10
    go_wp2_with fail
    go_ret
    exact ⟨rfl, rfl⟩
  · have hd : decide ((n : Int) < (s.size : Int)) = false := by simp only [decide_eq_false_iff_not]; omega
    have hd' : decide (n < s.size) = false := by simp only [decide_eq_false_iff_not]; omega
    rw [if_neg h]
    go_enter Try.func10, Try.ntmps10
    go_wp2_with fail
    go_ret
    exact ⟨rfl, rfl⟩
theorem cratePacks_any (s : ByteArray) (w : World) (hs : s.size ≤ 140737488351232) :
    Calls Try.prog 3 #[.string s] w fun e w' => e = .returned (.bool true) ∧ Below w.heap.size w w' := by
  by_cases hbig : 32768 < s.size
  · have hd : decide ((32768 : Int) < (s.size : Int)) = true := by simp only [decide_eq_true_eq]; omega
    have hd' : decide (32768 < s.size) = true := by simp only [decide_eq_true_eq]; omega
    go_enter Try.func3, Try.ntmps3
    go_wp2_with fail
    refine (crPack_big s _ hs hbig).mono ?_
    rintro e w1 ⟨rfl, rfl⟩
    go_wp2_with fail
    refine (awake8_any _).mono ?_
    rintro e w2 ⟨rfl, hb2⟩
    go_wp2_with fail
    go_ret
    exact ⟨rfl, hb2⟩
  · have hd : decide ((32768 : Int) < (s.size : Int)) = false := by simp only [decide_eq_false_iff_not]; omega
    have hd' : decide (32768 < s.size) = false := by simp only [decide_eq_false_iff_not]; omega
    have hc := cutB_size s 400
    have hf := fun w : World => few8_any s 400 w hs (by omega)
    have e4 : ((400 : Nat) : Int) = 400 := rfl
    simp only [e4] at hf
    generalize cutB s 400 = v at *
    obtain ⟨u, hu, _, hz2, _, _⟩ := crated v (by omega)
    have h1 := fun w : World => crPack_any v w (by omega)
    have h2 := fun w : World => crRefPack_any v w (by omega)
    rw [hu] at h1 h2
    have hl := Cr.sum_lt v.data.toList
    have h3 := fun w : World => crSum_any v w (by omega)
    have h4 := fun w : World => crRefSum_any v w (by omega)
    generalize Cr.sum v.data.toList = x at *
    have H1 := Lib.hid h1
    have H2 := Lib.hid h2
    have H3 := Lib.hid h3
    have H4 := Lib.hid h4
    have Hf := Lib.hid hf
    clear h1 h2 h3 h4 hf hu hz2
    go_enter Try.func3, Try.ntmps3
    go_wp2_with fail
    refine (Hf.out _).mono ?_
    rintro e w0 ⟨rfl, rfl⟩
    go_wp2_with fail
    refine (H1.out _).mono ?_
    rintro e w1 ⟨rfl, hb1⟩
    go_wp2_with fail
    refine (H2.out _).mono ?_
    rintro e w2 ⟨rfl, hb2⟩
    go_wp2_with fail
    refine (awake8_any _).mono ?_
    rintro e w3 ⟨rfl, hb3⟩
    go_wp2_with fail
    refine (H3.out _).mono ?_
    rintro e w4 ⟨rfl, rfl⟩
    go_wp2_with fail
    refine (H4.out _).mono ?_
    rintro e w5 ⟨rfl, rfl⟩
    go_wp2_with fail
    go_ret
    have h2 := hb1.trans (hb2.mono hb1.size)
    exact ⟨rfl, h2.trans (hb3.mono h2.size)⟩
theorem crateOpens_any (s : ByteArray) (most : Int) (w : World) (hs : s.size ≤ 140737488351232) :
    Calls Try.prog 4 #[.string s, .int .i64 most] w fun e w' => e = .returned (.bool true) ∧ Below w.heap.size w w' := by
  have h1 := fun w : World => crOpen_any s most w hs
  have h2 := fun w : World => crRopen_any s most w hs
  generalize Cr.opened s.data.toList most = X at *
  obtain ⟨a, e⟩ := X
  obtain ⟨T, hT⟩ : ∃ T : ByteArray, (⟨a.toArray⟩ : ByteArray) = T := ⟨_, rfl⟩
  have hp : pairV (a, e) = .tuple #[.string T, .int .i64 e] := by rw [← hT]
  rw [hp] at h1 h2
  have H1 := Lib.hid h1
  have H2 := Lib.hid h2
  clear h1 h2 hp hT
  go_enter Try.func4, Try.ntmps4
  go_wp2_with fail
  refine (H1.out _).mono ?_
  rintro e w1 ⟨rfl, hb1⟩
  go_wp2_with fail
  refine (H2.out _).mono ?_
  rintro e w2 ⟨rfl, hb2⟩
  go_wp2_with fail
  refine (awake8_any _).mono ?_
  rintro e w3 ⟨rfl, hb3⟩
  go_wp2_with fail
  go_ret
  have h2 := hb1.trans (hb2.mono hb1.size)
  exact ⟨rfl, h2.trans (hb3.mono h2.size)⟩
theorem crateBack_any (s : ByteArray) (less : Int) (w : World) (hs : s.size ≤ 140737488351232) (hl0 : -9223372036854775808 ≤ less) (hl1 : less ≤ 9223372036854775807) :
    Calls Try.prog 5 #[.string s, .int .i64 less] w fun e w' => e = .returned (.bool true) ∧ Below w.heap.size w w' := by
  have hc := cutB_size s 20000
  have hf := fun w : World => few8_any s 20000 w hs (by omega)
  have e4 : ((20000 : Nat) : Int) = 20000 := rfl
  simp only [e4] at hf
  generalize cutB s 20000 = v at *
  obtain ⟨u, hu, hz, hz2, hup, hless⟩ := crated v (by omega)
  have hp := fun w : World => crPack_any v w (by omega)
  rw [hu] at hp
  have hfull := hup v.size (Nat.le_refl _)
  have Hp := Lib.hid hp
  have Hf := Lib.hid hf
  have Hfull := Lib.hid hfull
  have Hless := Lib.hid hless
  clear hu hz hp hup hfull hless hf
  have d9 : decide ((v.size : Int) + 9 < (u.size : Int)) = false := by simp only [decide_eq_false_iff_not]; omega
  have d9' : decide (v.size + 9 < u.size) = false := by simp only [decide_eq_false_iff_not]; omega
  rcases Int.lt_or_le less 1 with hc | hc
  · have hdl : decide (less < 1) = true := by simpa using hc
    go_enter Try.func5, Try.ntmps5
    go_wp2_with fail
    refine (Hf.out _).mono ?_
    rintro e w0 ⟨rfl, rfl⟩
    go_wp2_with fail
    refine (Hp.out _).mono ?_
    rintro e w1 ⟨rfl, hb1⟩
    go_wp2_with fail
    refine (crOpen_any u (v.size : Int) _ (by omega)).mono ?_
    rintro e w2 ⟨rfl, hb2⟩
    rw [Hfull.out]
    go_wp2_with fail
    refine (awake8_any _).mono ?_
    rintro e w3 ⟨rfl, hb3⟩
    go_wp2_with fail
    go_ret
    have h2 := hb1.trans (hb2.mono hb1.size)
    exact ⟨rfl, h2.trans (hb3.mono h2.size)⟩
  · have hdl : decide (less < 1) = false := by simp only [decide_eq_false_iff_not]; omega
    rcases Int.lt_or_le (v.size : Int) less with hc2 | hc2
    · have hdl2 : decide ((v.size : Int) < less) = true := by simpa using hc2
      go_enter Try.func5, Try.ntmps5
      go_wp2_with fail
      refine (Hf.out _).mono ?_
      rintro e w0 ⟨rfl, rfl⟩
      go_wp2_with fail
      refine (Hp.out _).mono ?_
      rintro e w1 ⟨rfl, hb1⟩
      go_wp2_with fail
      refine (crOpen_any u (v.size : Int) _ (by omega)).mono ?_
      rintro e w2 ⟨rfl, hb2⟩
      rw [Hfull.out]
      go_wp2_with fail
      refine (awake8_any _).mono ?_
      rintro e w3 ⟨rfl, hb3⟩
      go_wp2_with fail
      go_ret
      have h2 := hb1.trans (hb2.mono hb1.size)
      exact ⟨rfl, h2.trans (hb3.mono h2.size)⟩
    · have hdl2 : decide ((v.size : Int) < less) = false := by simp only [decide_eq_false_iff_not]; omega
      obtain ⟨m, hm⟩ : ∃ m : Nat, (v.size : Int) - less = (m : Int) := ⟨((v.size : Int) - less).toNat, by omega⟩
      have H3 := Lib.hid (Hless.out m (by omega))
      have Hm := Lib.hid hm
      clear hm
      go_enter Try.func5, Try.ntmps5
      go_wp2_with fail
      refine (Hf.out _).mono ?_
      rintro e w0 ⟨rfl, rfl⟩
      go_wp2_with fail
      refine (Hp.out _).mono ?_
      rintro e w1 ⟨rfl, hb1⟩
      go_wp2_with fail
      refine (crOpen_any u (v.size : Int) _ (by omega)).mono ?_
      rintro e w2 ⟨rfl, hb2⟩
      rw [Hfull.out]
      go_wp2_with fail
      refine (awake8_any _).mono ?_
      rintro e w3 ⟨rfl, hb3⟩
      go_wp2_with fail
      refine (crOpen_any u ((v.size : Int) - less) _ (by omega)).mono ?_
      rintro e w4 ⟨rfl, hb4⟩
      rw [Hm.out, H3.out]
      go_wp2_with fail
      go_ret
      have h2 := hb1.trans (hb2.mono hb1.size)
      have h3 := h2.trans (hb3.mono h2.size)
      exact ⟨rfl, h3.trans (hb4.mono h3.size)⟩
theorem crateWays_any (s : ByteArray) (y : Nat) (w : World) (hs : s.size ≤ 140737488351232) (hy : y < 256) :
    Calls Try.prog 6 #[.string s, .int .u8 (y : Int)] w fun e w' => e = .returned (.bool true) ∧ Below w.heap.size w w' := by
  have hc := cutB_size s 400
  have hf := fun w : World => few8_any s 400 w hs (by omega)
  have e4 : ((400 : Nat) : Int) = 400 := rfl
  simp only [e4] at hf
  generalize cutB s 400 = v at *
  have hlen : v.data.toList.length = v.size := rfl
  obtain ⟨k, hk⟩ : ∃ k, y % 4 = k := ⟨_, rfl⟩
  have ek : (y : Int) % 4 = (k : Int) := by omega
  have hk4 : k < 4 := by omega
  have hop := Cr.opened_way (l := v.data.toList) hk4 (by omega) v.size
  rw [hlen, if_neg (by omega)] at hop
  have h1 := fun w : World => head_any k v w (by omega) (by omega)
  have h2 := fun w : World => way_any k v w hk4 (by omega)
  have hhl : (Cr.head k v.data.toList).length ≤ 14 := by
    have := Oct.num_length_le v.data.toList.length
    unfold Cr.head
    simp only [List.length_append, List.length_cons, Cr.four_len]
    omega
  have hwl := Cr.way_len v.data.toList k
  generalize Cr.head k v.data.toList = hd at *
  generalize Cr.way k v.data.toList = wy at *
  obtain ⟨H, hH⟩ : ∃ H : ByteArray, (⟨hd.toArray⟩ : ByteArray) = H := ⟨_, rfl⟩
  obtain ⟨Y, hY⟩ : ∃ Y : ByteArray, (⟨wy.toArray⟩ : ByteArray) = Y := ⟨_, rfl⟩
  have hHz : H.size ≤ 14 := by rw [← hH]; exact hhl
  have hYz : Y.size ≤ 1400 := by rw [← hY]; exact Nat.le_trans hwl (by rw [hlen]; omega)
  have hdl : (H ++ Y).data.toList = hd ++ wy := by rw [← hH, ← hY, append_list]
  have h3 : ∀ w : World, Calls Try.prog 14 #[.string (H ++ Y), .int .i64 (v.size : Int)] w fun e w' => e = .returned (.tuple #[.string v, .int .i64 0]) ∧ Below w.heap.size w w' := by
    intro w
    have h := crOpen_any (H ++ Y) (v.size : Int) w (by rw [ByteArray.size_append]; omega)
    rw [hdl, hop] at h
    have e : pairV (v.data.toList, 0) = .tuple #[.string v, .int .i64 0] := by
      show Value.tuple #[S v.data.toList, .int .i64 0] = _
      rw [S_self]
    rw [e] at h
    exact h
  have h1' : ∀ w : World, Calls Try.prog 16 #[.int .i64 (k : Int), .string v] w fun e w' => e = .returned (.string H) ∧ Below w.heap.size w w' := by
    intro w; rw [← hH]; exact h1 w
  have h2' : ∀ w : World, Calls Try.prog 17 #[.int .i64 (k : Int), .string v] w fun e w' => e = .returned (.string Y) ∧ Below w.heap.size w w' := by
    intro w; rw [← hY]; exact h2 w
  have hg : H.size + Y.size ≤ 9223372036854775807 := by omega
  have H1 := Lib.hid h1'
  have H2 := Lib.hid h2'
  have H3 := Lib.hid h3
  have Hf := Lib.hid hf
  have hk8 : IntKind.i64.wrap (k : Int) = (k : Int) := IntWalk.i64_in _ (by omega)
  clear h1 h1' h2 h2' h3 hop hhl hwl hH hY hdl hf hk hlen
  go_enter Try.func6, Try.ntmps6
  go_wp2_with fail
  refine (Hf.out _).mono ?_
  rintro e w0 ⟨rfl, rfl⟩
  go_wp2_with fail
  refine (H1.out _).mono ?_
  rintro e w1 ⟨rfl, hb1⟩
  go_wp2_with fail
  refine (H2.out _).mono ?_
  rintro e w2 ⟨rfl, hb2⟩
  go_wp2_with fail
  refine (H3.out _).mono ?_
  rintro e w3 ⟨rfl, hb3⟩
  go_wp2_with fail
  refine (awake8_any _).mono ?_
  rintro e w4 ⟨rfl, hb4⟩
  go_wp2_with fail
  go_ret
  have h2 := hb1.trans (hb2.mono hb1.size)
  have h3 := h2.trans (hb3.mono h2.size)
  exact ⟨rfl, h3.trans (hb4.mono h3.size)⟩
theorem Own8.set_ {w : World} {base g cap n : Nat} {bs : List UInt8} (h : Own8 w base (.slice (some ⟨g, 0, none⟩) n cap) bs) (q : Nat) (x : UInt8) (hq : q < bs.length) : Own8 (w.setCell ⟨g, q, none⟩ (.int .u8 (x.toNat : Int))) base (.slice (some ⟨g, 0, none⟩) n cap) (bs.set q x) ∧ w.frozen? ⟨g, q, none⟩ = false := by
  obtain ⟨g', cap', e, hg, hgs, hn, hm, hw, hc⟩ := h
  injection e with e1 e2 e3
  injection e1 with e1
  injection e1 with e1
  subst e1 e2 e3
  have hcell : ∀ i, i < cap → (w.setCell ⟨g, q, none⟩ (.int .u8 (x.toNat : Int))).cell? ⟨g, i, none⟩ = if i = q then some (.int .u8 (x.toNat : Int)) else w.cell? ⟨g, i, none⟩ := by
    intro i hi
    by_cases e : i = q
    · subst e
      rw [if_pos rfl]
      have hs := (hw i hi).1
      exact World.cell?_setCell_same' _ _ _ hs
    · rw [if_neg e]
      exact World.cell?_setCell_other _ _ _ _ (fun h => by cases h; exact e rfl)
  refine ⟨⟨g, cap, by rw [List.length_set], hg, by simpa [World.setCell] using hgs, by rw [List.length_set]; exact hn, hm, fun i hi => ⟨?_, ?_⟩, fun i hi => ?_⟩, (hw q (by omega)).2⟩
  · rw [hcell i hi]
    split
    · rfl
    · exact (hw i hi).1
  · rw [World.frozen?_setCell]; exact (hw i hi).2
  · rw [List.length_set] at hi
    rw [hcell i (by omega)]
    by_cases e : i = q
    · subst e
      rw [if_pos rfl, List.getElem_set_self]
    · rw [if_neg e, List.getElem_set_ne (fun h => e h.symm)]
      exact hc i hi
theorem xor8 {a b : Nat} (ha : a < 256) (hb : b < 256) : bits .xor .u8 (a : Int) (b : Int) = ((a ^^^ b : Nat) : Int) := by
  have h1 : ∀ c : Nat, c < 256 → (BitVec.ofInt 8 (c : Int)).toNat = c := fun c hc => by
    simp only [BitVec.ofInt_natCast, BitVec.toNat_ofNat]
    exact Nat.mod_eq_of_lt (by omega)
  have h2 : a ^^^ b < 256 := Nat.xor_lt_two_pow (n := 8) ha hb
  show IntKind.u8.wrap ((BitVec.ofInt 8 (a : Int) ^^^ BitVec.ofInt 8 (b : Int)).toNat : Int) = _
  rw [BitVec.toNat_xor, h1 a ha, h1 b hb, IntKind.wrap_u8]
  omega
set_option maxHeartbeats 800000 in
theorem crateSpoilt_any (s : ByteArray) (at_ : Int) (y : Nat) (w : World) (hs : s.size ≤ 140737488351232) (hy : y < 256) (ha0 : -9223372036854775808 ≤ at_) (ha1 : at_ ≤ 9223372036854775807) :
    Calls Try.prog 7 #[.string s, .int .i64 at_, .int .u8 (y : Int)] w fun e w' => e = .returned (.bool true) ∧ Below w.heap.size w w' := by
  have hc := cutB_size s 2000
  have hf := fun w : World => few8_any s 2000 w hs (by omega)
  have e4 : ((2000 : Nat) : Int) = 2000 := rfl
  simp only [e4] at hf
  generalize cutB s 2000 = v at *
  have hlen : v.data.toList.length = v.size := rfl
  have h1 := fun w : World => head_any 0 v w (by omega) (by omega)
  have e0 : ((0 : Nat) : Int) = 0 := rfl
  simp only [e0] at h1
  have hhl : (Cr.head 0 v.data.toList).length ≤ 14 := by
    have := Oct.num_length_le v.data.toList.length
    unfold Cr.head
    simp only [List.length_append, List.length_cons, Cr.four_len]
    omega
  have hsp := fun (A C : List UInt8) (b b' : UInt8) (hA : 1 ≤ A.length) (h : Cr.head 0 v.data.toList ++ v.data.toList = A ++ b :: C) (hb : b ≠ b') => Cr.spoilt (most := 32768) (by rw [hlen]; omega) hA h hb
  generalize Cr.head 0 v.data.toList = hd at *
  obtain ⟨H, hH⟩ : ∃ H : ByteArray, (⟨hd.toArray⟩ : ByteArray) = H := ⟨_, rfl⟩
  have hHz : H.size ≤ 14 := by rw [← hH]; exact hhl
  have hHl : H.data.toList = hd := by rw [← hH]
  obtain ⟨L, hL⟩ : ∃ L, H ++ v = L := ⟨_, rfl⟩
  have hLl : L.data.toList = hd ++ v.data.toList := by rw [← hL, ← hHl]; simp
  have hLz : L.size = H.size + v.size := by rw [← hL, ByteArray.size_append]
  have h1' : ∀ w : World, Calls Try.prog 16 #[.int .i64 0, .string v] w fun e w' => e = .returned (.string H) ∧ Below w.heap.size w w' := by
    intro w; rw [← hH]; exact h1 w
  rw [← hLl] at hsp
  have hg : H.size + v.size ≤ 9223372036854775807 := by omega
  have hLs : L.size ≤ 3000 := by omega
  have H1 := Lib.hid h1'
  have Hf := Lib.hid hf
  have Hsp := Lib.hid hsp
  have HL := Lib.hid hL
  have hcv := fun W : World => Lib.run_convert_string_bytes (P := Try.prog) W 9 34 5 L Try.underlying9 Try.underlying34 Try.underlying5
  clear h1 h1' hhl hH hHl hf hlen hsp hLz hLl
  go_enter Try.func7, Try.ntmps7
  go_wp2_with fail
  refine (Hf.out _).mono ?_
  rintro e w0 ⟨rfl, rfl⟩
  go_wp2_with fail
  refine (H1.out _).mono ?_
  rintro e w1 ⟨rfl, hb1⟩
  have Hb1 := Lib.hid hb1
  clear hb1
  go_wp2_with fail
  have hown := Own8.of_string w1 5 L (by unfold maxLen; omega)
  have hbel := Hb1.out.trans ((below_bytes w1 5 L).mono Hb1.out.size)
  have hlt : w1.heap.size < (Lib.bytesWorld w1 5 L).heap.size := by rw [Lib.bytesWorld_size]; omega
  have hge := grownCap_ge w1 L.size 0 5
  generalize Lib.bytesWorld w1 5 L = W at *
  generalize grownCap w1 L.size 0 5 = cp at *
  have hBw := Hb1.out.size
  generalize w1.heap.size = B at *
  have Hown := Lib.hid hown
  have Hbel := Lib.hid hbel
  clear hown hbel hcv hL
  refine (awake8_any _).mono ?_
  rintro e w2 ⟨rfl, hb2⟩
  have Hown2 := Lib.hid (Hown.out.below hb2)
  have Hbel2 := Lib.hid (Hbel.out.trans (hb2.mono Hbel.out.size))
  clear hb2
  rcases Int.lt_or_le at_ 1 with ht | ht
  · have d1 : decide (at_ < 1) = true := by simpa using ht
    go_wp2_with fail
    refine (awake8_any _).mono ?_
    rintro e w3 ⟨rfl, hb3⟩
    go_wp2_with fail
    go_ret
    exact ⟨rfl, Hbel2.out.trans (hb3.mono Hbel2.out.size)⟩
  have d1 : decide (at_ < 1) = false := by simp only [decide_eq_false_iff_not]; omega
  rcases Int.lt_or_le at_ L.size with ht2 | ht2
  · have d2 : decide ((L.size : Int) ≤ at_) = false := by simp only [decide_eq_false_iff_not]; omega
    obtain ⟨q, rfl⟩ : ∃ q : Nat, at_ = (q : Int) := ⟨at_.toNat, by omega⟩
    have hq1 : 1 ≤ q := by omega
    have hqL : q < L.data.toList.length := by show q < L.size; omega
    have hcell := Hown2.out.at_ q hqL
    obtain ⟨b, hb⟩ : ∃ b, L.data.toList[q] = b := ⟨_, rfl⟩
    rw [hb] at hcell
    obtain ⟨z, hz⟩ : ∃ z, y % 8 = z := ⟨_, rfl⟩
    have ez : (y : Int) % 8 = (z : Int) := by omega
    have hz8 : z < 8 := by omega
    obtain ⟨sh, hsh⟩ : ∃ sh, 2 ^ z = sh := ⟨_, rfl⟩
    have hsh1 : sh < 256 ∧ 0 < sh := by
      subst hsh
      refine ⟨?_, Nat.two_pow_pos z⟩
      have : z = 0 ∨ z = 1 ∨ z = 2 ∨ z = 3 ∨ z = 4 ∨ z = 5 ∨ z = 6 ∨ z = 7 := by omega
      rcases this with rfl | rfl | rfl | rfl | rfl | rfl | rfl | rfl <;> decide
    have hb8 := b.toNat_lt
    have hxor := xor8 (a := b.toNat) (b := sh) (by omega) hsh1.1
    have hx256 : b.toNat ^^^ sh < 256 := Nat.xor_lt_two_pow (n := 8) (by omega) hsh1.1
    obtain ⟨x8, hx8⟩ : ∃ x8, UInt8.ofNat (b.toNat ^^^ sh) = x8 := ⟨_, rfl⟩
    have hx8n : x8.toNat = b.toNat ^^^ sh := by rw [← hx8, UInt8.toNat_ofNat', Nat.mod_eq_of_lt (by omega)]
    have hbx : b ≠ x8 := by
      intro e
      have h := congrArg UInt8.toNat e
      rw [hx8n] at h
      have h2 := congrArg (fun t => b.toNat ^^^ t) h
      simp only [Nat.xor_self, ← Nat.xor_assoc, Nat.zero_xor] at h2
      omega
    rw [← hx8n] at hxor
    have epw : (2 : Int) ^ z % 256 = (sh : Int) := by
      have : ((2 ^ z : Nat) : Int) = (sh : Int) := by rw [hsh]
      have h2 : (2 : Int) ^ z = (sh : Int) := by rw [← this]; simp
      rw [h2]; omega
    obtain ⟨hset, hfr⟩ := Hown2.out.set_ q x8 hqL
    have hqL' : (q : Int) < (L.size : Int) := by omega
    have d2' : decide (L.size ≤ q) = false := by simp only [decide_eq_false_iff_not]; omega
    have htx := hset.from_ (P := Try.prog) (k := 0) (by rw [List.length_set]; rfl) (Nat.zero_le _) cp 34 5 Try.underlying34 Try.underlying5 9 Try.underlying9
    rw [Nat.sub_zero, List.drop_zero] at htx
    obtain ⟨M, hM⟩ : ∃ M : ByteArray, (⟨(L.data.toList.set q x8).toArray⟩ : ByteArray) = M := ⟨_, rfl⟩
    have hMl : M.data.toList = L.data.toList.set q x8 := by rw [← hM]
    have hMz : M.size ≤ 3000 := by rw [← hM]; show (L.data.toList.set q x8).length ≤ _; rw [List.length_set]; exact hLs
    have htx2 : (convert 34 9 (.slice (some ⟨B, 0, none⟩) L.size cp)).run Try.prog (w2.setCell ⟨B, q, none⟩ (.int .u8 (x8.toNat : Int))) = .ok (.string M) (w2.setCell ⟨B, q, none⟩ (.int .u8 (x8.toNat : Int))) := by
      rw [← hM]; exact htx
    have hne := Hsp.out (L.data.toList.take q) (L.data.toList.drop (q + 1)) b x8 (by rw [List.length_take]; omega) (by rw [← hb, List.getElem_cons_drop, List.take_append_drop]) hbx
    have hset2 : L.data.toList.take q ++ x8 :: L.data.toList.drop (q + 1) = L.data.toList.set q x8 := by rw [List.set_eq_take_append_cons_drop, if_pos hqL]
    rw [hset2, ← hMl] at hne
    have her := Cr.opened_err M.data.toList 32768
    have hop := fun w : World => crOpen_any M 32768 w (by omega)
    obtain ⟨⟨ol, oe⟩, hX⟩ : ∃ X, Cr.opened M.data.toList 32768 = X := ⟨_, rfl⟩
    rw [hX] at hne her
    simp only [hX] at hop
    have hne2 : oe ≠ 0 := hne
    have hol : ol = [] := by rcases her with h | h; exact absurd h hne2; exact h
    subst hol
    have Hop := Lib.hid hop
    have hbe := Hbel2.out.setCell hBw (.int .u8 (x8.toNat : Int)) (p := ⟨B, q, none⟩)
    have Hbe := Lib.hid hbe
    have Hhz := Lib.hid (And.intro hz hsh)
    clear hop hne her hX hset2 hMl hM htx hset hbe hx8 hx8n hbx hb hz hsh
    have hz1 : (oe == 0) = false := by simpa using hne2
    go_wp2_with fail
    refine (Hop.out _).mono ?_
    rintro e w3 ⟨rfl, hb3⟩
    show _
    rw [show pairV ([], oe) = .tuple #[.string ⟨#[]⟩, .int .i64 oe] from rfl]
    go_wp2_with fail
    go_ret
    exact ⟨by show Ending.returned (.bool (oe != 0)) = _; rw [show (oe != 0) = true by simpa using hne2], Hbe.out.trans (hb3.mono Hbe.out.size)⟩
  · have d2 : decide ((L.size : Int) ≤ at_) = true := by simp only [decide_eq_true_eq]; omega
    go_wp2_with fail
    refine (awake8_any _).mono ?_
    rintro e w3 ⟨rfl, hb3⟩
    go_wp2_with fail
    go_ret
    exact ⟨rfl, Hbel2.out.trans (hb3.mono Hbel2.out.size)⟩
theorem crateWays_int (s : ByteArray) (n : Int) (w : World) (hs : s.size ≤ 140737488351232) (h0 : 0 ≤ n) (h1 : n ≤ 255) :
    Calls Try.prog 6 #[.string s, .int .u8 n] w fun e w' => e = .returned (.bool true) ∧ Below w.heap.size w w' := by
  obtain ⟨y, rfl⟩ : ∃ y : Nat, n = (y : Int) := ⟨n.toNat, by omega⟩
  exact crateWays_any s y w hs (by omega)
theorem crateSpoilt_int (s : ByteArray) (at_ n : Int) (w : World) (hs : s.size ≤ 140737488351232) (h0 : 0 ≤ n) (h1 : n ≤ 255) (ha0 : -9223372036854775808 ≤ at_) (ha1 : at_ ≤ 9223372036854775807) :
    Calls Try.prog 7 #[.string s, .int .i64 at_, .int .u8 n] w fun e w' => e = .returned (.bool true) ∧ Below w.heap.size w w' := by
  obtain ⟨y, rfl⟩ : ∃ y : Nat, n = (y : Int) := ⟨n.toNat, by omega⟩
  exact crateSpoilt_any s at_ y w hs (by omega) ha0 ha1
end Go.Proofs.Ytmcdanodacbpbaa
