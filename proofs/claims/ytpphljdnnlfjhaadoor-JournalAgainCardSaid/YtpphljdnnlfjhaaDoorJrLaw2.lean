/- JournalAgain: the walk. -/
import Derived.Test.YtpphljdnnlfjhaaDoorJrLaw1
import Derived.Test.YtpphljdnnlfjhaaDoorJrInts
namespace Go.Proofs.YtpphljdnnlfjhaaDoor
open Go.RowKit
set_option maxRecDepth 100000
set_option linter.unusedVariables false
set_option linter.unusedSimpArgs false

theorem Jr.crash_synced (b : List UInt8) (ks : List Int) : Fl.crashL (Jr.St (some (b, (b.length : Int))) none) ks = Jr.St (some (b, (b.length : Int))) none := by
  obtain ⟨k1, k2, h⟩ := Jr.crash_St (some (b, (b.length : Int))) none ks
  rw [h]
  have e : ∀ k : Int, Jr.cut (b, (b.length : Int)) k = (b, (b.length : Int)) := by
    intro k
    have hm : min (max k 0) ((b.length : Int) - (b.length : Int)) = 0 := by omega
    unfold Jr.cut
    simp only [hm]
    simp
  simp only [Option.map_some, Option.map_none, e]
theorem LstA.lst {w : World} {base : Nat} {S0 : Nat → Prop} {q : Nat} {v : Value} {L : List (List UInt8)} (h : LstA w base S0 q v L) : Lst w base v L := by
  obtain ⟨A, c, hv, hr⟩ := h
  refine ⟨A, c, hv, fun hne => ?_⟩
  obtain ⟨b, h1, h2, h3, _, _, h4⟩ := hr hne
  exact ⟨b, h1, h2, h3, h4⟩
theorem LstA.plus {w w' : World} {base : Nat} {S0 S1 : Nat → Prop} {q : Nat} {v : Value} {L : List (List UInt8)} (h : LstA w base S0 q v L) (hc : Chg S0 w w') (h1 : ∀ k, S1 k → S0 k ∨ w.heap.size ≤ k) : LstA w' base S1 q v L :=
  h.kept h1 (hc.mono (fun k hk => .inl hk))
set_option maxHeartbeats 1600000 in
theorem journalAgain_any (s : ByteArray) (kv : Value) (ks : List Int) (w : World) (hs : s.size ≤ 140737488351232) (hk : KeepV w kv ks) :
    Calls Tryd.prog 5 #[.string s, kv] w fun e w' => e = .returned (.bool true) ∧ Below w.heap.size w w' := by
  have hsl : s.data.toList.length = s.size := rfl
  have hSb : Sb s.data.toList = .string s := by obtain ⟨⟨l⟩⟩ := s; rfl
  have kA := fun {w0 w : World} {S0 : Nat → Prop} {g : Nat} (h : DiskS w w0.heap.size S0 g (Jr.St none none) (-1)) => append_S Jr.nj s.data.toList h (by decide) (by omega)
  have hSj : Sb Jr.nj = .string ⟨#[106]⟩ := rfl
  simp only [hSb, hSj] at kA
  have hA := Jr.append_j (o := none) (x := none) (r := -1) (s := s.data.toList) (by omega)
  have KA := fun {w0 w : World} {S0 : Nat → Prop} {g : Nat} (h : DiskS w w0.heap.size S0 g (Jr.St none none) (-1)) => Lib.hid (kA h)
  have Hk := Lib.hid hk
  clear kA hk hSb hSj
  by_cases hbig : 1048576 < s.size
  · rw [if_pos (by show 1048576 < 0 + s.data.toList.length; omega)] at hA
    simp only [hA] at KA
    have d1 : decide ((1048576 : Int) < (s.size : Int)) = true := by simp only [decide_eq_true_eq]; omega
    have d1' : decide (1048576 < s.size) = true := by simp only [decide_eq_true_eq]; omega
    clear hA hsl
    go_enter Tryd.func5, Tryd.ntmps5
    go_wp2_with fail
    refine (new9 w w.heap.size (Nat.le_refl _)).mono ?_
    rintro _ w1 ⟨rfl, hd1, hb1, hs1⟩
    obtain ⟨g, hg⟩ : ∃ g, g = w.heap.size + 1 := ⟨_, rfl⟩
    rw [← hg] at hd1 ⊢
    have hS1 : ∀ k, Plus (fun _ => False) w w1 k → w.heap.size ≤ k := fun k hk => by
      rcases hk with h | h
      · exact absurd h id
      · exact h.1
    generalize Plus (fun _ => False) w w1 = S1 at *
    have Hd1 := Lib.hid hd1
    have Hb1 := Lib.hid hb1
    have HS1 := Lib.hid hS1
    clear hd1 hb1 hs1 hg hS1
    go_wp2_with fail
    refine (awake10 _).mono ?_
    rintro _ w2 ⟨rfl, hb2⟩
    have Hd2 := Lib.hid (Hd1.out.below hb2)
    have Hb2 := Lib.hid (Hb1.out.trans (hb2.mono Hb1.out.size))
    clear hb2
    go_wp2_with fail
    refine (KA Hd2.out).out.mono ?_
    rintro _ w3 ⟨rfl, hd3, hc3⟩
    have hS3 : ∀ k, Plus S1 w2 w3 k → w.heap.size ≤ k := fun k hk => by
      rcases hk with h | h
      · exact HS1.out k h
      · have := Hb2.out.size; omega
    have Hb3 := Lib.hid (chg_below hc3 HS1.out Hb2.out)
    have Hd3 := Lib.hid hd3
    have HS3 := Lib.hid hS3
    clear hd3 hc3 hS3
    go_wp2_with fail
    refine (awake10 _).mono ?_
    rintro _ w4 ⟨rfl, hb4⟩
    have Hb4 := Lib.hid (Hb3.out.trans (hb4.mono Hb3.out.size))
    clear hb4
    go_wp2_with fail
    go_ret
    exact ⟨rfl, Hb4.out⟩
  · rw [if_neg (by show ¬ 1048576 < 0 + s.data.toList.length; omega)] at hA
    have hA' : appendR (Jr.St none none) (-1) Jr.nj s.data.toList = (Jr.St (some (s.data.toList, 0)) none, -1, 0) := hA
    simp only [hA'] at KA
    have hps := Jr.parse_is s.data.toList
    have hmany := parse_many s.data.toList
    obtain ⟨⟨L, n⟩, hp⟩ : ∃ x, Jr.parse s.data.toList = x := ⟨_, rfl⟩
    rw [hp] at hps hmany
    have hL : L.length ≤ 9223372036854775807 := by
      have : L.length ≤ s.data.toList.length := hmany
      omega
    obtain ⟨ht, hn, hr4⟩ := hps
    have hbl : (Jr.lays 0 L).length ≤ 1048576 := by
      have e : (Jr.lays 0 L).length = n := by rw [← ht, List.length_take]; simp only at hn; omega
      simp only at hn
      omega
    have hpa := Jr.parse_all L hr4
    have hp1 : (Jr.parse (Jr.by_ (some (s.data.toList, (0 : Int))))).1 = L := by show (Jr.parse s.data.toList).1 = L; rw [hp]
    have hp2 : (Jr.parse (Jr.by_ (some (Jr.lays 0 L, ((Jr.lays 0 L).length : Int))))).1 = L := by show (Jr.parse (Jr.lays 0 L)).1 = L; rw [hpa]
    obtain ⟨TB, hTB⟩ : ∃ b : ByteArray, (⟨(Jr.lays 0 L).toArray⟩ : ByteArray) = b := ⟨_, rfl⟩
    have hTl : TB.data.toList = Jr.lays 0 L := by rw [← hTB]
    have hTs : Sb (Jr.lays 0 L) = .string TB := by rw [← hTB]
    have hTz : TB.size = (Jr.lays 0 L).length := by rw [← hTB]; rfl
    have kP := fun w : World => jrParse_any TB w (by omega)
    rw [hTl, hpa] at kP
    have KP := fun w : World => Lib.hid (kP w)
    have Hp1 := Lib.hid hp1
    have Hp2 := Lib.hid hp2
    have Hbl := Lib.hid hbl
    have HTs := Lib.hid hTs
    have HTz := Lib.hid hTz
    have Hs1 : Hid ((Jr.by_ (some (s.data.toList, (0 : Int)))).length ≤ 1048576) := Lib.hid (by show s.data.toList.length ≤ _; omega)
    clear hA hA' hsl hp hpa hp1 hp2 hTB hTl hTs hTz kP hbl ht hn hr4 hmany
    go_enter Tryd.func5, Tryd.ntmps5
    go_wp2_with fail
    refine (new9 w w.heap.size (Nat.le_refl _)).mono ?_
    rintro _ w1 ⟨rfl, hd1, hb1, hs1⟩
    obtain ⟨g, hg⟩ : ∃ g, g = w.heap.size + 1 := ⟨_, rfl⟩
    rw [← hg] at hd1 ⊢
    have hS1 : ∀ k, Plus (fun _ => False) w w1 k → w.heap.size ≤ k := fun k hk => by
      rcases hk with h | h
      · exact absurd h id
      · exact h.1
    generalize Plus (fun _ => False) w w1 = S1 at *
    have Hd1 := Lib.hid hd1
    have Hb1 := Lib.hid hb1
    have HS1 := Lib.hid hS1
    clear hd1 hb1 hs1 hg hS1
    go_wp2_with fail
    refine (awake10 _).mono ?_
    rintro _ w2 ⟨rfl, hb2⟩
    have Hd2 := Lib.hid (Hd1.out.below hb2)
    have Hb2 := Lib.hid (Hb1.out.trans (hb2.mono Hb1.out.size))
    clear hb2
    go_wp2_with fail
    refine (KA Hd2.out).out.mono ?_
    rintro _ w3 ⟨rfl, hd3, hc3⟩
    have hS3 : ∀ k, Plus S1 w2 w3 k → w.heap.size ≤ k := fun k hk => by
      rcases hk with h | h
      · exact HS1.out k h
      · have := Hb2.out.size; omega
    have Hb3 := Lib.hid (chg_below hc3 HS1.out Hb2.out)
    have Hd3 := Lib.hid hd3
    have HS3 := Lib.hid hS3
    clear hd3 hc3 hS3
    go_wp2_with fail
    refine (jopen_up Hd3.out Hs1.out).mono ?_
    rintro _ w4 ⟨q, v1, S4, rfl, hJ4, hq4, hq4', hP4, hC4, hl4⟩
    rw [Hp1.out] at hJ4 hl4
    have hS4 : ∀ k, S4 k → w.heap.size ≤ k := fun k hk => by
      rcases hP4 k hk with h | h
      · exact HS3.out k h
      · have := Hb3.out.size; omega
    have hb4 := chg_below hC4 HS3.out Hb3.out
    have HC := Lib.hid (crash_S kv ks hJ4.disk (Hk.out.below hb4) (Hk.out.apart hS4))
    have HJ4 := Lib.hid hJ4
    have HS4 := Lib.hid hS4
    have Hb4 := Lib.hid hb4
    have Hl4 := Lib.hid hl4
    clear hJ4 hq4 hP4 hC4 hl4 hS4 hb4
    go_wp2_with fail
    refine HC.out.mono ?_
    rintro _ w5 ⟨rfl, hd5, hc5⟩
    simp only [Option.map_some] at hd5
    rw [Jr.crash_synced] at hd5
    have hS5 : ∀ k, Plus S4 w4 w5 k → w.heap.size ≤ k := fun k hk => by
      rcases hk with h | h
      · exact HS4.out k h
      · have := Hb4.out.size; omega
    have hl5 : LstA w5 w3.heap.size (Plus S4 w4 w5) q v1 L := Hl4.out.plus hc5 (fun k hk => by
      rcases hk with h | h
      · exact .inl h
      · exact .inr h.1)
    have Hd5 := Lib.hid hd5
    have HS5 := Lib.hid hS5
    have Hb5 := Lib.hid (chg_below hc5 HS4.out Hb4.out)
    have Hl5 := Lib.hid hl5
    clear hd5 hc5 hS5 hl5
    go_wp2_with fail
    refine (jopen_up Hd5.out Hbl.out).mono ?_
    rintro _ w6 ⟨q2, v2, S6, rfl, hJ6, hq6, hq6', hP6, hC6, hl6⟩
    rw [Hp2.out] at hJ6 hl6
    have hla6 : LstA w6 w3.heap.size S6 q v1 L := Hl5.out.plus hC6 hP6
    have HJ6 := Lib.hid hJ6
    have Hb6 := Lib.hid (chg_below hC6 HS5.out Hb5.out)
    have Hl61 := Lib.hid hla6.lst
    have Hl62 := Lib.hid hl6.lst
    clear hJ6 hq6 hP6 hC6 hl6 hla6
    go_wp2_with fail
    refine (read_S Jr.nj HJ6.out.disk (by decide)).mono ?_
    rintro _ w7 ⟨rfl, hb7⟩
    rw [Jr.bytes_j _ _ (by omega), Jr.code_j _ _ (by omega)]
    simp only [Option.map_some, Jr.by_, HTs.out]
    have Hl71 := Lib.hid (Hl61.out.below hb7)
    have Hl72 := Lib.hid (Hl62.out.below hb7)
    have Hb7 := Lib.hid (Hb6.out.trans (hb7.mono Hb6.out.size))
    clear hb7
    go_wp2_with fail
    refine (KP _).out.mono ?_
    rintro _ w8 ⟨⟨v3, rfl, hl8⟩, hb8⟩
    have Hl81 := Lib.hid (Hl71.out.below hb8)
    have Hl82 := Lib.hid (Hl72.out.below hb8)
    have Hl83 := Lib.hid hl8
    have Hb8 := Lib.hid (Hb7.out.trans (hb8.mono Hb7.out.size))
    clear hb8 hl8
    go_wp2_with fail
    refine (same_lists Hl81.out Hl82.out hL hL).mono ?_
    rintro _ w9 ⟨rfl, m, rfl⟩
    rw [show decide (L = L) = true by simp]
    have hbm : Below w8.heap.size w8 (w8.drewN m) := bel_drewN (Below.refl _ _) m
    have Hl91 := Lib.hid (Hl81.out.below hbm)
    have Hl93 := Lib.hid (Hl83.out.below hbm)
    have Hb9 := Lib.hid (bel_drewN Hb8.out m)
    clear hbm
    go_wp2_with fail
    refine (same_lists Hl91.out Hl93.out hL hL).mono ?_
    rintro _ w10 ⟨rfl, m2, rfl⟩
    rw [show decide (L = L) = true by simp]
    have Hb10 := Lib.hid (bel_drewN Hb8.out (m + m2))
    have hz : (((Jr.lays 0 L).length : Int) == (TB.size : Int)) = true := by rw [HTz.out]; simp
    go_wp2_with fail
    go_ret
    exact ⟨by simp [HTz.out], Hb10.out⟩
end Go.Proofs.YtpphljdnnlfjhaaDoor
