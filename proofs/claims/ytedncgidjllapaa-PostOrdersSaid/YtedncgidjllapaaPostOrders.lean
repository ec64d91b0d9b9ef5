/- Layer 22's law PostOrders: what it returns. -/
import Derived.Test.YtedncgidjllapaaPostOpen
namespace Go.Proofs.Ytedncgidjllapaa
open Go.RowKit Go.Maps
set_option linter.unusedVariables false
set_option linter.unusedSimpArgs false

/-- what a look tells lies where it may -/
theorem look_in (f : Post.Out) (p win h landed cuts : Int) (i : Nat) (hi : i < (Post.look f p win h landed cuts).1.length) :
    0 ≤ landed ∧ landed ≤ (Post.look f p win h landed cuts).1.getD i 0 ∧ (Post.look f p win h landed cuts).1.getD i 0 < landed + win ∧ (Post.look f p win h landed cuts).1.getD i 0 < cuts ∧
      (0 < i → (Post.look f p win h landed cuts).1.getD (i - 1) 0 < (Post.look f p win h landed cuts).1.getD i 0) := by
  unfold Post.look at hi ⊢
  by_cases hb : Post.bad h landed cuts = true
  · rw [if_pos hb] at hi; simp at hi
  · rw [if_neg hb] at hi ⊢
    unfold Post.bad at hb
    simp at hb
    have h1 := Post.list_in (Post.trim f landed) p h landed (Post.many win landed cuts) i hi
    have h2 := Post.list_len (Post.trim f landed) p h landed (Post.many win landed cuts)
    have hm : ((Post.many win landed cuts : Nat) : Int) ≤ win ∧ ((Post.many win landed cuts : Nat) : Int) ≤ cuts - landed := by
      have hpos : 0 < Post.many win landed cuts := by
        have : i < Post.many win landed cuts := Nat.lt_of_lt_of_le hi h2
        omega
      unfold Post.many at hpos ⊢
      omega
    exact ⟨by omega, h1.1, Int.lt_of_lt_of_le h1.2.1 (by omega), Int.lt_of_lt_of_le h1.2.1 (by omega), h1.2.2⟩

set_option maxRecDepth 20000 in
set_option maxHeartbeats 1600000 in
theorem postOrders_any (wi : Int) (v : Value) (l : List Seen) (w : World) (hp0 : 0 ≤ wi) (hp1 : wi ≤ 255) (hl : SeenV w v l) (hlen : l.length ≤ 9223372036854775807) :
    Calls Try.prog 3 #[.int .u8 wi, v] w fun e w' => e = .returned (.bool true) ∧ Below w.heap.size w w' := by
  obtain ⟨A, c, rfl, hL⟩ := hl
  have HL := Lib.hid hL
  clear hL
  obtain ⟨n, hn⟩ : ∃ n : Nat, wi % 64 + 1 = (n : Int) := ⟨(wi % 64 + 1).toNat, by omega⟩
  have hn1 : 1 ≤ n := by omega
  have hn64 : n ≤ 64 := by omega
  have Hn := Lib.hid hn
  clear hn
  go_enter Try.func3, Try.ntmps3
  go_wp2_with fail
  rw [Hn.out]
  refine (postNew_ok 2 (n : Int) _ (by omega) (by omega) (by omega) (by omega)).mono ?_
  rintro _ w1 ⟨rfl, hP1, hg1⟩
  have hb1 := Post_below0 (Below.refl w.heap.size w) hg1 (Nat.le_refl _)
  have HP1 := Lib.hid hP1
  have Hb1 := Lib.hid hb1
  clear hP1 hg1 hb1
  go_wp2_with fail
  refine (awake22_any _).mono ?_
  rintro _ w2 ⟨rfl, hb2⟩
  have hP2 := HP1.out.kept (grownBy_of_below hb2 none) (by simp) (by simp)
  have hb2' := Hb1.out.trans (hb2.mono Hb1.out.size)
  have HP2 := Lib.hid hP2
  have Hb2 := Lib.hid hb2'
  clear hP2 hb2 hb2'
  go_wp2_with fail
  go_loopw [8] (fun i wr => ∃ (k N : Nat) (f : Post.Out), k ≤ l.length ∧ k ≤ 60 ∧ N ≤ 64 * k ∧ i = .int .i64 k ∧ PosterAt wr (w.heap.size + 1) w.heap.size 2 n f N ∧ Below w.heap.size w wr) (fun i _ => 60 - (intOf i).toNat)
  case atStart => exact ⟨0, 0, _, Nat.zero_le _, Nat.zero_le _, Nat.zero_le _, rfl, HP2.out, Hb2.out⟩
  case round =>
    obtain ⟨k, N, f, hk, hk2, hN, rfl, hP, hb⟩ := hrel
    have HP := Lib.hid hP
    have Hb := Lib.hid hb
    clear hP hb
    by_cases hlt : k < l.length ∧ k < 60
    · obtain ⟨hlt, hlt2⟩ := hlt
      have hki : (k : Int) < (l.length : Int) := by omega
      have hki2 : (k : Int) < 60 := by omega
      have hne : l ≠ [] := by intro e; rw [e] at hlt; simp at hlt
      obtain ⟨b, off, rfl, hblt, hc⟩ := HL.out hne
      have hcs := hc k hlt
      obtain ⟨y, hy⟩ : ∃ y, y = l[k] := ⟨_, rfl⟩
      rw [← hy] at hcs
      obtain ⟨yh, yl, yc⟩ := y
      obtain ⟨e0, e1, e2, hh1, hl1, hc1⟩ := hcs
      have cs : ∀ W, Below w.heap.size w W → W.cell? ⟨b, off + k * 3, none⟩ = some (.int .i64 yh) ∧ W.cell? ⟨b, off + k * 3 + 1, none⟩ = some (.int .i64 yl) ∧ W.cell? ⟨b, off + k * 3 + 2, none⟩ = some (.int .i64 yc) := fun W hW =>
        ⟨(hW.cell (p := ⟨b, _, none⟩) hblt).trans e0, (hW.cell (p := ⟨b, _, none⟩) hblt).trans e1, (hW.cell (p := ⟨b, _, none⟩) hblt).trans e2⟩
      have Cs := Lib.hid cs
      have hh1 : yh ≤ 9223372036854775807 := hh1
      have hl1 : yl ≤ 9223372036854775807 := hl1
      have hc1 : yc ≤ 9223372036854775807 := hc1
      clear hc hne hy cs e0 e1 e2
      go_wp2_with fail
      refine region_named 16 (by kernel_rfl) (by kernel_rfl) ?_
      intro w3 hw3
      have hP3 : PosterAt w3 (w.heap.size + 1) w.heap.size 2 n f N := by rw [hw3]; exact HP.out.kept (grownBy_drew _ none) (by simp) (by simp)
      have hb3 : Below w.heap.size w w3 := by rw [hw3]; exact Hb.out.drew
      obtain ⟨d0, d1, d2⟩ := Cs.out _ hb3
      have HP3 := Lib.hid hP3
      have Hb3 := Lib.hid hb3
      clear hw3 hP3 hb3
      simp only [List.take_succ_cons, List.take_zero, List.drop_succ_cons, List.drop_zero]
      repeat still_step
      refine wpStill_nil ?_
      have hin := look_in f 2 (n : Int) yh yl yc
      have Hin := Lib.hid hin
      clear hin
      go_wp2_with fail
      refine (postLook_any yh yl yc _ _ _ N _ _ f HP3.out (by omega) (by omega) (by omega) hh1 hl1 hc1).mono ?_
      rintro _ w4 ⟨v4, rfl, hl4, hP4, hg4⟩
      have hb4 := Post_below Hb3.out hg4 (Nat.le_refl _) Hb3.out.size
      obtain ⟨L, hL⟩ : ∃ L, L = (Post.look f 2 (n : Int) yh yl yc) := ⟨_, rfl⟩
      rw [← hL] at hl4 hP4 Hin
      obtain ⟨A4, c4, rfl, hA4⟩ := own_nums hl4
      have hLlen : L.1.length ≤ 64 := by
        rw [hL]
        unfold Post.look
        split
        · simp
        · refine Nat.le_trans (Post.list_len _ _ _ _ _) ?_
          unfold Post.many; omega
      have HP4 := Lib.hid hP4
      have Hb4 := Lib.hid hb4
      have HA4 := Lib.hid hA4
      clear hl4 hP4 hg4 hb4 hA4 hL d0 d1 d2
      go_wp2_with fail
      generalize w4 = wo at *
      go_loopw [10] (fun i wr => ∃ q m : Nat, q ≤ L.1.length ∧ i = .int .i64 q ∧ wr = wo.drewN m) (fun i _ => L.1.length - (intOf i).toNat)
      case atStart => exact ⟨0, 0, Nat.zero_le _, rfl, rfl⟩
      case round =>
        obtain ⟨q, m, hq, rfl, hw⟩ := hrel
        have hPr : PosterAt wr (w.heap.size + 1) w.heap.size 2 n L.2 (N + 64) := by rw [hw]; exact HP4.out.kept (grownBy_drewN _ _ none) (by simp) (by simp)
        have hbr : Below w.heap.size w wr := by rw [hw]; exact below_drewN' Hb4.out _
        have HPr := Lib.hid hPr
        have Hbr := Lib.hid hbr
        clear hPr hbr
        by_cases hqm : q < L.1.length
        · have hqi : (q : Int) < (L.1.length : Int) := by omega
          have hne4 : L.1 ≠ [] := by intro e; rw [e] at hqm; simp at hqm
          obtain ⟨b4, off4, rfl, hb4lt, hc4⟩ := HA4.out hne4
          obtain ⟨l0, i1, i2, i3, i4⟩ := Hin.out q hqm
          have x0 := (show wr.cell? ⟨b4, off4 + q, none⟩ = some (.int .i64 (L.1.getD q 0)) from by rw [hw]; exact hc4 q hqm)
          obtain ⟨d0, d1, d2⟩ := Cs.out _ Hbr.out
          by_cases hq0 : 0 < q
          · have i4 := i4 hq0
            have x1 := (show wr.cell? ⟨b4, off4 + (q - 1), none⟩ = some (.int .i64 (L.1.getD (q - 1) 0)) from by rw [hw]; exact hc4 (q - 1) (by omega))
            generalize L.1.getD q 0 = x at *
            generalize L.1.getD (q - 1) 0 = z at *
            generalize L.1.length = ln at *
            have g1 : decide (x < yl) = false := by simp only [decide_eq_false_iff_not]; omega
            have g2 : decide ((n : Int) ≤ x - yl) = false := by simp only [decide_eq_false_iff_not]; omega
            have g3 : decide (yc ≤ x) = false := by simp only [decide_eq_false_iff_not]; omega
            have g4 : decide ((0 : Int) < (q : Int)) = true := by simp only [decide_eq_true_eq]; omega
            have g4' : decide (0 < q) = true := by simp only [decide_eq_true_eq]; omega
            have g5 : decide (x ≤ z) = false := by simp only [decide_eq_false_iff_not]; omega
            have s1 : IntKind.i64.wrap (x - yl) = x - yl := IntWalk.i64_in _ (by omega)
            have s2 : IntKind.i64.wrap ((q : Int) - 1) = (q : Int) - 1 := IntWalk.i64_in _ (by omega)
            have s3 : 0 ≤ (q : Int) - 1 := by omega
            have s4 : ((q : Int) - 1).toNat = q - 1 := by omega
            have s5 : (q : Int) - 1 < (ln : Int) := by omega
            have S1 := Lib.hid s1
            have S2 := Lib.hid s2
            have S4 := Lib.hid s4
            have Hw := Lib.hid hw
            clear s1 s2 s4 hw hc4 hne4
            go_wp2_with fail
            have s1 := S1.out
            have s2 := S2.out
            have s4 := S4.out
            go_quiet (fail)
            clear s1 s2
            go_wp2_with fail
            refine ⟨⟨q + 1, m + nq, hqm, by go_num, ?_⟩, by simp [intOf]; omega⟩
            rw [Hw.out]; exact World.drewN_drewN _ _ _
          · obtain rfl : q = 0 := by omega
            generalize L.1.getD 0 0 = x at *
            generalize L.1.length = ln at *
            have g1 : decide (x < yl) = false := by simp only [decide_eq_false_iff_not]; omega
            have g2 : decide ((n : Int) ≤ x - yl) = false := by simp only [decide_eq_false_iff_not]; omega
            have g3 : decide (yc ≤ x) = false := by simp only [decide_eq_false_iff_not]; omega
            have s1 : IntKind.i64.wrap (x - yl) = x - yl := IntWalk.i64_in _ (by omega)
            have S1 := Lib.hid s1
            have Hw := Lib.hid hw
            have x0 : wr.cell? ⟨b4, off4, none⟩ = some (.int .i64 x) := x0
            clear s1 hw hc4 hne4 i4
            go_wp2_with fail
            have s1 := S1.out
            go_quiet (fail)
            clear s1
            go_wp2_with fail
            refine ⟨⟨1, m + nq, hqm, by go_num, ?_⟩, by simp [intOf]; omega⟩
            rw [Hw.out]; exact World.drewN_drewN _ _ _
        · obtain rfl : q = L.1.length := by omega
          clear hw
          go_wp2_with fail
          refine ⟨⟨k + 1, N + 64, L.2, hlt, hlt2, by omega, by go_num, HPr.out, Hbr.out⟩, by simp [intOf]; omega⟩
    · have hsel : ((k : Int) < (l.length : Int) ∧ decide (k < l.length) = true ∧ decide ((k : Int) < 60) = false) ∨ ((l.length : Int) ≤ (k : Int) ∧ decide (k < l.length) = false ∧ True) := by
        by_cases h : k < l.length
        · exact .inl ⟨by omega, by simp only [decide_eq_true_eq]; omega, by simp only [decide_eq_false_iff_not]; omega⟩
        · exact .inr ⟨by omega, by simp only [decide_eq_false_iff_not]; omega, trivial⟩
      clear hlt
      rcases hsel with ⟨hd0, hd1, hd2⟩ | ⟨hd0, hd1, hd2⟩
      all_goals
        go_wp2_with fail
        go_ret
        exact ⟨rfl, Hb.out⟩
end Go.Proofs.Ytedncgidjllapaa
