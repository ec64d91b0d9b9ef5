/- Layer 22's laws: Look whole; awake. -/
import Derived.Test.YtedncgidjllapaaPostLook
import Derived.Test.YtedncgidjllapaaNumbers
namespace Go.Proofs.Ytedncgidjllapaa
open Go.RowKit Go.Maps
set_option linter.unusedVariables false
set_option linter.unusedSimpArgs false

theorem own_form {w : World} {base n : Nat} {e : TypeId} {v : Value} {xs : List Value} (h : w.ownsRow base e 1 v n xs) : ∃ a c, v = .slice a n c := by
  rcases h.2 with ⟨rfl, h0⟩ | ⟨g, cap, cur, rfl, _⟩
  · exact ⟨none, 0, by rw [h0]⟩
  · exact ⟨_, _, rfl⟩
theorem own_nums {w : World} {base : Nat} {e : TypeId} {v : Value} {L : List Int} (h : w.ownsRow base e 1 v L.length (Is L)) : NumsV w v L := by
  rcases h.2 with ⟨rfl, h0⟩ | ⟨g, cap, cur, rfl, hb, hh, _⟩
  · have : L = [] := List.length_eq_zero_iff.1 h0
    subst this
    exact NumsV.nil w
  · refine ⟨_, cap, rfl, fun _ => ⟨g, 0, rfl, lt_of_block hh, fun i hi => ?_⟩⟩
    have hc := h.cells (g := g) rfl i (.int .i64 (L.getD i 0)) (by simp [Is, List.getD, hi])
    have e1 : (⟨g, 0, none⟩ : Addr).add i = ⟨g, 0 + i, none⟩ := by simp [Addr.add]; try omega
    rw [e1] at hc
    exact hc
theorem postLook_any (ht landed cuts : Int) (w : World) (B M N : Nat) (p win : Int) (f : Post.Out) (hP : PosterAt w B M p win f N) (hN : N ≤ 1000000) (hw0 : 1 ≤ win) (hw1 : win ≤ 64)
    (hh1 : ht ≤ 9223372036854775807) (hl1 : landed ≤ 9223372036854775807) (hc1 : cuts ≤ 9223372036854775807) :
    Calls Try.prog 9 #[.pointer (some ⟨B, 0, none⟩), .int .i64 ht, .int .i64 landed, .int .i64 cuts] w fun e w' =>
      ∃ v, e = .returned v ∧ w'.ownsRow w.heap.size 3 1 v (Post.look f p win ht landed cuts).1.length (Is (Post.look f p win ht landed cuts).1) ∧
        PosterAt w' B M p win (Post.look f p win ht landed cuts).2 (N + 64) ∧ w.grownBy w' (some M) := by
  unfold Post.look
  by_cases hb : Post.bad ht landed cuts = true
  · rw [if_pos hb]
    refine (postLook_bad ht landed cuts w B hb).mono ?_
    rintro e w' ⟨rfl, rfl⟩
    refine ⟨_, rfl, World.ownsRow_nil _ _ _ _, ⟨hP.1, ?_, hP.2.2⟩, grownBy_refl _ _⟩
    obtain ⟨D, h1, h2⟩ := hP.2.1
    exact ⟨D, h1.mono (by omega), h2⟩
  · rw [if_neg hb]
    unfold Post.bad at hb
    simp at hb
    exact postLook_good ht landed cuts w B M N p win f hP hN hw0 hw1 (by omega) hh1 (by omega) hl1 (by omega) hc1

def s1 : List Int × Post.Out := Post.look Post.none_ 3 2 5 0 9
def s2 : List Int × Post.Out := Post.look s1.2 3 2 6 0 9
def s3 : List Int × Post.Out := Post.look s2.2 3 2 7 1 9
def s4 : List Int × Post.Out := Post.look s3.2 3 2 8 1 9
theorem s1_list : s1.1 = [0, 1] := by decide +kernel
theorem s2_list : s2.1 = [] := by decide +kernel
theorem s3_list : s3.1 = [2] := by decide +kernel
theorem s4_list : s4.1 = [1] := by decide +kernel
theorem Post_below {base : Nat} {a w w' : World} {M : Nat} (h : Below base a w) (hg : w.grownBy w' (some M)) (hB : base ≤ M) (hw : base ≤ w.heap.size) : Below base a w' :=
  h.grown hg hw (fun k hk => by cases hk; exact hB)
theorem Post_below0 {base : Nat} {a w w' : World} (h : Below base a w) (hg : w.grownBy w' none) (hw : base ≤ w.heap.size) : Below base a w' :=
  h.grown hg hw (fun k hk => by cases hk)
theorem own_list {w : World} {base : Nat} {e : TypeId} {v : Value} {L L' : List Int} (h : w.ownsRow base e 1 v L.length (Is L)) (hL : L = L') : w.ownsRow base e 1 v L'.length (Is L') := by subst hL; exact h

set_option maxRecDepth 20000 in
set_option maxHeartbeats 800000 in
theorem awake22_any (w : World) :
    Calls Try.prog 8 #[] w fun e w' => e = .returned (.bool true) ∧ Below w.heap.size w w' := by
  go_enter Try.func8, Try.ntmps8
  go_wp2_with fail
  refine (postNew_ok 3 2 _ (by omega) (by omega) (by omega) (by omega)).mono ?_
  rintro _ w0 ⟨rfl, hP0, hg0⟩
  have hb0 := Post_below0 (Below.refl w.heap.size w) hg0 (Nat.le_refl _)
  have HP0 := Lib.hid hP0
  have Hb0 := Lib.hid hb0
  clear hP0 hg0 hb0
  go_wp2_with fail
  refine (postLook_any 5 0 9 _ _ _ _ _ _ _ HP0.out (by omega) (by omega) (by omega) (by omega) (by omega) (by omega)).mono ?_
  rintro _ w1 ⟨v1, rfl, hl1, hP1, hg1⟩
  have hM0 : w.heap.size < w0.heap.size := HP0.out.ltM
  have hb1 := Post_below Hb0.out hg1 (Nat.le_refl _) Hb0.out.size
  have hl1 := own_list hl1 s1_list
  have hsz1 := hg1.size
  have HP1 : Hid (PosterAt w1 (w.heap.size + 1) w.heap.size 3 2 s1.2 (0 + 64)) := hP1
  have Hb1 := Lib.hid hb1
  have Hl1 := Lib.hid hl1
  clear hP1 hg1 hb1 hl1
  go_wp2_with fail
  refine (postLook_any 6 0 9 _ _ _ _ _ _ _ HP1.out (by omega) (by omega) (by omega) (by omega) (by omega) (by omega)).mono ?_
  rintro _ w2 ⟨v2, rfl, hl2, hP2, hg2⟩
  have hb2 := Post_below Hb1.out hg2 (Nat.le_refl _) Hb1.out.size
  have hl1 := own_kept' Hl1.out hg2 hM0
  have hl2 := own_list hl2 s2_list
  have hsz2 := hg2.size
  have HP2 : Hid (PosterAt w2 (w.heap.size + 1) w.heap.size 3 2 s2.2 (0 + 64 + 64)) := hP2
  have Hb2 := Lib.hid hb2
  have Hl1 := Lib.hid hl1
  obtain ⟨a2, c2, rfl⟩ := own_form hl2
  clear hP2 hg2 hb2 hl1 hl2
  go_wp2_with fail
  refine (postLook_any 7 1 9 _ _ _ _ _ _ _ HP2.out (by omega) (by omega) (by omega) (by omega) (by omega) (by omega)).mono ?_
  rintro _ w3 ⟨v3, rfl, hl3, hP3, hg3⟩
  have hb3 := Post_below Hb2.out hg3 (Nat.le_refl _) Hb2.out.size
  have hl1 := own_kept' Hl1.out hg3 hM0
  have hl3 := own_list hl3 s3_list
  have hsz3 := hg3.size
  have HP3 : Hid (PosterAt w3 (w.heap.size + 1) w.heap.size 3 2 s3.2 (0 + 64 + 64 + 64)) := hP3
  have Hb3 := Lib.hid hb3
  have Hl1 := Lib.hid hl1
  have Hl3 := Lib.hid hl3
  clear hP3 hg3 hb3 hl1 hl3
  go_wp2_with fail
  refine (postLook_any 8 1 9 _ _ _ _ _ _ _ HP3.out (by omega) (by omega) (by omega) (by omega) (by omega) (by omega)).mono ?_
  rintro _ w4 ⟨v4, rfl, hl4, hP4, hg4⟩
  have hb4 := Post_below Hb3.out hg4 (Nat.le_refl _) Hb3.out.size
  have n1 := own_nums (L := [0, 1]) (own_kept' Hl1.out hg4 hM0)
  have n3 := own_nums (L := [2]) (own_kept' Hl3.out hg4 (by omega))
  have n4 := own_nums (L := [1]) (own_list hl4 s4_list)
  have Hb4 := Lib.hid hb4
  have N1 := Lib.hid n1
  have N3 := Lib.hid n3
  have N4 := Lib.hid n4
  clear hP4 hg4 hb4 hl4 n1 n3 n4
  go_wp2_with fail
  have m1 : NumsV (w4.alloc (.cells #[.int .i64 0, .int .i64 1] 3)) (.slice (some ⟨w4.heap.size, 0, none⟩) 2 2) [0, 1] := NumsV.row (L := [0, 1]) (Row.new w4 3 (Is [0, 1]))
  refine (numbers_any v1 _ [0, 1] [0, 1] _ (N1.out.kept (grownBy_alloc _ _ none)) m1 (by decide) (by decide)).mono ?_
  rintro _ w5 ⟨rfl, n5, rfl⟩
  have hb5 : Below w.heap.size w ((w4.alloc (.cells #[.int .i64 0, .int .i64 1] 3)).drewN n5) := below_drewN' (Hb4.out.alloc Hb4.out.size _) _
  have hn3 := N3.out.kept (grownBy_alloc w4 (.cells #[.int .i64 0, .int .i64 1] 3) none)
  have hn4 := N4.out.kept (grownBy_alloc w4 (.cells #[.int .i64 0, .int .i64 1] 3) none)
  have hn3 := hn3.kept (grownBy_drewN _ n5 none)
  have hn4 := hn4.kept (grownBy_drewN _ n5 none)
  generalize ((w4.alloc (.cells #[.int .i64 0, .int .i64 1] 3)).drewN n5) = w6 at *
  have Hb5 := Lib.hid hb5
  have N3' := Lib.hid hn3
  have N4' := Lib.hid hn4
  clear hb5 hn3 hn4 m1
  rw [decide_eq_true (rfl : ([0, 1] : List Int) = [0, 1])]
  go_wp2_with fail
  have m3 : NumsV (w6.alloc (.cells #[.int .i64 2] 3)) (.slice (some ⟨w6.heap.size, 0, none⟩) 1 1) [2] := NumsV.row (L := [2]) (Row.new w6 3 (Is [2]))
  refine (numbers_any v3 _ [2] [2] _ (N3'.out.kept (grownBy_alloc _ _ none)) m3 (by decide) (by decide)).mono ?_
  rintro _ w7 ⟨rfl, n7, rfl⟩
  have hb7 : Below w.heap.size w ((w6.alloc (.cells #[.int .i64 2] 3)).drewN n7) := below_drewN' (Hb5.out.alloc Hb5.out.size _) _
  have hn4 := (N4'.out.kept (grownBy_alloc w6 (.cells #[.int .i64 2] 3) none)).kept (grownBy_drewN _ n7 none)
  generalize ((w6.alloc (.cells #[.int .i64 2] 3)).drewN n7) = w8 at *
  have Hb7 := Lib.hid hb7
  have N4'' := Lib.hid hn4
  clear hb7 hn4 m3
  rw [decide_eq_true (rfl : ([2] : List Int) = [2])]
  go_wp2_with fail
  have m4 : NumsV (w8.alloc (.cells #[.int .i64 1] 3)) (.slice (some ⟨w8.heap.size, 0, none⟩) 1 1) [1] := NumsV.row (L := [1]) (Row.new w8 3 (Is [1]))
  refine (numbers_any v4 _ [1] [1] _ (N4''.out.kept (grownBy_alloc _ _ none)) m4 (by decide) (by decide)).mono ?_
  rintro _ w9 ⟨rfl, n9, rfl⟩
  have hb9 : Below w.heap.size w ((w8.alloc (.cells #[.int .i64 1] 3)).drewN n9) := below_drewN' (Hb7.out.alloc Hb7.out.size _) _
  generalize ((w8.alloc (.cells #[.int .i64 1] 3)).drewN n9) = w10 at *
  have Hb9 := Lib.hid hb9
  clear hb9 m4
  rw [decide_eq_true (rfl : ([1] : List Int) = [1])]
  go_wp2_with fail
  go_ret
  exact ⟨rfl, Hb9.out⟩
end Go.Proofs.Ytedncgidjllapaa
