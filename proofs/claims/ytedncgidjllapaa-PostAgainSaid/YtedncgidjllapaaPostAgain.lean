/- Layer 22's law PostAgain: what it returns. -/
import Derived.Test.YtedncgidjllapaaPostLaw2
namespace Go.Proofs.Ytedncgidjllapaa
open Go.RowKit Go.Maps
set_option linter.unusedVariables false
set_option linter.unusedSimpArgs false

set_option maxRecDepth 20000 in
set_option maxHeartbeats 1600000 in
theorem postAgain_any (pa hi la : Int) (w : World) (hp0 : 0 ≤ pa) (hp1 : pa ≤ 255) (hh0 : 0 ≤ hi) (hh1 : hi ≤ 65535) (hl0 : 0 ≤ la) (hl1 : la ≤ 255) :
    Calls Try.prog 4 #[.int .u8 pa, .int .u16 hi, .int .u8 la] w fun e w' => e = .returned (.bool true) ∧ Below w.heap.size w w' := by
  obtain ⟨n, hn⟩ : ∃ n : Nat, pa % 40 + 1 = (n : Int) := ⟨(pa % 40 + 1).toNat, by omega⟩
  have hn1 : 1 ≤ n := by omega
  have hn40 : n ≤ 40 := by omega
  have Hn := Lib.hid hn
  clear hn
  go_enter Try.func4, Try.ntmps4
  go_wp2_with fail
  rw [Hn.out]
  refine (postNew_ok (n : Int) 1 _ (by omega) (by omega) (by omega) (by omega)).mono ?_
  rintro _ w1 ⟨rfl, hP1, hg1⟩
  have hb1 := Post_below0 (Below.refl w.heap.size w) hg1 (Nat.le_refl _)
  have HP1 := Lib.hid hP1
  have Hb1 := Lib.hid hb1
  clear hP1 hg1 hb1
  go_wp2_with fail
  refine (awake22_any _).mono ?_
  rintro _ w2 ⟨rfl, hb2⟩
  have hP2 := HP1.out.kept (grownBy_of_below hb2 none) (by simp) (by simp)
  have hb2' := Hb1.out.trans (hb2.mono Hb1.out.size)
  have HP2 := Lib.hid hP2
  have Hb2 := Lib.hid hb2'
  clear hP2 hb2 hb2'
  go_wp2_with fail
  go_loopw [12] (fun i wr => ∃ (k N : Nat) (f : Post.Out), k ≤ 3 * n ∧ N ≤ 64 * k ∧ i = .int .i64 k ∧ f la = Post.last hi n k ∧ PosterAt wr (w.heap.size + 1) w.heap.size n 1 f N ∧ Below w.heap.size w wr) (fun i _ => 3 * n - (intOf i).toNat)
  case atStart => exact ⟨0, 0, _, Nat.zero_le _, Nat.zero_le _, rfl, rfl, HP2.out, Hb2.out⟩
  case round =>
    obtain ⟨k, N, f, hk, hN, rfl, hf, hP, hb⟩ := hrel
    have HP := Lib.hid hP
    have Hb := Lib.hid hb
    have Hf := Lib.hid hf
    clear hP hb hf
    by_cases hlt : k < 3 * n
    · have hki : (k : Int) < 3 * (n : Int) := by omega
      have hk120 : (k : Int) ≤ 120 := by omega
      have hlk := Post.look_one f (n : Int) (hi + (k : Int)) la (by omega) hl0
      have haf := Post.after_one f (n : Int) (hi + (k : Int)) la
      rw [Post.last_next f hi la n k hn1 Hf.out] at haf
      rw [Post.due_last f hi la n k hn1 Hf.out] at hlk
      have Hlk := Lib.hid hlk
      have Haf := Lib.hid haf
      clear hlk haf
      go_wp2_with fail
      refine (postLook_any (hi + (k : Int)) la (la + 1) _ _ _ N _ _ f HP.out (by omega) (by omega) (by omega) (by omega) (by omega) (by omega)).mono ?_
      rintro _ w3 ⟨v, rfl, hl, hP3, hg3⟩
      have hb3 := Post_below Hb.out hg3 (Nat.le_refl _) Hb.out.size
      rw [Hlk.out] at hl hP3
      have HP3 : Hid (PosterAt w3 (w.heap.size + 1) w.heap.size n 1 (Post.after (Post.trim f la) n (hi + k) la 1) (N + 64)) := hP3
      have Hb3 := Lib.hid hb3
      clear hP3 hg3 hb3
      by_cases hk0 : k % n = 0
      · have hl1 := own_list (L' := [la]) hl (by rw [if_pos (by simpa using hk0)])
        obtain ⟨A, c, hv, hA⟩ := own_nums (L := [la]) hl1
        obtain ⟨b, off, rfl, hblt, hc⟩ := hA (by simp)
        have c0 := hc 0 (by simp)
        rw [Nat.add_zero] at c0
        have c0 : w3.cell? ⟨b, off, none⟩ = some (.int .i64 la) := c0
        have hv : v = .slice (some ⟨b, off, none⟩) 1 c := hv
        subst hv
        have hmd : (k : Int) % (n : Int) = 0 := by omega
        have hmt : (k : Int).tmod (n : Int) = 0 := by rw [Int.tmod_eq_emod_of_nonneg (by omega)]; exact hmd
        have Hmd := Lib.hid hmd
        have Hmt := Lib.hid hmt
        clear hl hl1 hA hc hk0 hmd hmt
        go_wp2_with fail
        have hmd := Hmd.out
        have hmt := Hmt.out
        go_quiet (fail)
        clear hmd hmt
        go_wp2_with fail
        refine ⟨⟨k + 1, N + 64, _, hlt, by omega, by go_num, Haf.out, ?_, ?_⟩, by simp [intOf]; omega⟩
        · exact HP3.out.kept (grownBy_drewN _ _ none) (by simp) (by simp)
        · exact below_drewN' Hb3.out _
      · have hl1 := own_list (L' := []) hl (by rw [if_neg (by simpa using hk0)])
        obtain ⟨a0, c, rfl⟩ := own_form hl1
        have hkm : 0 < k % n := by omega
        have hmd : (k : Int) % (n : Int) = ((k % n : Nat) : Int) := by omega
        have hmt : (k : Int).tmod (n : Int) = ((k % n : Nat) : Int) := by rw [Int.tmod_eq_emod_of_nonneg (by omega)]; exact hmd
        generalize k % n = r at *
        have hr0 : ((r : Int) == 0) = false := by simp; omega
        have hr1 : (0 : Int) < (r : Int) := by omega
        have Hmd := Lib.hid hmd
        have Hmt := Lib.hid hmt
        clear hl hl1 hk0 hmd hmt
        go_wp2_with fail
        have hmd := Hmd.out
        have hmt := Hmt.out
        go_quiet (fail)
        clear hmd hmt
        go_wp2_with fail
        refine ⟨⟨k + 1, N + 64, _, hlt, by omega, by go_num, Haf.out, ?_, ?_⟩, by simp [intOf]; omega⟩
        · exact HP3.out.kept (grownBy_drewN _ _ none) (by simp) (by simp)
        · exact below_drewN' Hb3.out _
    · have hki : 3 * (n : Int) ≤ (k : Int) := by omega
      go_wp2_with fail
      go_ret
      exact ⟨rfl, Hb.out⟩
end Go.Proofs.Ytedncgidjllapaa
