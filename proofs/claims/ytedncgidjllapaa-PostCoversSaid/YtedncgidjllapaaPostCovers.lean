/- Layer 22's law PostCovers: what it returns. -/
import Derived.Test.YtedncgidjllapaaPostLaw2
namespace Go.Proofs.Ytedncgidjllapaa
open Go.RowKit Go.Maps
set_option linter.unusedVariables false
set_option linter.unusedSimpArgs false

theorem cover_up (c n : Nat) (hn : 1 ≤ n) : c ≤ (c + n - 1) / n * n := by
  have hd := Nat.div_add_mod (c + n - 1) n
  have hm := Nat.mod_lt (c + n - 1) (show 0 < n by omega)
  rw [Nat.mul_comm] at hd
  generalize (c + n - 1) / n * n = q at *
  omega
theorem cover_step {c n k d m : Nat} (hd : d ≤ c) (h : d = c ∨ d = k * n) (hm : m = min n (c - d)) : d + m ≤ c ∧ (d + m = c ∨ d + m = (k + 1) * n) := by
  rw [Nat.succ_mul]
  generalize k * n = q at *
  omega
theorem many_nat (n d c : Nat) : Post.many (n : Int) (d : Int) (c : Int) = min n (c - d) := by unfold Post.many; omega

set_option maxRecDepth 20000 in
set_option maxHeartbeats 1600000 in
theorem postCovers_any (wi ca : Int) (w : World) (hp0 : 0 ≤ wi) (hp1 : wi ≤ 255) (hc0 : 0 ≤ ca) (hc1 : ca ≤ 255) :
    Calls Try.prog 5 #[.int .u8 wi, .int .u8 ca] w fun e w' => e = .returned (.bool true) ∧ Below w.heap.size w w' := by
  obtain ⟨n, hn⟩ : ∃ n : Nat, wi % 64 + 1 = (n : Int) := ⟨(wi % 64 + 1).toNat, by omega⟩
  obtain ⟨c, rfl⟩ : ∃ c : Nat, ca = (c : Int) := ⟨ca.toNat, by omega⟩
  have hn1 : 1 ≤ n := by omega
  have hn64 : n ≤ 64 := by omega
  have hc255 : c ≤ 255 := by omega
  have hcov := cover_up c n hn1
  obtain ⟨Kq, hK⟩ : ∃ Kq, Kq = (c + n - 1) / n := ⟨_, rfl⟩
  rw [← hK] at hcov
  have hKle : Kq ≤ 318 := by
    rw [hK]; exact Nat.le_trans (Nat.div_le_self _ _) (by omega)
  have hq : ((c : Int) + (n : Int) - 1) / (n : Int) = (Kq : Int) := by
    rw [hK, show (c : Int) + (n : Int) - 1 = ((c + n - 1 : Nat) : Int) by omega]; exact (Int.natCast_ediv _ _).symm
  have hqt : ((c : Int) + (n : Int) - 1).tdiv (n : Int) = (Kq : Int) := by rw [Int.tdiv_eq_ediv_of_nonneg (by omega)]; exact hq
  have Hn := Lib.hid hn
  have Hq := Lib.hid hq
  have Hqt := Lib.hid hqt
  have Hcov := Lib.hid hcov
  clear hn hq hqt hcov hK
  go_enter Try.func5, Try.ntmps5
  go_wp2_with fail
  rw [Hn.out]
  refine (postNew_ok 5 (n : Int) _ (by omega) (by omega) (by omega) (by omega)).mono ?_
  rintro _ w1 ⟨rfl, hP1, hg1⟩
  have hb1 := Post_below0 (Below.refl w.heap.size w) hg1 (Nat.le_refl _)
  have HP1 := Lib.hid hP1
  have Hb1 := Lib.hid hb1
  clear hP1 hg1 hb1
  go_wp2_with fail
  refine (awake22_any _).mono ?_
  rintro _ w2 ⟨rfl, hb2⟩
  have hP2 := HP1.out.kept (grownBy_of_below hb2 none) (by simp) (by simp)
  have hb2' := Hb1.out.trans (hb2.mono Hb1.out.size)
  have HP2 := Lib.hid hP2
  have Hb2 := Lib.hid hb2'
  clear hP2 hb2 hb2'
  go_wp2_with fail
  go_loopw [9, 10] (fun l i wr => ∃ (k d N : Nat) (f : Post.Out), k ≤ Kq ∧ N ≤ 64 * k ∧ i = .int .i64 k ∧ l = .int .i64 d ∧ d ≤ c ∧ (d = c ∨ d = k * n) ∧ (∀ x : Int, (d : Int) ≤ x → f x = none) ∧ PosterAt wr (w.heap.size + 1) w.heap.size 5 n f N ∧ Below w.heap.size w wr) (fun _ i _ => Kq - (intOf i).toNat)
  case atStart => exact ⟨0, 0, 0, _, Nat.zero_le _, Nat.zero_le _, rfl, rfl, Nat.zero_le _, .inr (by simp), fun _ _ => rfl, HP2.out, Hb2.out⟩
  case round =>
    obtain ⟨k, d, N, f, hk, hN, rfl, rfl, hdc, hdk, hf, hP, hb⟩ := hrel
    have HP := Lib.hid hP
    have Hb := Lib.hid hb
    have Hf := Lib.hid hf
    have Hdk := Lib.hid hdk
    clear hP hb hf hdk
    by_cases hlt : k < Kq
    · have hki : (k : Int) < (Kq : Int) := by omega
      have hla := Post.look_all f 5 (n : Int) (k : Int) (d : Int) (c : Int) (by omega) (by omega) (by omega) Hf.out
      rw [many_nat] at hla
      obtain ⟨m, hm⟩ : ∃ m, m = min n (c - d) := ⟨_, rfl⟩
      rw [← hm] at hla
      have hst := cover_step hdc Hdk.out hm
      obtain ⟨L, hL⟩ : ∃ L, L = (Post.look f 5 (n : Int) (k : Int) (d : Int) (c : Int)) := ⟨_, rfl⟩
      rw [← hL] at hla
      have hdm : d + m ≤ c := hst.1
      have HL := Lib.hid hL
      have Hla := Lib.hid hla
      have Hst := Lib.hid hst.2
      clear hla hL hst hm
      have hq := Hq.out
      have hqt := Hqt.out
      go_wp2_with fail
      clear hq hqt
      refine (postLook_any (k : Int) (d : Int) (c : Int) _ _ _ N _ _ f HP.out (by omega) (by omega) (by omega) (by omega) (by omega) (by omega)).mono ?_
      rintro _ w3 ⟨v, rfl, hl, hP3, hg3⟩
      have hb3 := Post_below Hb.out hg3 (Nat.le_refl _) Hb.out.size
      rw [← HL.out] at hl hP3
      obtain ⟨A, cc, hv, hA⟩ := own_nums hl
      rw [Hla.out.1] at hv
      subst hv
      have HP3 := Lib.hid hP3
      have Hb3 := Lib.hid hb3
      have HA := Lib.hid hA
      clear hl hP3 hg3 hb3 hA
      go_wp2_with fail
      generalize w3 = wo at *
      go_loop [9, 12] (fun l i => ∃ q : Nat, q ≤ m ∧ i = .int .i64 q ∧ l = .int .i64 ((d : Int) + (q : Int))) (fun _ i => m - (intOf i).toNat)
      case atStart => exact ⟨0, Nat.zero_le _, rfl, by simp⟩
      case round =>
        obtain ⟨q, hq, rfl, rfl⟩ := hrel
        by_cases hqm : q < m
        · have hqi : (q : Int) < (m : Int) := by omega
          have hne : L.1 ≠ [] := by
            intro e
            have := Hla.out.1
            rw [e] at this
            simp at this; omega
          obtain ⟨b, off, rfl, hblt, hc⟩ := HA.out hne
          have c0 := hc q (by rw [Hla.out.1]; exact hqm)
          rw [Hla.out.2.1 q hqm] at c0
          have hdq : d + q ≤ 255 := by omega
          clear hc hne
          go_wp2_with fail
          refine ⟨⟨q + 1, hqm, by go_num, ?_⟩, by simp [intOf]; omega⟩
          first | (congr 1; omega) | congr 1
        · obtain rfl : q = m := by omega
          go_wp2_with fail
          refine ⟨⟨k + 1, d + q, N + 64, L.2, hlt, by omega, by go_num, by go_num, hdm, Hst.out, ?_, HP3.out, Hb3.out⟩, by simp [intOf]; omega⟩
          intro x hx
          exact Hla.out.2.2 x (by omega)
    · obtain rfl : k = Kq := by omega
      have hde : d = c := by
        rcases Hdk.out with h | h
        · exact h
        · have := Hcov.out; omega
      subst hde
      have hki : (k : Int) ≤ (k : Int) := Int.le_refl _
      have hla := Post.look_all f 5 (n : Int) 1000 (d : Int) (d : Int) (by omega) (by omega) (by omega) Hf.out
      rw [many_nat] at hla
      have hla0 : (Post.look f 5 (n : Int) 1000 (d : Int) (d : Int)).1 = [] := List.length_eq_zero_iff.1 (by rw [hla.1]; omega)
      have Hla := Lib.hid hla0
      clear hla hla0
      have hq := Hq.out
      have hqt := Hqt.out
      go_wp2_with fail
      clear hq hqt
      refine (postLook_any 1000 (d : Int) (d : Int) _ _ _ N _ _ f HP.out (by omega) (by omega) (by omega) (by omega) (by omega) (by omega)).mono ?_
      rintro _ w3 ⟨v, rfl, hl, hP3, hg3⟩
      have hb3 := Post_below Hb.out hg3 (Nat.le_refl _) Hb.out.size
      obtain ⟨a0, c0, rfl⟩ := own_form (own_list (L' := []) hl Hla.out)
      have Hb3 := Lib.hid hb3
      clear hl hP3 hg3 hb3
      go_wp2_with fail
      go_ret
      exact ⟨rfl, Hb3.out⟩
end Go.Proofs.Ytedncgidjllapaa
