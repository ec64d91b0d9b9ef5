/- What later texts need of the earlier layers. -/
import Derived.Test.YtinciddchpccnaaDoorBxO
import Derived.Test.YtinciddchpccnaaDoorBxS
import Derived.Test.YtinciddchpccnaaDoorBxT
import Derived.Test.YtinciddchpccnaaDoorBxC
import Derived.Test.YtinciddchpccnaaDoorBxA
import Derived.Test.YtinciddchpccnaaDoorWinMath
import Derived.Test.YtinciddchpccnaaDoorWinNum
import Derived.Test.YtinciddchpccnaaDoorWinSame
import Derived.Test.YtinciddchpccnaaDoorOwnApp
import Derived.Test.YtinciddchpccnaaDoorWinOwn
import Derived.Test.YtinciddchpccnaaDoorWinOwn8
import Derived.Test.YtinciddchpccnaaDoorWinKey
import Derived.Test.YtinciddchpccnaaDoorWinPack
import Derived.Test.YtinciddchpccnaaDoorWinUn
import Derived.Test.YtinciddchpccnaaDoorWinAgain
import Derived.Test.YtinciddchpccnaaDoorWinUp
import Derived.Test.YtinciddchpccnaaDoorWinFour
import Derived.Test.YtinciddchpccnaaDoorWinML
import Derived.Test.YtinciddchpccnaaDoorWinKnown
import Derived.Test.YtinciddchpccnaaDoorWinCP
import Derived.Test.YtinciddchpccnaaDoorWinFar
import Derived.Test.YtinciddchpccnaaDoorWinLong
import Derived.Test.YtinciddchpccnaaDoorWinRup
import Derived.Test.YtinciddchpccnaaDoorWinNew
import Derived.Test.YtinciddchpccnaaDoorWinStr
import Derived.Test.YtinciddchpccnaaDoorWinST
import Derived.Test.YtinciddchpccnaaDoorWinBest
import Derived.Test.YtinciddchpccnaaDoorWinRpk
import Derived.Test.YtinciddchpccnaaDoorWinPk
import Derived.Test.YtinciddchpccnaaDoorRunsMath
import Derived.Test.YtinciddchpccnaaDoorRunsNum
import Derived.Test.YtinciddchpccnaaDoorRunsES
import Derived.Test.YtinciddchpccnaaDoorRunsPut
import Derived.Test.YtinciddchpccnaaDoorRunsPk
import Derived.Test.YtinciddchpccnaaDoorRunsRR
import Derived.Test.YtinciddchpccnaaDoorWinThere
import Derived.Test.YtinciddchpccnaaDoorCrMath
import Derived.Test.YtinciddchpccnaaDoorCrSH
import Derived.Test.YtinciddchpccnaaDoorCrPack
import Derived.Test.YtinciddchpccnaaDoorCrRB
import Derived.Test.YtinciddchpccnaaDoorRunsUU
import Derived.Test.YtinciddchpccnaaDoorRunsR3
import Derived.Test.YtinciddchpccnaaDoorCrOpen
import Derived.Deep.RegionWith
import Derived.Laws.MakeOwn
import Derived.Lib.BufferWrite
import Derived.Laws.CopyOwn
import Derived.Laws.BytesArg
set_option maxRecDepth 100000
/- ---- CrRop ---- -/
/- The reference of layer 8: Open. -/
namespace Go.Proofs.YtinciddchpccnaaDoor
open Go.RowKit
set_option linter.unusedVariables false
set_option linter.unusedSimpArgs false

theorem crRopen_neg (s : ByteArray) (most : Int) (w : World) (h : most < 0) :
    Calls Tryd.prog 39 #[.string s, .int .i64 most] w fun e w' => e = .returned (pairV (Cr.opened s.data.toList most)) ∧ Below w.heap.size w w' := by
  have ho : Cr.opened s.data.toList most = ([], 2) := by unfold Cr.opened; rw [if_pos h]
  have hd : decide (most < 0) = true := by simpa using h
  rw [ho]
  go_enter Tryd.func39, Tryd.ntmps39
  go_wp2_with fail
  go_ret2
  exact ⟨rfl, Below.refl _ _⟩
theorem crRopen_nil (most : Int) (w : World) (h : ¬ most < 0) :
    Calls Tryd.prog 39 #[.string ⟨#[]⟩, .int .i64 most] w fun e w' => e = .returned (pairV (Cr.opened [] most)) ∧ Below w.heap.size w w' := by
  have ho : Cr.opened [] most = ([], 5) := by unfold Cr.opened; rw [if_neg h]
  have hd : decide (most < 0) = false := by simpa using h
  rw [ho]
  go_enter Tryd.func39, Tryd.ntmps39
  go_wp2_with fail
  go_ret2
  exact ⟨rfl, Below.refl _ _⟩
/-- what stands ahead is the head, if the sum is -/
theorem Cr.head_cmp {l held r : List UInt8} {c : UInt8} {N Q : Nat} (hl : l = c :: r) (hQ : 1 < Q) (hQl : Q + 4 ≤ l.length) (htk : (l.drop 1).take (Q - 1) = Oct.num N) (hN : held.length = N) :
    Cr.head c.toNat held = l.take (Q + 4) ↔ Cr.four (Cr.sum held) = (l.drop Q).take 4 := by
  have h1 : l.take (Q + 4) = l.take Q ++ (l.drop Q).take 4 := by rw [List.take_add]
  have h2 : l.take Q = c :: Oct.num N := by
    rw [← htk, hl]
    obtain ⟨q, rfl⟩ : ∃ q, Q = q + 1 := ⟨Q - 1, by omega⟩
    simp
  have h3 : Cr.head c.toNat held = l.take Q ++ Cr.four (Cr.sum held) := by
    unfold Cr.head
    rw [h2, hN]
    have : UInt8.ofNat c.toNat = c := by simp
    rw [this]; rfl
  rw [h1, h3, List.append_cancel_left_eq]
set_option maxHeartbeats 3200000 in
theorem crRopen_some (s : ByteArray) (most : Int) (w : World) (hm : ¬ most < 0) (hs : s.size ≤ 140737488351232) (h0 : 0 < s.size) :
    Calls Tryd.prog 39 #[.string s, .int .i64 most] w fun e w' => e = .returned (pairV (Cr.opened s.data.toList most)) ∧ Below w.heap.size w w' := by
  have hd : decide (most < 0) = false := by simpa using hm
  have hlen : s.data.toList.length = s.size := rfl
  have h0' : (0 : Int) < s.size := by omega
  have h0b : ((s.size : Int) == 0) = false := by simp only [beq_eq_false_iff_ne]; omega
  have h0d : decide (s.size = 0) = false := by simp only [decide_eq_false_iff_not]; omega
  obtain ⟨r, hl⟩ : ∃ r, s.data.toList = s[0] :: r := ⟨_, by have := List.drop_eq_getElem_cons (l := s.data.toList) (i := 0) (by rw [hlen]; exact h0); rw [List.drop_zero] at this; exact this⟩
  obtain ⟨c, hc⟩ : ∃ c, s[0] = c := ⟨_, rfl⟩
  rw [hc] at hl
  have hc8 := c.toNat_lt
  obtain ⟨⟨n, q, e⟩, hn⟩ : ∃ X, Oct.rdNum s.data.toList 1 = X := ⟨_, rfl⟩
  obtain ⟨⟨held, e2⟩, hb⟩ : ∃ X, Cr.back c.toNat (s.data.toList.drop (q + 4).toNat) n = X := ⟨_, rfl⟩
  have hop := Cr.opened_at hl hm hn hb
  rw [hop]
  have hrd := refReadNumber_any s 1 w (by omega)
  unfold rdNumV at hrd
  rw [hn] at hrd
  have hok := Oct.rdNum_ok hn
  rw [hlen] at hok
  have Hl := Lib.hid hl
  have Hb := Lib.hid hb
  have Hrd := Lib.hid hrd
  have Hlen := Lib.hid hlen
  clear hl hb hrd hlen hop hn
  by_cases h4 : 4 ≤ c.toNat
  · rw [if_pos h4]
    have d4 : decide ((3 : Int) < (c.toNat : Int)) = true := by simp only [decide_eq_true_eq]; omega
    have d4' : decide (3 < c.toNat) = true := by simp only [decide_eq_true_eq]; omega
    go_enter Tryd.func39, Tryd.ntmps39
    go_wp2_with fail
    go_ret2
    exact ⟨rfl, Below.refl _ _⟩
  rw [if_neg h4]
  have d4 : decide ((3 : Int) < (c.toNat : Int)) = false := by simp only [decide_eq_false_iff_not]; omega
  have d4' : decide (3 < c.toNat) = false := by simp only [decide_eq_false_iff_not]; omega
  by_cases he : e ≠ 0
  · rw [if_pos he]
    have hz : (e == 0) = false := by simpa using he
    clear hok
    go_enter Tryd.func39, Tryd.ntmps39
    go_wp2_with fail
    refine Hrd.out.mono ?_
    rintro e' w1 ⟨rfl, rfl⟩
    unfold three
    go_wp2_with fail
    go_ret2
    exact ⟨rfl, Below.refl _ _⟩
  rw [if_neg he]
  have he0 : e = 0 := by simpa using he
  subst he0
  clear he
  obtain ⟨_, _, hn0, hn1, hq0, hq1, htk⟩ : (0 : Int) = 0 ∧ 0 ≤ (1 : Int) ∧ 0 ≤ n ∧ n < 2 ^ 63 ∧ 1 < q ∧ q ≤ s.size ∧ (s.data.toList.drop (1 : Int).toNat).take (q - 1).toNat = Oct.num n.toNat := by
    rcases hok with hok | hok
    · exact absurd rfl hok.1
    · exact ⟨hok.1, by omega, hok.2.2.1, hok.2.2.2.1, hok.2.2.2.2.1, hok.2.2.2.2.2.1, hok.2.2.2.2.2.2⟩
  clear hok
  obtain ⟨N, rfl⟩ : ∃ N : Nat, n = (N : Int) := ⟨n.toNat, by omega⟩
  obtain ⟨Q, rfl⟩ : ∃ Q : Nat, q = (Q : Int) := ⟨q.toNat, by omega⟩
  rw [show ((Q : Int) - 1).toNat = Q - 1 by omega, Int.toNat_natCast, show (1 : Int).toNat = 1 from rfl] at htk
  have Htk := Lib.hid htk
  clear htk
  by_cases hbig : most < (N : Int) ∨ 32768 < (N : Int)
  · rw [if_pos hbig]
    by_cases hb1 : most < (N : Int)
    · have d5 : decide (most < (N : Int)) = true := by simpa using hb1
      clear hbig
      go_enter Tryd.func39, Tryd.ntmps39
      go_wp2_with fail
      refine Hrd.out.mono ?_
      rintro e' w1 ⟨rfl, rfl⟩
      unfold three
      go_wp2_with fail
      go_ret2
      exact ⟨rfl, Below.refl _ _⟩
    · have d5 : decide (most < (N : Int)) = false := by simpa using hb1
      have hb2 : 32768 < N := by omega
      have d6 : decide ((32768 : Int) < (N : Int)) = true := by simp only [decide_eq_true_eq]; omega
      have d6' : decide (32768 < N) = true := by simp only [decide_eq_true_eq]; omega
      clear hbig
      go_enter Tryd.func39, Tryd.ntmps39
      go_wp2_with fail
      refine Hrd.out.mono ?_
      rintro e' w1 ⟨rfl, rfl⟩
      unfold three
      go_wp2_with fail
      go_ret2
      exact ⟨rfl, Below.refl _ _⟩
  rw [if_neg hbig]
  have hN : N ≤ 32768 := by omega
  have hb1 : ¬ most < (N : Int) := by omega
  have d5 : decide (most < (N : Int)) = false := by simpa using hb1
  have d6 : decide ((32768 : Int) < (N : Int)) = false := by simp only [decide_eq_false_iff_not]; omega
  have d6' : decide (32768 < N) = false := by simp only [decide_eq_false_iff_not]; omega
  clear hbig hb1 hn1
  rw [Hlen.out]
  obtain ⟨Q4, hQ4⟩ : ∃ Q4, Q + 4 = Q4 := ⟨_, rfl⟩
  have eQ4 : (Q : Int) + 4 = (Q4 : Int) := by omega
  by_cases hsh : (s.size : Int) - (Q : Int) < 4
  · rw [if_pos hsh]
    have d7 : decide ((s.size : Int) < (Q4 : Int)) = true := by simp only [decide_eq_true_eq]; omega
    have d7' : decide (s.size < Q4) = true := by simp only [decide_eq_true_eq]; omega
    go_enter Tryd.func39, Tryd.ntmps39
    go_wp2_with fail
    refine Hrd.out.mono ?_
    rintro e' w1 ⟨rfl, rfl⟩
    unfold three
    go_wp2_with fail
    go_ret2
    exact ⟨rfl, Below.refl _ _⟩
  rw [if_neg hsh]
  have d7 : decide ((s.size : Int) < (Q4 : Int)) = false := by simp only [decide_eq_false_iff_not]; omega
  have d7' : decide (s.size < Q4) = false := by simp only [decide_eq_false_iff_not]; omega
  have hQ4s : Q4 ≤ s.size := by omega
  obtain ⟨T, hT⟩ : ∃ T, s.extract Q4 s.size = T := ⟨_, rfl⟩
  have hTl : T.data.toList = s.data.toList.drop Q4 := by rw [← hT]; exact Rn.drop_str s Q4 hQ4s
  have hTz : T.size ≤ s.size := by rw [← hT, Rn.drop_size s Q4 hQ4s]; omega
  have wc : IntKind.i64.wrap (c.toNat : Int) = (c.toNat : Int) := IntWalk.i64_in _ (by omega)
  have wq : IntKind.i64.wrap (Q4 : Int) = (Q4 : Int) := IntWalk.i64_in _ (by omega)
  have hsl : ∀ W : World, (Instr.slice 9 (.string s) (some (.int .i64 (Q4 : Int))) none none).run Tryd.prog W = .ok (.string T) W := by
    intro W
    have h := run_slice_string_l (P := Tryd.prog) (w := W) (t := 9) (s := s) Tryd.underlying9 .i64 (Q4 : Int) (by omega) (by omega)
    rw [Int.toNat_natCast, hT] at h
    exact h
  have hb2 := Hb.out
  rw [eQ4, Int.toNat_natCast, ← hTl] at hb2
  obtain ⟨X, hX⟩ : ∃ X, s.extract 0 Q4 = X := ⟨_, rfl⟩
  have hXl : X.toList = s.data.toList.take Q4 := by rw [← hX, ByteArray.toList_eq]; simp
  have hsl3 : ∀ W : World, (Instr.slice 9 (.string s) none (some (.int .i64 (Q4 : Int))) none).run Tryd.prog W = .ok (.string X) W := by
    intro W
    have h := run_slice_string_h (P := Tryd.prog) (w := W) (t := 9) (s := s) Tryd.underlying9 .i64 (Q4 : Int) (by omega) (by omega)
    rw [Int.toNat_natCast, hX] at h
    exact h
  obtain ⟨H, hH⟩ : ∃ H : ByteArray, (⟨held.toArray⟩ : ByteArray) = H := ⟨_, rfl⟩
  have hHz : H.size = held.length := by rw [← hH]; rfl
  have hHl : H.data.toList = held := by rw [← hH]
  have hcmpH : held.length = N → (Cr.head c.toNat held = s.data.toList.take Q4 ↔ Cr.four (Cr.sum held) = (s.data.toList.drop Q).take 4) := fun h => by
    rw [← hQ4]
    exact Cr.head_cmp Hl.out (by omega) (by rw [Hlen.out]; omega) Htk.out h
  have Hsl3 := Lib.hid hsl3
  have HcmpH := Lib.hid hcmpH
  have HHl := Lib.hid hHl
  have HXl := Lib.hid hXl
  have HH := Lib.hid hH
  have HTl := Lib.hid hTl
  have Hb2 := Lib.hid hb2
  clear hsl3 hHl hXl hH hX hT hTl hQ4 hb2 Hb hcmpH
  rw [show (Q : Int).toNat = Q from Int.toNat_natCast Q]
  generalize hk : c.toNat = k at *
  have hk4 : k = 0 ∨ k = 1 ∨ k = 2 ∨ k = 3 := by omega
  clear h4 d4 d4' wc
  rcases hk4 with rfl | rfl | rfl | rfl
  · have hck : (c.toNat : Int) = 0 := by omega
    clear hk
    have hb3 := Hb2.out
    unfold Cr.back at hb3
    rw [if_neg (by omega), if_neg (by omega), if_neg (by omega)] at hb3
    injection hb3 with hh1 hh2
    subst hh2
    rw [if_neg (by simp)]
    have hHT : H = T := by
      rw [← HH.out, ← hh1]
    subst hHT
    clear hh1
    rw [← hHz]
    by_cases hln : (H.size : Int) ≠ (N : Int)
    · rw [if_pos hln]
      have hz : ((H.size : Int) == (N : Int)) = false := by simpa using hln
      have hz' : decide (H.size = N) = false := by simp only [decide_eq_false_iff_not]; omega
      clear hHz
      go_enter Tryd.func39, Tryd.ntmps39
      go_wp2_with fail
      refine Hrd.out.mono ?_
      rintro e' w1 ⟨rfl, rfl⟩
      have Hh := Lib.hid (Below.refl w.heap.size w)
      unfold three
      go_wp2_with fail
      go_ret2
      exact ⟨rfl, Hh.out⟩
    rw [if_neg hln]
    have hHN : H.size = N := by omega
    have hcH := HcmpH.out (by omega)
    have hhd := fun w : World => head_any 0 H w (by omega) (by omega)
    rw [HHl.out] at hhd
    obtain ⟨hl2, hhl2⟩ : ∃ hl2, Cr.head 0 held = hl2 := ⟨_, rfl⟩
    rw [hhl2] at hhd hcH
    obtain ⟨FB, hFB⟩ : ∃ FB : ByteArray, (⟨hl2.toArray⟩ : ByteArray) = FB := ⟨_, rfl⟩
    have hFl : FB.toList = hl2 := by rw [← hFB, ByteArray.toList_mk]
    have hhd2 : ∀ w : World, Calls Tryd.prog 21 #[.int .i64 0, .string H] w fun e w' => e = .returned (.string FB) ∧ Below w.heap.size w w' := by
      intro w; rw [← hFB]; exact hhd w
    obtain ⟨cmp, hcmp⟩ : ∃ cmp, (FB.toList == X.toList) = cmp := ⟨_, rfl⟩
    have Hhd := Lib.hid hhd2
    have Hcmp := Lib.hid hcmp
    have HFl := Lib.hid hFl
    have HcH := Lib.hid hcH
    have hz : ((H.size : Int) == (N : Int)) = true := by simp only [beq_iff_eq]; omega
    have hz' : decide (H.size = N) = true := by simp only [decide_eq_true_eq]; omega
    clear hhd hhd2 hFl hFB hhl2 hln hHz hHN hcmp hcH
    rcases cmp with _ | _
    · have hne : ¬ Cr.four (Cr.sum held) = (s.data.toList.drop Q).take 4 := by
        intro e
        have h := Hcmp.out
        rw [HFl.out, HXl.out, HcH.out.2 e] at h
        simp at h
      rw [if_pos hne]
      clear hne
      go_enter Tryd.func39, Tryd.ntmps39
      go_wp2_with fail
      refine Hrd.out.mono ?_
      rintro e' w1 ⟨rfl, rfl⟩
      have Hh := Lib.hid (Below.refl w.heap.size w)
      unfold three
      go_wp2_with fail
      refine wp_region_noPanic ?_
      refine wp_region_held_drew (S := fun w' => Below w.heap.size w w') (by kernel_rfl) (Hh.out.drew) (fun hHeld => ?_)
      generalize w.drew = w8 at *
      have hsl4 := Hsl3.out
      refine wpAnyH_take (i := 0) (v := .int .i64 0) rfl (by kernel_rfl) (by kernel_rfl) (by kernel_rfl) (fun _ _ _ h => h) (Or.inl ⟨by rfl, fun w' hSw => by go_simp⟩) hHeld ?_
      try simp only [Act.put, List.getElem_toArray, List.getElem_cons_succ, List.getElem_cons_zero, List.setIfInBounds_toArray, List.set_cons_zero, List.set_cons_succ]
      refine wpAnyH_take (i := 1) (v := .string H) rfl (by kernel_rfl) (by kernel_rfl) (by kernel_rfl) (fun _ _ _ h => h) (Or.inl ⟨by rfl, fun w' hSw => by go_simp⟩) hHeld ?_
      try simp only [Act.put, List.getElem_toArray, List.getElem_cons_succ, List.getElem_cons_zero, List.setIfInBounds_toArray, List.set_cons_zero, List.set_cons_succ]
      refine wpAnyH_take (i := 3) (v := .string s) rfl (by kernel_rfl) (by kernel_rfl) (by kernel_rfl) (fun _ _ _ h => h) (Or.inl ⟨by rfl, fun w' hSw => by go_simp⟩) hHeld ?_
      try simp only [Act.put, List.getElem_toArray, List.getElem_cons_succ, List.getElem_cons_zero, List.setIfInBounds_toArray, List.set_cons_zero, List.set_cons_succ]
      refine wpAnyH_take (i := 4) (v := .int .i64 (Q : Int)) rfl (by kernel_rfl) (by kernel_rfl) (by kernel_rfl) (fun _ _ _ h => h) (Or.inl ⟨by rfl, fun w' hSw => by go_simp⟩) hHeld ?_
      try simp only [Act.put, List.getElem_toArray, List.getElem_cons_succ, List.getElem_cons_zero, List.setIfInBounds_toArray, List.set_cons_zero, List.set_cons_succ]
      refine wpAnyH_take (i := 5) (v := .int .i64 (Q4 : Int)) rfl (by kernel_rfl) (by kernel_rfl) (by kernel_rfl) (fun _ _ _ h => h) (Or.inl ⟨by rfl, fun w' hSw => by go_simp⟩) hHeld ?_
      try simp only [Act.put, List.getElem_toArray, List.getElem_cons_succ, List.getElem_cons_zero, List.setIfInBounds_toArray, List.set_cons_zero, List.set_cons_succ]
      refine wpAnyH_take (i := 6) (v := .string X) rfl (by kernel_rfl) (by kernel_rfl) (by kernel_rfl) (fun _ _ _ h => h) (Or.inl ⟨by rfl, fun w' hSw => by go_simp⟩) hHeld ?_
      try simp only [Act.put, List.getElem_toArray, List.getElem_cons_succ, List.getElem_cons_zero, List.setIfInBounds_toArray, List.set_cons_zero, List.set_cons_succ]
      refine wpAnyH_ready (rs := [2]) (by kernel_rfl) (by simp) (AllReadyH.cons rfl (fun K1 hK1 => ?_) AllReadyH.nil)
      try simp only [Act.put, List.getElem_toArray, List.getElem_cons_succ, List.getElem_cons_zero, List.setIfInBounds_toArray, List.set_cons_zero, List.set_cons_succ]
      go_simp
      refine Calls.mono (Hhd.out _) ?_
      rintro e w9 ⟨rfl, hbb⟩
      refine hK1.out _ _ (hHeld.trans (hbb.mono hHeld.size)) (fun hHeld => ?_)
      clear hK1 K1
      try simp only [Act.put, List.getElem_toArray, List.getElem_cons_succ, List.getElem_cons_zero, List.setIfInBounds_toArray, List.set_cons_zero, List.set_cons_succ]
      have hcm := Hcmp.out
      refine wpAnyH_take (i := 7) (v := .bool true) rfl (by kernel_rfl) (by kernel_rfl) (by kernel_rfl) (fun _ _ _ h => h) (Or.inl ⟨by rfl, fun w' hSw => by go_simp⟩) hHeld ?_
      try simp only [Act.put, List.getElem_toArray, List.getElem_cons_succ, List.getElem_cons_zero, List.setIfInBounds_toArray, List.set_cons_zero, List.set_cons_succ]
      refine wpAnyH_done (by kernel_rfl) ?_ _
      refine NoPanic.normal ?_
      have Hh9 := Lib.hid hHeld
      clear hHeld hbb hsl4 hcm
      go_wp2_with fail
      go_ret2
      exact ⟨rfl, Hh9.out⟩
    · have heq : Cr.four (Cr.sum held) = (s.data.toList.drop Q).take 4 := by
        have h := Hcmp.out
        rw [HFl.out, HXl.out] at h
        exact HcH.out.1 (by simpa using h)
      rw [if_neg (by simpa using heq), show pairV (held, 0) = .tuple #[.string H, .int .i64 0] by rw [← HH.out]]
      clear heq
      go_enter Tryd.func39, Tryd.ntmps39
      go_wp2_with fail
      refine Hrd.out.mono ?_
      rintro e' w1 ⟨rfl, rfl⟩
      have Hh := Lib.hid (Below.refl w.heap.size w)
      unfold three
      go_wp2_with fail
      refine wp_region_noPanic ?_
      refine wp_region_held_drew (S := fun w' => Below w.heap.size w w') (by kernel_rfl) (Hh.out.drew) (fun hHeld => ?_)
      generalize w.drew = w8 at *
      have hsl4 := Hsl3.out
      refine wpAnyH_take (i := 0) (v := .int .i64 0) rfl (by kernel_rfl) (by kernel_rfl) (by kernel_rfl) (fun _ _ _ h => h) (Or.inl ⟨by rfl, fun w' hSw => by go_simp⟩) hHeld ?_
      try simp only [Act.put, List.getElem_toArray, List.getElem_cons_succ, List.getElem_cons_zero, List.setIfInBounds_toArray, List.set_cons_zero, List.set_cons_succ]
      refine wpAnyH_take (i := 1) (v := .string H) rfl (by kernel_rfl) (by kernel_rfl) (by kernel_rfl) (fun _ _ _ h => h) (Or.inl ⟨by rfl, fun w' hSw => by go_simp⟩) hHeld ?_
      try simp only [Act.put, List.getElem_toArray, List.getElem_cons_succ, List.getElem_cons_zero, List.setIfInBounds_toArray, List.set_cons_zero, List.set_cons_succ]
      refine wpAnyH_take (i := 3) (v := .string s) rfl (by kernel_rfl) (by kernel_rfl) (by kernel_rfl) (fun _ _ _ h => h) (Or.inl ⟨by rfl, fun w' hSw => by go_simp⟩) hHeld ?_
      try simp only [Act.put, List.getElem_toArray, List.getElem_cons_succ, List.getElem_cons_zero, List.setIfInBounds_toArray, List.set_cons_zero, List.set_cons_succ]
      refine wpAnyH_take (i := 4) (v := .int .i64 (Q : Int)) rfl (by kernel_rfl) (by kernel_rfl) (by kernel_rfl) (fun _ _ _ h => h) (Or.inl ⟨by rfl, fun w' hSw => by go_simp⟩) hHeld ?_
      try simp only [Act.put, List.getElem_toArray, List.getElem_cons_succ, List.getElem_cons_zero, List.setIfInBounds_toArray, List.set_cons_zero, List.set_cons_succ]
      refine wpAnyH_take (i := 5) (v := .int .i64 (Q4 : Int)) rfl (by kernel_rfl) (by kernel_rfl) (by kernel_rfl) (fun _ _ _ h => h) (Or.inl ⟨by rfl, fun w' hSw => by go_simp⟩) hHeld ?_
      try simp only [Act.put, List.getElem_toArray, List.getElem_cons_succ, List.getElem_cons_zero, List.setIfInBounds_toArray, List.set_cons_zero, List.set_cons_succ]
      refine wpAnyH_take (i := 6) (v := .string X) rfl (by kernel_rfl) (by kernel_rfl) (by kernel_rfl) (fun _ _ _ h => h) (Or.inl ⟨by rfl, fun w' hSw => by go_simp⟩) hHeld ?_
      try simp only [Act.put, List.getElem_toArray, List.getElem_cons_succ, List.getElem_cons_zero, List.setIfInBounds_toArray, List.set_cons_zero, List.set_cons_succ]
      refine wpAnyH_ready (rs := [2]) (by kernel_rfl) (by simp) (AllReadyH.cons rfl (fun K1 hK1 => ?_) AllReadyH.nil)
      try simp only [Act.put, List.getElem_toArray, List.getElem_cons_succ, List.getElem_cons_zero, List.setIfInBounds_toArray, List.set_cons_zero, List.set_cons_succ]
      go_simp
      refine Calls.mono (Hhd.out _) ?_
      rintro e w9 ⟨rfl, hbb⟩
      refine hK1.out _ _ (hHeld.trans (hbb.mono hHeld.size)) (fun hHeld => ?_)
      clear hK1 K1
      try simp only [Act.put, List.getElem_toArray, List.getElem_cons_succ, List.getElem_cons_zero, List.setIfInBounds_toArray, List.set_cons_zero, List.set_cons_succ]
      have hcm := Hcmp.out
      refine wpAnyH_take (i := 7) (v := .bool false) rfl (by kernel_rfl) (by kernel_rfl) (by kernel_rfl) (fun _ _ _ h => h) (Or.inl ⟨by rfl, fun w' hSw => by go_simp⟩) hHeld ?_
      try simp only [Act.put, List.getElem_toArray, List.getElem_cons_succ, List.getElem_cons_zero, List.setIfInBounds_toArray, List.set_cons_zero, List.set_cons_succ]
      refine wpAnyH_done (by kernel_rfl) ?_ _
      refine NoPanic.normal ?_
      have Hh9 := Lib.hid hHeld
      clear hHeld hbb hsl4 hcm
      go_wp2_with fail
      go_ret2
      exact ⟨rfl, Hh9.out⟩
  · have hck : (c.toNat : Int) = 1 := by omega
    clear hk
    have hb3 := Hb2.out
    unfold Cr.back at hb3
    rw [if_pos rfl] at hb3
    have hun := fun w : World => runRun_any T N w (by omega) (by omega)
    rw [hb3] at hun
    have hun2 : ∀ w : World, Calls Tryd.prog 74 #[.string T, .int .i64 (N : Int)] w fun e w' => e = .returned (.tuple #[.string H, .int .i64 e2]) ∧ Below w.heap.size w w' := by
      intro w; rw [← HH.out]; exact hun w
    have Hun := Lib.hid hun2
    clear hun hun2 hb3
    by_cases he2 : e2 ≠ 0
    · rw [if_pos he2]
      have hz : (e2 == 0) = false := by simpa using he2
      go_enter Tryd.func39, Tryd.ntmps39
      go_wp2_with fail
      refine Hrd.out.mono ?_
      rintro e' w1 ⟨rfl, rfl⟩
      unfold three
      go_wp2_with fail
      refine (Hun.out _).mono ?_
      rintro e' w7 ⟨rfl, hb7⟩
      have Hh := Lib.hid hb7
      clear hb7
      go_wp2_with fail
      go_ret2
      exact ⟨rfl, Hh.out⟩
    rw [if_neg he2]
    have he20 : e2 = 0 := by simpa using he2
    subst he20
    clear he2
    rw [← hHz]
    by_cases hln : (H.size : Int) ≠ (N : Int)
    · rw [if_pos hln]
      have hz : ((H.size : Int) == (N : Int)) = false := by simpa using hln
      have hz' : decide (H.size = N) = false := by simp only [decide_eq_false_iff_not]; omega
      clear hHz
      go_enter Tryd.func39, Tryd.ntmps39
      go_wp2_with fail
      refine Hrd.out.mono ?_
      rintro e' w1 ⟨rfl, rfl⟩
      unfold three
      go_wp2_with fail
      refine (Hun.out _).mono ?_
      rintro e' w7 ⟨rfl, hb7⟩
      have Hh := Lib.hid hb7
      clear hb7
      go_wp2_with fail
      go_ret2
      exact ⟨rfl, Hh.out⟩
    rw [if_neg hln]
    have hHN : H.size = N := by omega
    have hcH := HcmpH.out (by omega)
    have hhd := fun w : World => head_any 1 H w (by omega) (by omega)
    rw [HHl.out] at hhd
    obtain ⟨hl2, hhl2⟩ : ∃ hl2, Cr.head 1 held = hl2 := ⟨_, rfl⟩
    rw [hhl2] at hhd hcH
    obtain ⟨FB, hFB⟩ : ∃ FB : ByteArray, (⟨hl2.toArray⟩ : ByteArray) = FB := ⟨_, rfl⟩
    have hFl : FB.toList = hl2 := by rw [← hFB, ByteArray.toList_mk]
    have hhd2 : ∀ w : World, Calls Tryd.prog 21 #[.int .i64 1, .string H] w fun e w' => e = .returned (.string FB) ∧ Below w.heap.size w w' := by
      intro w; rw [← hFB]; exact hhd w
    obtain ⟨cmp, hcmp⟩ : ∃ cmp, (FB.toList == X.toList) = cmp := ⟨_, rfl⟩
    have Hhd := Lib.hid hhd2
    have Hcmp := Lib.hid hcmp
    have HFl := Lib.hid hFl
    have HcH := Lib.hid hcH
    have hz : ((H.size : Int) == (N : Int)) = true := by simp only [beq_iff_eq]; omega
    have hz' : decide (H.size = N) = true := by simp only [decide_eq_true_eq]; omega
    clear hhd hhd2 hFl hFB hhl2 hln hHz hHN hcmp hcH
    rcases cmp with _ | _
    · have hne : ¬ Cr.four (Cr.sum held) = (s.data.toList.drop Q).take 4 := by
        intro e
        have h := Hcmp.out
        rw [HFl.out, HXl.out, HcH.out.2 e] at h
        simp at h
      rw [if_pos hne]
      clear hne
      go_enter Tryd.func39, Tryd.ntmps39
      go_wp2_with fail
      refine Hrd.out.mono ?_
      rintro e' w1 ⟨rfl, rfl⟩
      unfold three
      go_wp2_with fail
      refine (Hun.out _).mono ?_
      rintro e' w7 ⟨rfl, hb7⟩
      have Hh := Lib.hid hb7
      clear hb7
      go_wp2_with fail
      refine wp_region_noPanic ?_
      refine wp_region_held_drew (S := fun w' => Below w.heap.size w w') (by kernel_rfl) (Hh.out.drew) (fun hHeld => ?_)
      generalize w7.drew = w8 at *
      have hsl4 := Hsl3.out
      refine wpAnyH_take (i := 0) (v := .int .i64 1) rfl (by kernel_rfl) (by kernel_rfl) (by kernel_rfl) (fun _ _ _ h => h) (Or.inl ⟨by rfl, fun w' hSw => by go_simp⟩) hHeld ?_
      try simp only [Act.put, List.getElem_toArray, List.getElem_cons_succ, List.getElem_cons_zero, List.setIfInBounds_toArray, List.set_cons_zero, List.set_cons_succ]
      refine wpAnyH_take (i := 1) (v := .string H) rfl (by kernel_rfl) (by kernel_rfl) (by kernel_rfl) (fun _ _ _ h => h) (Or.inl ⟨by rfl, fun w' hSw => by go_simp⟩) hHeld ?_
      try simp only [Act.put, List.getElem_toArray, List.getElem_cons_succ, List.getElem_cons_zero, List.setIfInBounds_toArray, List.set_cons_zero, List.set_cons_succ]
      refine wpAnyH_take (i := 3) (v := .string s) rfl (by kernel_rfl) (by kernel_rfl) (by kernel_rfl) (fun _ _ _ h => h) (Or.inl ⟨by rfl, fun w' hSw => by go_simp⟩) hHeld ?_
      try simp only [Act.put, List.getElem_toArray, List.getElem_cons_succ, List.getElem_cons_zero, List.setIfInBounds_toArray, List.set_cons_zero, List.set_cons_succ]
      refine wpAnyH_take (i := 4) (v := .int .i64 (Q : Int)) rfl (by kernel_rfl) (by kernel_rfl) (by kernel_rfl) (fun _ _ _ h => h) (Or.inl ⟨by rfl, fun w' hSw => by go_simp⟩) hHeld ?_
      try simp only [Act.put, List.getElem_toArray, List.getElem_cons_succ, List.getElem_cons_zero, List.setIfInBounds_toArray, List.set_cons_zero, List.set_cons_succ]
      refine wpAnyH_take (i := 5) (v := .int .i64 (Q4 : Int)) rfl (by kernel_rfl) (by kernel_rfl) (by kernel_rfl) (fun _ _ _ h => h) (Or.inl ⟨by rfl, fun w' hSw => by go_simp⟩) hHeld ?_
      try simp only [Act.put, List.getElem_toArray, List.getElem_cons_succ, List.getElem_cons_zero, List.setIfInBounds_toArray, List.set_cons_zero, List.set_cons_succ]
      refine wpAnyH_take (i := 6) (v := .string X) rfl (by kernel_rfl) (by kernel_rfl) (by kernel_rfl) (fun _ _ _ h => h) (Or.inl ⟨by rfl, fun w' hSw => by go_simp⟩) hHeld ?_
      try simp only [Act.put, List.getElem_toArray, List.getElem_cons_succ, List.getElem_cons_zero, List.setIfInBounds_toArray, List.set_cons_zero, List.set_cons_succ]
      refine wpAnyH_ready (rs := [2]) (by kernel_rfl) (by simp) (AllReadyH.cons rfl (fun K1 hK1 => ?_) AllReadyH.nil)
      try simp only [Act.put, List.getElem_toArray, List.getElem_cons_succ, List.getElem_cons_zero, List.setIfInBounds_toArray, List.set_cons_zero, List.set_cons_succ]
      go_simp
      refine Calls.mono (Hhd.out _) ?_
      rintro e w9 ⟨rfl, hbb⟩
      refine hK1.out _ _ (hHeld.trans (hbb.mono hHeld.size)) (fun hHeld => ?_)
      clear hK1 K1
      try simp only [Act.put, List.getElem_toArray, List.getElem_cons_succ, List.getElem_cons_zero, List.setIfInBounds_toArray, List.set_cons_zero, List.set_cons_succ]
      have hcm := Hcmp.out
      refine wpAnyH_take (i := 7) (v := .bool true) rfl (by kernel_rfl) (by kernel_rfl) (by kernel_rfl) (fun _ _ _ h => h) (Or.inl ⟨by rfl, fun w' hSw => by go_simp⟩) hHeld ?_
      try simp only [Act.put, List.getElem_toArray, List.getElem_cons_succ, List.getElem_cons_zero, List.setIfInBounds_toArray, List.set_cons_zero, List.set_cons_succ]
      refine wpAnyH_done (by kernel_rfl) ?_ _
      refine NoPanic.normal ?_
      have Hh9 := Lib.hid hHeld
      clear hHeld hbb hsl4 hcm
      go_wp2_with fail
      go_ret2
      exact ⟨rfl, Hh9.out⟩
    · have heq : Cr.four (Cr.sum held) = (s.data.toList.drop Q).take 4 := by
        have h := Hcmp.out
        rw [HFl.out, HXl.out] at h
        exact HcH.out.1 (by simpa using h)
      rw [if_neg (by simpa using heq), show pairV (held, 0) = .tuple #[.string H, .int .i64 0] by rw [← HH.out]]
      clear heq
      go_enter Tryd.func39, Tryd.ntmps39
      go_wp2_with fail
      refine Hrd.out.mono ?_
      rintro e' w1 ⟨rfl, rfl⟩
      unfold three
      go_wp2_with fail
      refine (Hun.out _).mono ?_
      rintro e' w7 ⟨rfl, hb7⟩
      have Hh := Lib.hid hb7
      clear hb7
      go_wp2_with fail
      refine wp_region_noPanic ?_
      refine wp_region_held_drew (S := fun w' => Below w.heap.size w w') (by kernel_rfl) (Hh.out.drew) (fun hHeld => ?_)
      generalize w7.drew = w8 at *
      have hsl4 := Hsl3.out
      refine wpAnyH_take (i := 0) (v := .int .i64 1) rfl (by kernel_rfl) (by kernel_rfl) (by kernel_rfl) (fun _ _ _ h => h) (Or.inl ⟨by rfl, fun w' hSw => by go_simp⟩) hHeld ?_
      try simp only [Act.put, List.getElem_toArray, List.getElem_cons_succ, List.getElem_cons_zero, List.setIfInBounds_toArray, List.set_cons_zero, List.set_cons_succ]
      refine wpAnyH_take (i := 1) (v := .string H) rfl (by kernel_rfl) (by kernel_rfl) (by kernel_rfl) (fun _ _ _ h => h) (Or.inl ⟨by rfl, fun w' hSw => by go_simp⟩) hHeld ?_
      try simp only [Act.put, List.getElem_toArray, List.getElem_cons_succ, List.getElem_cons_zero, List.setIfInBounds_toArray, List.set_cons_zero, List.set_cons_succ]
      refine wpAnyH_take (i := 3) (v := .string s) rfl (by kernel_rfl) (by kernel_rfl) (by kernel_rfl) (fun _ _ _ h => h) (Or.inl ⟨by rfl, fun w' hSw => by go_simp⟩) hHeld ?_
      try simp only [Act.put, List.getElem_toArray, List.getElem_cons_succ, List.getElem_cons_zero, List.setIfInBounds_toArray, List.set_cons_zero, List.set_cons_succ]
      refine wpAnyH_take (i := 4) (v := .int .i64 (Q : Int)) rfl (by kernel_rfl) (by kernel_rfl) (by kernel_rfl) (fun _ _ _ h => h) (Or.inl ⟨by rfl, fun w' hSw => by go_simp⟩) hHeld ?_
      try simp only [Act.put, List.getElem_toArray, List.getElem_cons_succ, List.getElem_cons_zero, List.setIfInBounds_toArray, List.set_cons_zero, List.set_cons_succ]
      refine wpAnyH_take (i := 5) (v := .int .i64 (Q4 : Int)) rfl (by kernel_rfl) (by kernel_rfl) (by kernel_rfl) (fun _ _ _ h => h) (Or.inl ⟨by rfl, fun w' hSw => by go_simp⟩) hHeld ?_
      try simp only [Act.put, List.getElem_toArray, List.getElem_cons_succ, List.getElem_cons_zero, List.setIfInBounds_toArray, List.set_cons_zero, List.set_cons_succ]
      refine wpAnyH_take (i := 6) (v := .string X) rfl (by kernel_rfl) (by kernel_rfl) (by kernel_rfl) (fun _ _ _ h => h) (Or.inl ⟨by rfl, fun w' hSw => by go_simp⟩) hHeld ?_
      try simp only [Act.put, List.getElem_toArray, List.getElem_cons_succ, List.getElem_cons_zero, List.setIfInBounds_toArray, List.set_cons_zero, List.set_cons_succ]
      refine wpAnyH_ready (rs := [2]) (by kernel_rfl) (by simp) (AllReadyH.cons rfl (fun K1 hK1 => ?_) AllReadyH.nil)
      try simp only [Act.put, List.getElem_toArray, List.getElem_cons_succ, List.getElem_cons_zero, List.setIfInBounds_toArray, List.set_cons_zero, List.set_cons_succ]
      go_simp
      refine Calls.mono (Hhd.out _) ?_
      rintro e w9 ⟨rfl, hbb⟩
      refine hK1.out _ _ (hHeld.trans (hbb.mono hHeld.size)) (fun hHeld => ?_)
      clear hK1 K1
      try simp only [Act.put, List.getElem_toArray, List.getElem_cons_succ, List.getElem_cons_zero, List.setIfInBounds_toArray, List.set_cons_zero, List.set_cons_succ]
      have hcm := Hcmp.out
      refine wpAnyH_take (i := 7) (v := .bool false) rfl (by kernel_rfl) (by kernel_rfl) (by kernel_rfl) (fun _ _ _ h => h) (Or.inl ⟨by rfl, fun w' hSw => by go_simp⟩) hHeld ?_
      try simp only [Act.put, List.getElem_toArray, List.getElem_cons_succ, List.getElem_cons_zero, List.setIfInBounds_toArray, List.set_cons_zero, List.set_cons_succ]
      refine wpAnyH_done (by kernel_rfl) ?_ _
      refine NoPanic.normal ?_
      have Hh9 := Lib.hid hHeld
      clear hHeld hbb hsl4 hcm
      go_wp2_with fail
      go_ret2
      exact ⟨rfl, Hh9.out⟩
  · have hck : (c.toNat : Int) = 2 := by omega
    clear hk
    have hb3 := Hb2.out
    unfold Cr.back at hb3
    rw [if_neg (by omega), if_pos rfl] at hb3
    have hun := fun w : World => winRun_any T N w (by omega) (by omega)
    rw [hb3] at hun
    have hun2 : ∀ w : World, Calls Tryd.prog 73 #[.string T, .int .i64 (N : Int)] w fun e w' => e = .returned (.tuple #[.string H, .int .i64 e2]) ∧ Below w.heap.size w w' := by
      intro w; rw [← HH.out]; exact hun w
    have Hun := Lib.hid hun2
    clear hun hun2 hb3
    by_cases he2 : e2 ≠ 0
    · rw [if_pos he2]
      have hz : (e2 == 0) = false := by simpa using he2
      go_enter Tryd.func39, Tryd.ntmps39
      go_wp2_with fail
      refine Hrd.out.mono ?_
      rintro e' w1 ⟨rfl, rfl⟩
      unfold three
      go_wp2_with fail
      refine (Hun.out _).mono ?_
      rintro e' w7 ⟨rfl, hb7⟩
      have Hh := Lib.hid hb7
      clear hb7
      go_wp2_with fail
      go_ret2
      exact ⟨rfl, Hh.out⟩
    rw [if_neg he2]
    have he20 : e2 = 0 := by simpa using he2
    subst he20
    clear he2
    rw [← hHz]
    by_cases hln : (H.size : Int) ≠ (N : Int)
    · rw [if_pos hln]
      have hz : ((H.size : Int) == (N : Int)) = false := by simpa using hln
      have hz' : decide (H.size = N) = false := by simp only [decide_eq_false_iff_not]; omega
      clear hHz
      go_enter Tryd.func39, Tryd.ntmps39
      go_wp2_with fail
      refine Hrd.out.mono ?_
      rintro e' w1 ⟨rfl, rfl⟩
      unfold three
      go_wp2_with fail
      refine (Hun.out _).mono ?_
      rintro e' w7 ⟨rfl, hb7⟩
      have Hh := Lib.hid hb7
      clear hb7
      go_wp2_with fail
      go_ret2
      exact ⟨rfl, Hh.out⟩
    rw [if_neg hln]
    have hHN : H.size = N := by omega
    have hcH := HcmpH.out (by omega)
    have hhd := fun w : World => head_any 2 H w (by omega) (by omega)
    rw [HHl.out] at hhd
    obtain ⟨hl2, hhl2⟩ : ∃ hl2, Cr.head 2 held = hl2 := ⟨_, rfl⟩
    rw [hhl2] at hhd hcH
    obtain ⟨FB, hFB⟩ : ∃ FB : ByteArray, (⟨hl2.toArray⟩ : ByteArray) = FB := ⟨_, rfl⟩
    have hFl : FB.toList = hl2 := by rw [← hFB, ByteArray.toList_mk]
    have hhd2 : ∀ w : World, Calls Tryd.prog 21 #[.int .i64 2, .string H] w fun e w' => e = .returned (.string FB) ∧ Below w.heap.size w w' := by
      intro w; rw [← hFB]; exact hhd w
    obtain ⟨cmp, hcmp⟩ : ∃ cmp, (FB.toList == X.toList) = cmp := ⟨_, rfl⟩
    have Hhd := Lib.hid hhd2
    have Hcmp := Lib.hid hcmp
    have HFl := Lib.hid hFl
    have HcH := Lib.hid hcH
    have hz : ((H.size : Int) == (N : Int)) = true := by simp only [beq_iff_eq]; omega
    have hz' : decide (H.size = N) = true := by simp only [decide_eq_true_eq]; omega
    clear hhd hhd2 hFl hFB hhl2 hln hHz hHN hcmp hcH
    rcases cmp with _ | _
    · have hne : ¬ Cr.four (Cr.sum held) = (s.data.toList.drop Q).take 4 := by
        intro e
        have h := Hcmp.out
        rw [HFl.out, HXl.out, HcH.out.2 e] at h
        simp at h
      rw [if_pos hne]
      clear hne
      go_enter Tryd.func39, Tryd.ntmps39
      go_wp2_with fail
      refine Hrd.out.mono ?_
      rintro e' w1 ⟨rfl, rfl⟩
      unfold three
      go_wp2_with fail
      refine (Hun.out _).mono ?_
      rintro e' w7 ⟨rfl, hb7⟩
      have Hh := Lib.hid hb7
      clear hb7
      go_wp2_with fail
      refine wp_region_noPanic ?_
      refine wp_region_held_drew (S := fun w' => Below w.heap.size w w') (by kernel_rfl) (Hh.out.drew) (fun hHeld => ?_)
      generalize w7.drew = w8 at *
      have hsl4 := Hsl3.out
      refine wpAnyH_take (i := 0) (v := .int .i64 2) rfl (by kernel_rfl) (by kernel_rfl) (by kernel_rfl) (fun _ _ _ h => h) (Or.inl ⟨by rfl, fun w' hSw => by go_simp⟩) hHeld ?_
      try simp only [Act.put, List.getElem_toArray, List.getElem_cons_succ, List.getElem_cons_zero, List.setIfInBounds_toArray, List.set_cons_zero, List.set_cons_succ]
      refine wpAnyH_take (i := 1) (v := .string H) rfl (by kernel_rfl) (by kernel_rfl) (by kernel_rfl) (fun _ _ _ h => h) (Or.inl ⟨by rfl, fun w' hSw => by go_simp⟩) hHeld ?_
      try simp only [Act.put, List.getElem_toArray, List.getElem_cons_succ, List.getElem_cons_zero, List.setIfInBounds_toArray, List.set_cons_zero, List.set_cons_succ]
      refine wpAnyH_take (i := 3) (v := .string s) rfl (by kernel_rfl) (by kernel_rfl) (by kernel_rfl) (fun _ _ _ h => h) (Or.inl ⟨by rfl, fun w' hSw => by go_simp⟩) hHeld ?_
      try simp only [Act.put, List.getElem_toArray, List.getElem_cons_succ, List.getElem_cons_zero, List.setIfInBounds_toArray, List.set_cons_zero, List.set_cons_succ]
      refine wpAnyH_take (i := 4) (v := .int .i64 (Q : Int)) rfl (by kernel_rfl) (by kernel_rfl) (by kernel_rfl) (fun _ _ _ h => h) (Or.inl ⟨by rfl, fun w' hSw => by go_simp⟩) hHeld ?_
      try simp only [Act.put, List.getElem_toArray, List.getElem_cons_succ, List.getElem_cons_zero, List.setIfInBounds_toArray, List.set_cons_zero, List.set_cons_succ]
      refine wpAnyH_take (i := 5) (v := .int .i64 (Q4 : Int)) rfl (by kernel_rfl) (by kernel_rfl) (by kernel_rfl) (fun _ _ _ h => h) (Or.inl ⟨by rfl, fun w' hSw => by go_simp⟩) hHeld ?_
      try simp only [Act.put, List.getElem_toArray, List.getElem_cons_succ, List.getElem_cons_zero, List.setIfInBounds_toArray, List.set_cons_zero, List.set_cons_succ]
      refine wpAnyH_take (i := 6) (v := .string X) rfl (by kernel_rfl) (by kernel_rfl) (by kernel_rfl) (fun _ _ _ h => h) (Or.inl ⟨by rfl, fun w' hSw => by go_simp⟩) hHeld ?_
      try simp only [Act.put, List.getElem_toArray, List.getElem_cons_succ, List.getElem_cons_zero, List.setIfInBounds_toArray, List.set_cons_zero, List.set_cons_succ]
      refine wpAnyH_ready (rs := [2]) (by kernel_rfl) (by simp) (AllReadyH.cons rfl (fun K1 hK1 => ?_) AllReadyH.nil)
      try simp only [Act.put, List.getElem_toArray, List.getElem_cons_succ, List.getElem_cons_zero, List.setIfInBounds_toArray, List.set_cons_zero, List.set_cons_succ]
      go_simp
      refine Calls.mono (Hhd.out _) ?_
      rintro e w9 ⟨rfl, hbb⟩
      refine hK1.out _ _ (hHeld.trans (hbb.mono hHeld.size)) (fun hHeld => ?_)
      clear hK1 K1
      try simp only [Act.put, List.getElem_toArray, List.getElem_cons_succ, List.getElem_cons_zero, List.setIfInBounds_toArray, List.set_cons_zero, List.set_cons_succ]
      have hcm := Hcmp.out
      refine wpAnyH_take (i := 7) (v := .bool true) rfl (by kernel_rfl) (by kernel_rfl) (by kernel_rfl) (fun _ _ _ h => h) (Or.inl ⟨by rfl, fun w' hSw => by go_simp⟩) hHeld ?_
      try simp only [Act.put, List.getElem_toArray, List.getElem_cons_succ, List.getElem_cons_zero, List.setIfInBounds_toArray, List.set_cons_zero, List.set_cons_succ]
      refine wpAnyH_done (by kernel_rfl) ?_ _
      refine NoPanic.normal ?_
      have Hh9 := Lib.hid hHeld
      clear hHeld hbb hsl4 hcm
      go_wp2_with fail
      go_ret2
      exact ⟨rfl, Hh9.out⟩
    · have heq : Cr.four (Cr.sum held) = (s.data.toList.drop Q).take 4 := by
        have h := Hcmp.out
        rw [HFl.out, HXl.out] at h
        exact HcH.out.1 (by simpa using h)
      rw [if_neg (by simpa using heq), show pairV (held, 0) = .tuple #[.string H, .int .i64 0] by rw [← HH.out]]
      clear heq
      go_enter Tryd.func39, Tryd.ntmps39
      go_wp2_with fail
      refine Hrd.out.mono ?_
      rintro e' w1 ⟨rfl, rfl⟩
      unfold three
      go_wp2_with fail
      refine (Hun.out _).mono ?_
      rintro e' w7 ⟨rfl, hb7⟩
      have Hh := Lib.hid hb7
      clear hb7
      go_wp2_with fail
      refine wp_region_noPanic ?_
      refine wp_region_held_drew (S := fun w' => Below w.heap.size w w') (by kernel_rfl) (Hh.out.drew) (fun hHeld => ?_)
      generalize w7.drew = w8 at *
      have hsl4 := Hsl3.out
      refine wpAnyH_take (i := 0) (v := .int .i64 2) rfl (by kernel_rfl) (by kernel_rfl) (by kernel_rfl) (fun _ _ _ h => h) (Or.inl ⟨by rfl, fun w' hSw => by go_simp⟩) hHeld ?_
      try simp only [Act.put, List.getElem_toArray, List.getElem_cons_succ, List.getElem_cons_zero, List.setIfInBounds_toArray, List.set_cons_zero, List.set_cons_succ]
      refine wpAnyH_take (i := 1) (v := .string H) rfl (by kernel_rfl) (by kernel_rfl) (by kernel_rfl) (fun _ _ _ h => h) (Or.inl ⟨by rfl, fun w' hSw => by go_simp⟩) hHeld ?_
      try simp only [Act.put, List.getElem_toArray, List.getElem_cons_succ, List.getElem_cons_zero, List.setIfInBounds_toArray, List.set_cons_zero, List.set_cons_succ]
      refine wpAnyH_take (i := 3) (v := .string s) rfl (by kernel_rfl) (by kernel_rfl) (by kernel_rfl) (fun _ _ _ h => h) (Or.inl ⟨by rfl, fun w' hSw => by go_simp⟩) hHeld ?_
      try simp only [Act.put, List.getElem_toArray, List.getElem_cons_succ, List.getElem_cons_zero, List.setIfInBounds_toArray, List.set_cons_zero, List.set_cons_succ]
      refine wpAnyH_take (i := 4) (v := .int .i64 (Q : Int)) rfl (by kernel_rfl) (by kernel_rfl) (by kernel_rfl) (fun _ _ _ h => h) (Or.inl ⟨by rfl, fun w' hSw => by go_simp⟩) hHeld ?_
      try simp only [Act.put, List.getElem_toArray, List.getElem_cons_succ, List.getElem_cons_zero, List.setIfInBounds_toArray, List.set_cons_zero, List.set_cons_succ]
      refine wpAnyH_take (i := 5) (v := .int .i64 (Q4 : Int)) rfl (by kernel_rfl) (by kernel_rfl) (by kernel_rfl) (fun _ _ _ h => h) (Or.inl ⟨by rfl, fun w' hSw => by go_simp⟩) hHeld ?_
      try simp only [Act.put, List.getElem_toArray, List.getElem_cons_succ, List.getElem_cons_zero, List.setIfInBounds_toArray, List.set_cons_zero, List.set_cons_succ]
      refine wpAnyH_take (i := 6) (v := .string X) rfl (by kernel_rfl) (by kernel_rfl) (by kernel_rfl) (fun _ _ _ h => h) (Or.inl ⟨by rfl, fun w' hSw => by go_simp⟩) hHeld ?_
      try simp only [Act.put, List.getElem_toArray, List.getElem_cons_succ, List.getElem_cons_zero, List.setIfInBounds_toArray, List.set_cons_zero, List.set_cons_succ]
      refine wpAnyH_ready (rs := [2]) (by kernel_rfl) (by simp) (AllReadyH.cons rfl (fun K1 hK1 => ?_) AllReadyH.nil)
      try simp only [Act.put, List.getElem_toArray, List.getElem_cons_succ, List.getElem_cons_zero, List.setIfInBounds_toArray, List.set_cons_zero, List.set_cons_succ]
      go_simp
      refine Calls.mono (Hhd.out _) ?_
      rintro e w9 ⟨rfl, hbb⟩
      refine hK1.out _ _ (hHeld.trans (hbb.mono hHeld.size)) (fun hHeld => ?_)
      clear hK1 K1
      try simp only [Act.put, List.getElem_toArray, List.getElem_cons_succ, List.getElem_cons_zero, List.setIfInBounds_toArray, List.set_cons_zero, List.set_cons_succ]
      have hcm := Hcmp.out
      refine wpAnyH_take (i := 7) (v := .bool false) rfl (by kernel_rfl) (by kernel_rfl) (by kernel_rfl) (fun _ _ _ h => h) (Or.inl ⟨by rfl, fun w' hSw => by go_simp⟩) hHeld ?_
      try simp only [Act.put, List.getElem_toArray, List.getElem_cons_succ, List.getElem_cons_zero, List.setIfInBounds_toArray, List.set_cons_zero, List.set_cons_succ]
      refine wpAnyH_done (by kernel_rfl) ?_ _
      refine NoPanic.normal ?_
      have Hh9 := Lib.hid hHeld
      clear hHeld hbb hsl4 hcm
      go_wp2_with fail
      go_ret2
      exact ⟨rfl, Hh9.out⟩
  · have hck : (c.toNat : Int) = 3 := by omega
    clear hk
    have hb3 := Hb2.out
    unfold Cr.back at hb3
    rw [if_neg (by omega), if_neg (by omega), if_pos rfl] at hb3
    have hul := Win.unpack_len (l := T.data.toList) (m := 33068)
    have huna := fun w : World => winRun_any T 33068 w (by omega) (by omega)
    have e33 : ((33068 : Nat) : Int) = 33068 := rfl
    rw [e33] at hul
    simp only [e33] at huna
    obtain ⟨⟨inner, e1⟩, hX⟩ : ∃ X, Win.unpack T.data.toList 33068 = X := ⟨_, rfl⟩
    rw [hX] at hul hb3
    simp only [hX] at huna
    clear hX
    obtain ⟨J, hJ⟩ : ∃ J : ByteArray, (⟨inner.toArray⟩ : ByteArray) = J := ⟨_, rfl⟩
    have hJl : J.data.toList = inner := by rw [← hJ]
    have huna2 : ∀ w : World, Calls Tryd.prog 73 #[.string T, .int .i64 33068] w fun e w' => e = .returned (.tuple #[.string J, .int .i64 e1]) ∧ Below w.heap.size w w' := by
      intro w; rw [← hJ]; exact huna w
    have Huna := Lib.hid huna2
    have hJz : J.size = inner.length := by rw [← hJ]; rfl
    clear huna huna2 hJ
    by_cases he1 : e1 ≠ 0
    · rw [if_pos he1] at hb3
      injection hb3 with hh1 hh2
      subst hh2
      rw [if_pos he1]
      have hz : (e1 == 0) = false := by simpa using he1
      go_enter Tryd.func39, Tryd.ntmps39
      go_wp2_with fail
      refine Hrd.out.mono ?_
      rintro e' w1 ⟨rfl, rfl⟩
      unfold three
      go_wp2_with fail
      refine (Huna.out _).mono ?_
      rintro e' w6 ⟨rfl, hb6⟩
      have Hh6 := Lib.hid hb6
      clear hb6
      go_wp2_with fail
      go_ret2
      exact ⟨rfl, Hh6.out⟩
    rw [if_neg he1] at hb3
    have he10 : e1 = 0 := by simpa using he1
    subst he10
    have hJs : J.size ≤ 33068 := by rw [hJz]; exact hul rfl
    have hun := fun w : World => runRun_any J N w (by omega) (by omega)
    rw [hJl] at hun
    rw [hb3] at hun
    have hun2 : ∀ w : World, Calls Tryd.prog 74 #[.string J, .int .i64 (N : Int)] w fun e w' => e = .returned (.tuple #[.string H, .int .i64 e2]) ∧ Below w.heap.size w w' := by
      intro w; rw [← HH.out]; exact hun w
    have Hun := Lib.hid hun2
    clear hun hun2 hb3 he1 hul hJl hJz
    by_cases he2 : e2 ≠ 0
    · rw [if_pos he2]
      have hz : (e2 == 0) = false := by simpa using he2
      go_enter Tryd.func39, Tryd.ntmps39
      go_wp2_with fail
      refine Hrd.out.mono ?_
      rintro e' w1 ⟨rfl, rfl⟩
      unfold three
      go_wp2_with fail
      refine (Huna.out _).mono ?_
      rintro e' w6 ⟨rfl, hb6⟩
      have Hh6 := Lib.hid hb6
      clear hb6
      go_wp2_with fail
      refine (Hun.out _).mono ?_
      rintro e' w7 ⟨rfl, hb7⟩
      have Hh := Lib.hid (Hh6.out.trans (hb7.mono Hh6.out.size))
      clear hb7
      go_wp2_with fail
      go_ret2
      exact ⟨rfl, Hh.out⟩
    rw [if_neg he2]
    have he20 : e2 = 0 := by simpa using he2
    subst he20
    clear he2
    rw [← hHz]
    by_cases hln : (H.size : Int) ≠ (N : Int)
    · rw [if_pos hln]
      have hz : ((H.size : Int) == (N : Int)) = false := by simpa using hln
      have hz' : decide (H.size = N) = false := by simp only [decide_eq_false_iff_not]; omega
      clear hHz
      go_enter Tryd.func39, Tryd.ntmps39
      go_wp2_with fail
      refine Hrd.out.mono ?_
      rintro e' w1 ⟨rfl, rfl⟩
      unfold three
      go_wp2_with fail
      refine (Huna.out _).mono ?_
      rintro e' w6 ⟨rfl, hb6⟩
      have Hh6 := Lib.hid hb6
      clear hb6
      go_wp2_with fail
      refine (Hun.out _).mono ?_
      rintro e' w7 ⟨rfl, hb7⟩
      have Hh := Lib.hid (Hh6.out.trans (hb7.mono Hh6.out.size))
      clear hb7
      go_wp2_with fail
      go_ret2
      exact ⟨rfl, Hh.out⟩
    rw [if_neg hln]
    have hHN : H.size = N := by omega
    have hcH := HcmpH.out (by omega)
    have hhd := fun w : World => head_any 3 H w (by omega) (by omega)
    rw [HHl.out] at hhd
    obtain ⟨hl2, hhl2⟩ : ∃ hl2, Cr.head 3 held = hl2 := ⟨_, rfl⟩
    rw [hhl2] at hhd hcH
    obtain ⟨FB, hFB⟩ : ∃ FB : ByteArray, (⟨hl2.toArray⟩ : ByteArray) = FB := ⟨_, rfl⟩
    have hFl : FB.toList = hl2 := by rw [← hFB, ByteArray.toList_mk]
    have hhd2 : ∀ w : World, Calls Tryd.prog 21 #[.int .i64 3, .string H] w fun e w' => e = .returned (.string FB) ∧ Below w.heap.size w w' := by
      intro w; rw [← hFB]; exact hhd w
    obtain ⟨cmp, hcmp⟩ : ∃ cmp, (FB.toList == X.toList) = cmp := ⟨_, rfl⟩
    have Hhd := Lib.hid hhd2
    have Hcmp := Lib.hid hcmp
    have HFl := Lib.hid hFl
    have HcH := Lib.hid hcH
    have hz : ((H.size : Int) == (N : Int)) = true := by simp only [beq_iff_eq]; omega
    have hz' : decide (H.size = N) = true := by simp only [decide_eq_true_eq]; omega
    clear hhd hhd2 hFl hFB hhl2 hln hHz hHN hcmp hcH
    rcases cmp with _ | _
    · have hne : ¬ Cr.four (Cr.sum held) = (s.data.toList.drop Q).take 4 := by
        intro e
        have h := Hcmp.out
        rw [HFl.out, HXl.out, HcH.out.2 e] at h
        simp at h
      rw [if_pos hne]
      clear hne
      go_enter Tryd.func39, Tryd.ntmps39
      go_wp2_with fail
      refine Hrd.out.mono ?_
      rintro e' w1 ⟨rfl, rfl⟩
      unfold three
      go_wp2_with fail
      refine (Huna.out _).mono ?_
      rintro e' w6 ⟨rfl, hb6⟩
      have Hh6 := Lib.hid hb6
      clear hb6
      go_wp2_with fail
      refine (Hun.out _).mono ?_
      rintro e' w7 ⟨rfl, hb7⟩
      have Hh := Lib.hid (Hh6.out.trans (hb7.mono Hh6.out.size))
      clear hb7
      go_wp2_with fail
      refine wp_region_noPanic ?_
      refine wp_region_held_drew (S := fun w' => Below w.heap.size w w') (by kernel_rfl) (Hh.out.drew) (fun hHeld => ?_)
      generalize w7.drew = w8 at *
      have hsl4 := Hsl3.out
      refine wpAnyH_take (i := 0) (v := .int .i64 3) rfl (by kernel_rfl) (by kernel_rfl) (by kernel_rfl) (fun _ _ _ h => h) (Or.inl ⟨by rfl, fun w' hSw => by go_simp⟩) hHeld ?_
      try simp only [Act.put, List.getElem_toArray, List.getElem_cons_succ, List.getElem_cons_zero, List.setIfInBounds_toArray, List.set_cons_zero, List.set_cons_succ]
      refine wpAnyH_take (i := 1) (v := .string H) rfl (by kernel_rfl) (by kernel_rfl) (by kernel_rfl) (fun _ _ _ h => h) (Or.inl ⟨by rfl, fun w' hSw => by go_simp⟩) hHeld ?_
      try simp only [Act.put, List.getElem_toArray, List.getElem_cons_succ, List.getElem_cons_zero, List.setIfInBounds_toArray, List.set_cons_zero, List.set_cons_succ]
      refine wpAnyH_take (i := 3) (v := .string s) rfl (by kernel_rfl) (by kernel_rfl) (by kernel_rfl) (fun _ _ _ h => h) (Or.inl ⟨by rfl, fun w' hSw => by go_simp⟩) hHeld ?_
      try simp only [Act.put, List.getElem_toArray, List.getElem_cons_succ, List.getElem_cons_zero, List.setIfInBounds_toArray, List.set_cons_zero, List.set_cons_succ]
      refine wpAnyH_take (i := 4) (v := .int .i64 (Q : Int)) rfl (by kernel_rfl) (by kernel_rfl) (by kernel_rfl) (fun _ _ _ h => h) (Or.inl ⟨by rfl, fun w' hSw => by go_simp⟩) hHeld ?_
      try simp only [Act.put, List.getElem_toArray, List.getElem_cons_succ, List.getElem_cons_zero, List.setIfInBounds_toArray, List.set_cons_zero, List.set_cons_succ]
      refine wpAnyH_take (i := 5) (v := .int .i64 (Q4 : Int)) rfl (by kernel_rfl) (by kernel_rfl) (by kernel_rfl) (fun _ _ _ h => h) (Or.inl ⟨by rfl, fun w' hSw => by go_simp⟩) hHeld ?_
      try simp only [Act.put, List.getElem_toArray, List.getElem_cons_succ, List.getElem_cons_zero, List.setIfInBounds_toArray, List.set_cons_zero, List.set_cons_succ]
      refine wpAnyH_take (i := 6) (v := .string X) rfl (by kernel_rfl) (by kernel_rfl) (by kernel_rfl) (fun _ _ _ h => h) (Or.inl ⟨by rfl, fun w' hSw => by go_simp⟩) hHeld ?_
      try simp only [Act.put, List.getElem_toArray, List.getElem_cons_succ, List.getElem_cons_zero, List.setIfInBounds_toArray, List.set_cons_zero, List.set_cons_succ]
      refine wpAnyH_ready (rs := [2]) (by kernel_rfl) (by simp) (AllReadyH.cons rfl (fun K1 hK1 => ?_) AllReadyH.nil)
      try simp only [Act.put, List.getElem_toArray, List.getElem_cons_succ, List.getElem_cons_zero, List.setIfInBounds_toArray, List.set_cons_zero, List.set_cons_succ]
      go_simp
      refine Calls.mono (Hhd.out _) ?_
      rintro e w9 ⟨rfl, hbb⟩
      refine hK1.out _ _ (hHeld.trans (hbb.mono hHeld.size)) (fun hHeld => ?_)
      clear hK1 K1
      try simp only [Act.put, List.getElem_toArray, List.getElem_cons_succ, List.getElem_cons_zero, List.setIfInBounds_toArray, List.set_cons_zero, List.set_cons_succ]
      have hcm := Hcmp.out
      refine wpAnyH_take (i := 7) (v := .bool true) rfl (by kernel_rfl) (by kernel_rfl) (by kernel_rfl) (fun _ _ _ h => h) (Or.inl ⟨by rfl, fun w' hSw => by go_simp⟩) hHeld ?_
      try simp only [Act.put, List.getElem_toArray, List.getElem_cons_succ, List.getElem_cons_zero, List.setIfInBounds_toArray, List.set_cons_zero, List.set_cons_succ]
      refine wpAnyH_done (by kernel_rfl) ?_ _
      refine NoPanic.normal ?_
      have Hh9 := Lib.hid hHeld
      clear hHeld hbb hsl4 hcm
      go_wp2_with fail
      go_ret2
      exact ⟨rfl, Hh9.out⟩
    · have heq : Cr.four (Cr.sum held) = (s.data.toList.drop Q).take 4 := by
        have h := Hcmp.out
        rw [HFl.out, HXl.out] at h
        exact HcH.out.1 (by simpa using h)
      rw [if_neg (by simpa using heq), show pairV (held, 0) = .tuple #[.string H, .int .i64 0] by rw [← HH.out]]
      clear heq
      go_enter Tryd.func39, Tryd.ntmps39
      go_wp2_with fail
      refine Hrd.out.mono ?_
      rintro e' w1 ⟨rfl, rfl⟩
      unfold three
      go_wp2_with fail
      refine (Huna.out _).mono ?_
      rintro e' w6 ⟨rfl, hb6⟩
      have Hh6 := Lib.hid hb6
      clear hb6
      go_wp2_with fail
      refine (Hun.out _).mono ?_
      rintro e' w7 ⟨rfl, hb7⟩
      have Hh := Lib.hid (Hh6.out.trans (hb7.mono Hh6.out.size))
      clear hb7
      go_wp2_with fail
      refine wp_region_noPanic ?_
      refine wp_region_held_drew (S := fun w' => Below w.heap.size w w') (by kernel_rfl) (Hh.out.drew) (fun hHeld => ?_)
      generalize w7.drew = w8 at *
      have hsl4 := Hsl3.out
      refine wpAnyH_take (i := 0) (v := .int .i64 3) rfl (by kernel_rfl) (by kernel_rfl) (by kernel_rfl) (fun _ _ _ h => h) (Or.inl ⟨by rfl, fun w' hSw => by go_simp⟩) hHeld ?_
      try simp only [Act.put, List.getElem_toArray, List.getElem_cons_succ, List.getElem_cons_zero, List.setIfInBounds_toArray, List.set_cons_zero, List.set_cons_succ]
      refine wpAnyH_take (i := 1) (v := .string H) rfl (by kernel_rfl) (by kernel_rfl) (by kernel_rfl) (fun _ _ _ h => h) (Or.inl ⟨by rfl, fun w' hSw => by go_simp⟩) hHeld ?_
      try simp only [Act.put, List.getElem_toArray, List.getElem_cons_succ, List.getElem_cons_zero, List.setIfInBounds_toArray, List.set_cons_zero, List.set_cons_succ]
      refine wpAnyH_take (i := 3) (v := .string s) rfl (by kernel_rfl) (by kernel_rfl) (by kernel_rfl) (fun _ _ _ h => h) (Or.inl ⟨by rfl, fun w' hSw => by go_simp⟩) hHeld ?_
      try simp only [Act.put, List.getElem_toArray, List.getElem_cons_succ, List.getElem_cons_zero, List.setIfInBounds_toArray, List.set_cons_zero, List.set_cons_succ]
      refine wpAnyH_take (i := 4) (v := .int .i64 (Q : Int)) rfl (by kernel_rfl) (by kernel_rfl) (by kernel_rfl) (fun _ _ _ h => h) (Or.inl ⟨by rfl, fun w' hSw => by go_simp⟩) hHeld ?_
      try simp only [Act.put, List.getElem_toArray, List.getElem_cons_succ, List.getElem_cons_zero, List.setIfInBounds_toArray, List.set_cons_zero, List.set_cons_succ]
      refine wpAnyH_take (i := 5) (v := .int .i64 (Q4 : Int)) rfl (by kernel_rfl) (by kernel_rfl) (by kernel_rfl) (fun _ _ _ h => h) (Or.inl ⟨by rfl, fun w' hSw => by go_simp⟩) hHeld ?_
      try simp only [Act.put, List.getElem_toArray, List.getElem_cons_succ, List.getElem_cons_zero, List.setIfInBounds_toArray, List.set_cons_zero, List.set_cons_succ]
      refine wpAnyH_take (i := 6) (v := .string X) rfl (by kernel_rfl) (by kernel_rfl) (by kernel_rfl) (fun _ _ _ h => h) (Or.inl ⟨by rfl, fun w' hSw => by go_simp⟩) hHeld ?_
      try simp only [Act.put, List.getElem_toArray, List.getElem_cons_succ, List.getElem_cons_zero, List.setIfInBounds_toArray, List.set_cons_zero, List.set_cons_succ]
      refine wpAnyH_ready (rs := [2]) (by kernel_rfl) (by simp) (AllReadyH.cons rfl (fun K1 hK1 => ?_) AllReadyH.nil)
      try simp only [Act.put, List.getElem_toArray, List.getElem_cons_succ, List.getElem_cons_zero, List.setIfInBounds_toArray, List.set_cons_zero, List.set_cons_succ]
      go_simp
      refine Calls.mono (Hhd.out _) ?_
      rintro e w9 ⟨rfl, hbb⟩
      refine hK1.out _ _ (hHeld.trans (hbb.mono hHeld.size)) (fun hHeld => ?_)
      clear hK1 K1
      try simp only [Act.put, List.getElem_toArray, List.getElem_cons_succ, List.getElem_cons_zero, List.setIfInBounds_toArray, List.set_cons_zero, List.set_cons_succ]
      have hcm := Hcmp.out
      refine wpAnyH_take (i := 7) (v := .bool false) rfl (by kernel_rfl) (by kernel_rfl) (by kernel_rfl) (fun _ _ _ h => h) (Or.inl ⟨by rfl, fun w' hSw => by go_simp⟩) hHeld ?_
      try simp only [Act.put, List.getElem_toArray, List.getElem_cons_succ, List.getElem_cons_zero, List.setIfInBounds_toArray, List.set_cons_zero, List.set_cons_succ]
      refine wpAnyH_done (by kernel_rfl) ?_ _
      refine NoPanic.normal ?_
      have Hh9 := Lib.hid hHeld
      clear hHeld hbb hsl4 hcm
      go_wp2_with fail
      go_ret2
      exact ⟨rfl, Hh9.out⟩
theorem crRopen_any (s : ByteArray) (most : Int) (w : World) (hs : s.size ≤ 140737488351232) :
    Calls Tryd.prog 39 #[.string s, .int .i64 most] w fun e w' => e = .returned (pairV (Cr.opened s.data.toList most)) ∧ Below w.heap.size w w' := by
  by_cases hm : most < 0
  · exact crRopen_neg s most w hm
  · by_cases h0 : 0 < s.size
    · exact crRopen_some s most w hm hs h0
    · have e : s = ⟨#[]⟩ := by
        obtain ⟨⟨l⟩⟩ := s
        have : l.length = 0 := Nat.eq_zero_of_not_pos h0
        rw [List.eq_nil_of_length_eq_zero this]
      subst e
      exact crRopen_nil most w hm
end Go.Proofs.YtinciddchpccnaaDoor
