/- What later texts need of the earlier layers. -/
import Derived.Test.YtinciddchpccnaaDoorBxO
import Derived.Test.YtinciddchpccnaaDoorBxS
import Derived.Test.YtinciddchpccnaaDoorBxT
import Derived.Test.YtinciddchpccnaaDoorBxC
import Derived.Test.YtinciddchpccnaaDoorBxA
import Derived.Test.YtinciddchpccnaaDoorWinMath
import Derived.Test.YtinciddchpccnaaDoorWinNum
import Derived.Test.YtinciddchpccnaaDoorWinSame
import Derived.Test.YtinciddchpccnaaDoorOwnApp
import Derived.Test.YtinciddchpccnaaDoorWinOwn
import Derived.Test.YtinciddchpccnaaDoorWinOwn8
import Derived.Test.YtinciddchpccnaaDoorWinKey
import Derived.Test.YtinciddchpccnaaDoorWinPack
import Derived.Test.YtinciddchpccnaaDoorWinUn
import Derived.Test.YtinciddchpccnaaDoorWinAgain
import Derived.Test.YtinciddchpccnaaDoorWinUp
import Derived.Test.YtinciddchpccnaaDoorWinFour
import Derived.Test.YtinciddchpccnaaDoorWinML
import Derived.Test.YtinciddchpccnaaDoorWinKnown
import Derived.Test.YtinciddchpccnaaDoorWinCP
import Derived.Test.YtinciddchpccnaaDoorWinFar
import Derived.Test.YtinciddchpccnaaDoorWinLong
import Derived.Test.YtinciddchpccnaaDoorWinRup
import Derived.Test.YtinciddchpccnaaDoorWinNew
import Derived.Test.YtinciddchpccnaaDoorWinStr
import Derived.Test.YtinciddchpccnaaDoorWinST
import Derived.Test.YtinciddchpccnaaDoorWinBest
import Derived.Test.YtinciddchpccnaaDoorWinRpk
import Derived.Test.YtinciddchpccnaaDoorWinPk
import Derived.Test.YtinciddchpccnaaDoorRunsMath
import Derived.Test.YtinciddchpccnaaDoorRunsNum
import Derived.Test.YtinciddchpccnaaDoorRunsES
import Derived.Test.YtinciddchpccnaaDoorRunsPut
import Derived.Test.YtinciddchpccnaaDoorRunsPk
import Derived.Test.YtinciddchpccnaaDoorRunsRR
import Derived.Test.YtinciddchpccnaaDoorWinThere
import Derived.Test.YtinciddchpccnaaDoorCrMath
import Derived.Test.YtinciddchpccnaaDoorCrSH
import Derived.Test.YtinciddchpccnaaDoorCrPack
import Derived.Test.YtinciddchpccnaaDoorCrRB
import Derived.Test.YtinciddchpccnaaDoorRunsUU
import Derived.Test.YtinciddchpccnaaDoorRunsR3
import Derived.Deep.RegionHeld3
import Derived.Deep.RegionWith
import Derived.Laws.MakeOwn
import Derived.Lib.BufferWrite
import Derived.Laws.CopyOwn
import Derived.Laws.BytesArg
set_option maxRecDepth 100000
/- ---- CrOpen ---- -/
/- crate.Open: what it returns. -/
namespace Go.Proofs.YtinciddchpccnaaDoor
open Go.RowKit
set_option linter.unusedVariables false
set_option linter.unusedSimpArgs false

theorem Cr.opened_at {l r held : List UInt8} {most n q e e2 : Int} {c : UInt8} (hl : l = c :: r) (hm : ¬ most < 0) (hn : Oct.rdNum l 1 = (n, q, e)) (hb : Cr.back c.toNat (l.drop (q + 4).toNat) n = (held, e2)) :
    Cr.opened l most = if 4 ≤ c.toNat then ([], 6) else if e ≠ 0 then ([], e) else if most < n ∨ 32768 < n then ([], 3) else if (l.length : Int) - q < 4 then ([], 5) else
      if e2 ≠ 0 then ([], e2) else if (held.length : Int) ≠ n then ([], 6) else if Cr.four (Cr.sum held) ≠ (l.drop q.toNat).take 4 then ([], 7) else (held, 0) := by
  unfold Cr.opened
  subst hl
  simp only
  rw [if_neg hm, hn]
  simp only
  rw [hb]
theorem crOpen_neg (s : ByteArray) (most : Int) (w : World) (h : most < 0) :
    Calls Tryd.prog 34 #[.string s, .int .i64 most] w fun e w' => e = .returned (pairV (Cr.opened s.data.toList most)) ∧ Below w.heap.size w w' := by
  have ho : Cr.opened s.data.toList most = ([], 2) := by unfold Cr.opened; rw [if_pos h]
  have hd : decide (most < 0) = true := by simpa using h
  rw [ho]
  go_enter Tryd.func34, Tryd.ntmps34
  go_wp2_with fail
  go_ret2
  exact ⟨rfl, Below.refl _ _⟩
theorem crOpen_nil (most : Int) (w : World) (h : ¬ most < 0) :
    Calls Tryd.prog 34 #[.string ⟨#[]⟩, .int .i64 most] w fun e w' => e = .returned (pairV (Cr.opened [] most)) ∧ Below w.heap.size w w' := by
  have ho : Cr.opened [] most = ([], 5) := by unfold Cr.opened; rw [if_neg h]
  have hd : decide (most < 0) = false := by simpa using h
  rw [ho]
  go_enter Tryd.func34, Tryd.ntmps34
  go_wp2_with fail
  go_ret2
  exact ⟨rfl, Below.refl _ _⟩
set_option maxHeartbeats 1600000 in
theorem crOpen_some (s : ByteArray) (most : Int) (w : World) (hm : ¬ most < 0) (hs : s.size ≤ 140737488351232) (h0 : 0 < s.size) :
    Calls Tryd.prog 34 #[.string s, .int .i64 most] w fun e w' => e = .returned (pairV (Cr.opened s.data.toList most)) ∧ Below w.heap.size w w' := by
  have hd : decide (most < 0) = false := by simpa using hm
  have hlen : s.data.toList.length = s.size := rfl
  have h0' : (0 : Int) < s.size := by omega
  obtain ⟨r, hl⟩ : ∃ r, s.data.toList = s[0] :: r := ⟨_, by have := List.drop_eq_getElem_cons (l := s.data.toList) (i := 0) (by rw [hlen]; exact h0); rw [List.drop_zero] at this; exact this⟩
  obtain ⟨c, hc⟩ : ∃ c, s[0] = c := ⟨_, rfl⟩
  rw [hc] at hl
  have hc8 := c.toNat_lt
  have he1 : s.toList.isEmpty = false := by rw [ByteArray.toList_eq, hl]; rfl
  obtain ⟨⟨n, q, e⟩, hn⟩ : ∃ X, Oct.rdNum s.data.toList 1 = X := ⟨_, rfl⟩
  obtain ⟨⟨held, e2⟩, hb⟩ : ∃ X, Cr.back c.toNat (s.data.toList.drop (q + 4).toNat) n = X := ⟨_, rfl⟩
  have hop := Cr.opened_at hl hm hn hb
  rw [hop]
  have hrd := readNumber_any s 1 w (by omega)
  unfold rdNumV at hrd
  rw [hn] at hrd
  have hok := Oct.rdNum_ok hn
  rw [hlen] at hok
  have Hl := Lib.hid hl
  have Hb := Lib.hid hb
  have Hrd := Lib.hid hrd
  have Hlen := Lib.hid hlen
  have Hhop := Lib.hid hop
  clear hl hb hrd hlen hop hn
  by_cases h4 : 4 ≤ c.toNat
  · rw [if_pos h4]
    have d4 : decide ((4 : Int) ≤ (c.toNat : Int)) = true := by simp only [decide_eq_true_eq]; omega
    have d4' : decide (4 ≤ c.toNat) = true := by simp only [decide_eq_true_eq]; omega
    go_enter Tryd.func34, Tryd.ntmps34
    go_wp2_with fail
    go_ret2
    exact ⟨rfl, Below.refl _ _⟩
  rw [if_neg h4]
  have d4 : decide ((4 : Int) ≤ (c.toNat : Int)) = false := by simp only [decide_eq_false_iff_not]; omega
  have d4' : decide (4 ≤ c.toNat) = false := by simp only [decide_eq_false_iff_not]; omega
  by_cases he : e ≠ 0
  · rw [if_pos he]
    have hz : (e == 0) = false := by simpa using he
    clear hok
    go_enter Tryd.func34, Tryd.ntmps34
    go_wp2_with fail
    refine Hrd.out.mono ?_
    rintro e' w1 ⟨rfl, rfl⟩
    unfold three
    go_wp2_with fail
    go_ret2
    exact ⟨rfl, Below.refl _ _⟩
  rw [if_neg he]
  have he0 : e = 0 := by simpa using he
  subst he0
  clear he
  obtain ⟨_, _, hn0, hn1, hq0, hq1, _⟩ : (0 : Int) = 0 ∧ 0 ≤ (1 : Int) ∧ 0 ≤ n ∧ n < 2 ^ 63 ∧ 1 < q ∧ q ≤ s.size ∧ True := by
    rcases hok with hok | hok
    · exact absurd rfl hok.1
    · exact ⟨hok.1, by omega, hok.2.2.1, hok.2.2.2.1, hok.2.2.2.2.1, hok.2.2.2.2.2.1, trivial⟩
  clear hok
  obtain ⟨N, rfl⟩ : ∃ N : Nat, n = (N : Int) := ⟨n.toNat, by omega⟩
  obtain ⟨Q, rfl⟩ : ∃ Q : Nat, q = (Q : Int) := ⟨q.toNat, by omega⟩
  by_cases hbig : most < (N : Int) ∨ 32768 < (N : Int)
  · rw [if_pos hbig]
    by_cases hb1 : most < (N : Int)
    · have d5 : decide (most < (N : Int)) = true := by simpa using hb1
      clear hbig
      go_enter Tryd.func34, Tryd.ntmps34
      go_wp2_with fail
      refine Hrd.out.mono ?_
      rintro e' w1 ⟨rfl, rfl⟩
      unfold three
      go_wp2_with fail
      go_ret2
      exact ⟨rfl, Below.refl _ _⟩
    · have d5 : decide (most < (N : Int)) = false := by simpa using hb1
      have hb2 : 32768 < N := by omega
      have d6 : decide ((32768 : Int) < (N : Int)) = true := by simp only [decide_eq_true_eq]; omega
      have d6' : decide (32768 < N) = true := by simp only [decide_eq_true_eq]; omega
      clear hbig
      go_enter Tryd.func34, Tryd.ntmps34
      go_wp2_with fail
      refine Hrd.out.mono ?_
      rintro e' w1 ⟨rfl, rfl⟩
      unfold three
      go_wp2_with fail
      go_ret2
      exact ⟨rfl, Below.refl _ _⟩
  rw [if_neg hbig]
  have hN : N ≤ 32768 := by omega
  have hb1 : ¬ most < (N : Int) := by omega
  have d5 : decide (most < (N : Int)) = false := by simpa using hb1
  have d6 : decide ((32768 : Int) < (N : Int)) = false := by simp only [decide_eq_false_iff_not]; omega
  have d6' : decide (32768 < N) = false := by simp only [decide_eq_false_iff_not]; omega
  clear hbig hb1 hn1
  rw [Hlen.out]
  by_cases hsh : (s.size : Int) - (Q : Int) < 4
  · rw [if_pos hsh]
    have d7 : decide ((s.size : Int) - (Q : Int) < 4) = true := by simpa using hsh
    go_enter Tryd.func34, Tryd.ntmps34
    go_wp2_with fail
    refine Hrd.out.mono ?_
    rintro e' w1 ⟨rfl, rfl⟩
    unfold three
    go_wp2_with fail
    go_ret2
    exact ⟨rfl, Below.refl _ _⟩
  rw [if_neg hsh]
  have d7 : decide ((s.size : Int) - (Q : Int) < 4) = false := by simpa using hsh
  obtain ⟨Q4, hQ4⟩ : ∃ Q4, Q + 4 = Q4 := ⟨_, rfl⟩
  have eQ4 : (Q : Int) + 4 = (Q4 : Int) := by omega
  have hQ4s : Q4 ≤ s.size := by omega
  have wc : IntKind.i64.wrap (c.toNat : Int) = (c.toNat : Int) := IntWalk.i64_in _ (by omega)
  have wq : IntKind.i64.wrap (Q4 : Int) = (Q4 : Int) := IntWalk.i64_in _ (by omega)
  obtain ⟨T, hT⟩ : ∃ T, s.extract Q4 s.size = T := ⟨_, rfl⟩
  have hTl : T.data.toList = s.data.toList.drop Q4 := by rw [← hT]; exact Rn.drop_str s Q4 hQ4s
  have hTz : T.size ≤ s.size := by rw [← hT, Rn.drop_size s Q4 hQ4s]; omega
  have hsl : ∀ W : World, (Instr.slice 9 (.string s) (some (.int .i64 (Q4 : Int))) none none).run Tryd.prog W = .ok (.string T) W := by
    intro W
    have h := run_slice_string_l (P := Tryd.prog) (w := W) (t := 9) (s := s) Tryd.underlying9 .i64 (Q4 : Int) (by omega) (by omega)
    rw [Int.toNat_natCast, hT] at h
    exact h
  have hun := fun w : World => crUnpack_any c.toNat T N w (by omega) (by omega) hN
  rw [hTl] at hun
  have hb2 := Hb.out
  rw [eQ4, Int.toNat_natCast] at hb2
  rw [hb2] at hun
  have hsl2 : ∀ W : World, (Instr.slice 9 (.string s) (some (.int .i64 (Q : Int))) (some (.int .i64 (Q4 : Int))) none).run Tryd.prog W = .ok (S ((s.data.toList.drop Q).take 4)) W := by
    intro W
    have h := cut_run (P := Tryd.prog) 9 (by kernel_rfl) s Q 4 (by omega) W
    rw [show ((Q : Int) + ((4 : Nat) : Int)) = (Q4 : Int) from eQ4] at h
    exact h
  have htn : (Q : Int).toNat = Q := Int.toNat_natCast Q
  rw [htn]
  obtain ⟨xl, hxl⟩ : ∃ xl, (s.data.toList.drop Q).take 4 = xl := ⟨_, rfl⟩
  rw [hxl] at hsl2 ⊢
  obtain ⟨X, hX⟩ : ∃ X : ByteArray, (⟨xl.toArray⟩ : ByteArray) = X := ⟨_, rfl⟩
  have hXl : X.toList = xl := by rw [← hX, ByteArray.toList_mk]
  have hsl3 : ∀ W : World, (Instr.slice 9 (.string s) (some (.int .i64 (Q : Int))) (some (.int .i64 (Q4 : Int))) none).run Tryd.prog W = .ok (.string X) W := by
    intro W; rw [← hX]; exact hsl2 W
  obtain ⟨H, hH⟩ : ∃ H : ByteArray, (⟨held.toArray⟩ : ByteArray) = H := ⟨_, rfl⟩
  have hHz : H.size = held.length := by rw [← hH]; rfl
  have hHl : H.data.toList = held := by rw [← hH]
  have hun2 : ∀ w : World, Calls Tryd.prog 69 #[.int .i64 (c.toNat : Int), .string T, .int .i64 (N : Int)] w fun e w' => e = .returned (.tuple #[.string H, .int .i64 e2]) ∧ Below w.heap.size w w' := by
    intro w; rw [← hH]; exact hun w
  have Hun := Lib.hid hun2
  have Hsl3 := Lib.hid hsl3
  have HHl := Lib.hid hHl
  have HXl := Lib.hid hXl
  have HH := Lib.hid hH
  clear hun hun2 hsl2 hsl3 hHl hXl hH hX hxl hT hTl hQ4 hb2 Hb Hhop htn Hl
  by_cases he2 : e2 ≠ 0
  · rw [if_pos he2]
    have hz : (e2 == 0) = false := by simpa using he2
    go_enter Tryd.func34, Tryd.ntmps34
    go_wp2_with fail
    refine Hrd.out.mono ?_
    rintro e' w1 ⟨rfl, rfl⟩
    unfold three
    go_wp2_with fail
    refine wp_region_noPanic ?_
    refine wp_region_held_drew (S := fun w' => Below w.heap.size w w') (by kernel_rfl) ((Below.refl _ _).drew) (fun hHeld => ?_)
    generalize w.drew = w6 at *
    refine wpAnyH_take (i := 0) (v := .string s) rfl (by kernel_rfl) (by kernel_rfl) (by kernel_rfl) (fun _ _ _ h => h) (Or.inl ⟨by rfl, fun w' hSw => by go_simp⟩) hHeld ?_
    try simp only [Act.put, List.getElem_toArray, List.getElem_cons_succ, List.getElem_cons_zero, List.setIfInBounds_toArray, List.set_cons_zero, List.set_cons_succ]
    refine wpAnyH_take (i := 1) (v := .int .u8 (c.toNat : Int)) rfl (by kernel_rfl) (by kernel_rfl) (by kernel_rfl) (fun _ _ _ h => h) (Or.inl ⟨by rfl, fun w' hSw => by go_simp⟩) hHeld ?_
    try simp only [Act.put, List.getElem_toArray, List.getElem_cons_succ, List.getElem_cons_zero, List.setIfInBounds_toArray, List.set_cons_zero, List.set_cons_succ]
    refine wpAnyH_take (i := 2) (v := .int .i64 (c.toNat : Int)) rfl (by kernel_rfl) (by kernel_rfl) (by kernel_rfl) (fun _ _ _ h => h) (Or.inl ⟨by rfl, fun w' hSw => by go_simp⟩) hHeld ?_
    try simp only [Act.put, List.getElem_toArray, List.getElem_cons_succ, List.getElem_cons_zero, List.setIfInBounds_toArray, List.set_cons_zero, List.set_cons_succ]
    refine wpAnyH_take (i := 3) (v := .string s) rfl (by kernel_rfl) (by kernel_rfl) (by kernel_rfl) (fun _ _ _ h => h) (Or.inl ⟨by rfl, fun w' hSw => by go_simp⟩) hHeld ?_
    try simp only [Act.put, List.getElem_toArray, List.getElem_cons_succ, List.getElem_cons_zero, List.setIfInBounds_toArray, List.set_cons_zero, List.set_cons_succ]
    refine wpAnyH_take (i := 4) (v := .int .i64 (Q : Int)) rfl (by kernel_rfl) (by kernel_rfl) (by kernel_rfl) (fun _ _ _ h => h) (Or.inl ⟨by rfl, fun w' hSw => by go_simp⟩) hHeld ?_
    try simp only [Act.put, List.getElem_toArray, List.getElem_cons_succ, List.getElem_cons_zero, List.setIfInBounds_toArray, List.set_cons_zero, List.set_cons_succ]
    refine wpAnyH_take (i := 5) (v := .int .i64 (Q4 : Int)) rfl (by kernel_rfl) (by kernel_rfl) (by kernel_rfl) (fun _ _ _ h => h) (Or.inl ⟨by rfl, fun w' hSw => by go_simp⟩) hHeld ?_
    try simp only [Act.put, List.getElem_toArray, List.getElem_cons_succ, List.getElem_cons_zero, List.setIfInBounds_toArray, List.set_cons_zero, List.set_cons_succ]
    refine wpAnyH_take (i := 6) (v := .string T) rfl (by kernel_rfl) (by kernel_rfl) (by kernel_rfl) (fun _ _ _ h => h) (Or.inl ⟨by rfl, fun w' hSw => by go_simp⟩) hHeld ?_
    try simp only [Act.put, List.getElem_toArray, List.getElem_cons_succ, List.getElem_cons_zero, List.setIfInBounds_toArray, List.set_cons_zero, List.set_cons_succ]
    refine wpAnyH_take (i := 7) (v := .int .i64 (N : Int)) rfl (by kernel_rfl) (by kernel_rfl) (by kernel_rfl) (fun _ _ _ h => h) (Or.inl ⟨by rfl, fun w' hSw => by go_simp⟩) hHeld ?_
    try simp only [Act.put, List.getElem_toArray, List.getElem_cons_succ, List.getElem_cons_zero, List.setIfInBounds_toArray, List.set_cons_zero, List.set_cons_succ]
    refine wpAnyH_ready (rs := [8]) (by kernel_rfl) (by simp) (AllReadyH.cons rfl (fun K1 hK1 => ?_) AllReadyH.nil)
    try simp only [Act.put, List.getElem_toArray, List.getElem_cons_succ, List.getElem_cons_zero, List.setIfInBounds_toArray, List.set_cons_zero, List.set_cons_succ]
    go_simp
    refine Calls.mono (Hun.out _) ?_
    rintro e w7 ⟨rfl, hbb⟩
    refine hK1.out _ _ (hHeld.trans (hbb.mono hHeld.size)) (fun hHeld => ?_)
    clear hK1 K1
    try simp only [Act.put, List.getElem_toArray, List.getElem_cons_succ, List.getElem_cons_zero, List.setIfInBounds_toArray, List.set_cons_zero, List.set_cons_succ]
    refine wpAnyH_take (i := 9) (v := .tuple #[.string H, .int .i64 e2]) rfl (by kernel_rfl) (by kernel_rfl) (by kernel_rfl) (fun _ _ _ h => h) (Or.inl ⟨by rfl, fun w' hSw => by go_simp⟩) hHeld ?_
    try simp only [Act.put, List.getElem_toArray, List.getElem_cons_succ, List.getElem_cons_zero, List.setIfInBounds_toArray, List.set_cons_zero, List.set_cons_succ]
    refine wpAnyH_take (i := 10) (v := .string H) rfl (by kernel_rfl) (by kernel_rfl) (by kernel_rfl) (fun _ _ _ h => h) (Or.inl ⟨by rfl, fun w' hSw => by go_simp⟩) hHeld ?_
    try simp only [Act.put, List.getElem_toArray, List.getElem_cons_succ, List.getElem_cons_zero, List.setIfInBounds_toArray, List.set_cons_zero, List.set_cons_succ]
    refine wpAnyH_take (i := 11) (v := .int .i64 e2) rfl (by kernel_rfl) (by kernel_rfl) (by kernel_rfl) (fun _ _ _ h => h) (Or.inl ⟨by rfl, fun w' hSw => by go_simp⟩) hHeld ?_
    try simp only [Act.put, List.getElem_toArray, List.getElem_cons_succ, List.getElem_cons_zero, List.setIfInBounds_toArray, List.set_cons_zero, List.set_cons_succ]
    refine wpAnyH_take (i := 12) (v := .string H) rfl (by kernel_rfl) (by kernel_rfl) (by kernel_rfl) (fun _ _ _ h => h) (Or.inl ⟨by rfl, fun w' hSw => by go_simp⟩) hHeld ?_
    try simp only [Act.put, List.getElem_toArray, List.getElem_cons_succ, List.getElem_cons_zero, List.setIfInBounds_toArray, List.set_cons_zero, List.set_cons_succ]
    refine wpAnyH_take (i := 13) (v := .int .i64 e2) rfl (by kernel_rfl) (by kernel_rfl) (by kernel_rfl) (fun _ _ _ h => h) (Or.inl ⟨by rfl, fun w' hSw => by go_simp⟩) hHeld ?_
    try simp only [Act.put, List.getElem_toArray, List.getElem_cons_succ, List.getElem_cons_zero, List.setIfInBounds_toArray, List.set_cons_zero, List.set_cons_succ]
    refine wpAnyH_done (by kernel_rfl) ?_ _
    refine NoPanic.normal ?_
    have Hh := Lib.hid hHeld
    clear hHeld hbb hsl
    go_wp2_with fail
    go_ret2
    exact ⟨rfl, Hh.out⟩
  rw [if_neg he2]
  have he20 : e2 = 0 := by simpa using he2
  subst he20
  clear he2
  rw [← hHz]
  by_cases hln : (H.size : Int) ≠ (N : Int)
  · rw [if_pos hln]
    have hz : ((H.size : Int) == (N : Int)) = false := by simpa using hln
    have hz' : decide (H.size = N) = false := by simp only [decide_eq_false_iff_not]; omega
    clear hHz
    go_enter Tryd.func34, Tryd.ntmps34
    go_wp2_with fail
    refine Hrd.out.mono ?_
    rintro e' w1 ⟨rfl, rfl⟩
    unfold three
    go_wp2_with fail
    refine wp_region_noPanic ?_
    refine wp_region_held_drew (S := fun w' => Below w.heap.size w w') (by kernel_rfl) ((Below.refl _ _).drew) (fun hHeld => ?_)
    generalize w.drew = w6 at *
    refine wpAnyH_take (i := 0) (v := .string s) rfl (by kernel_rfl) (by kernel_rfl) (by kernel_rfl) (fun _ _ _ h => h) (Or.inl ⟨by rfl, fun w' hSw => by go_simp⟩) hHeld ?_
    try simp only [Act.put, List.getElem_toArray, List.getElem_cons_succ, List.getElem_cons_zero, List.setIfInBounds_toArray, List.set_cons_zero, List.set_cons_succ]
    refine wpAnyH_take (i := 1) (v := .int .u8 (c.toNat : Int)) rfl (by kernel_rfl) (by kernel_rfl) (by kernel_rfl) (fun _ _ _ h => h) (Or.inl ⟨by rfl, fun w' hSw => by go_simp⟩) hHeld ?_
    try simp only [Act.put, List.getElem_toArray, List.getElem_cons_succ, List.getElem_cons_zero, List.setIfInBounds_toArray, List.set_cons_zero, List.set_cons_succ]
    refine wpAnyH_take (i := 2) (v := .int .i64 (c.toNat : Int)) rfl (by kernel_rfl) (by kernel_rfl) (by kernel_rfl) (fun _ _ _ h => h) (Or.inl ⟨by rfl, fun w' hSw => by go_simp⟩) hHeld ?_
    try simp only [Act.put, List.getElem_toArray, List.getElem_cons_succ, List.getElem_cons_zero, List.setIfInBounds_toArray, List.set_cons_zero, List.set_cons_succ]
    refine wpAnyH_take (i := 3) (v := .string s) rfl (by kernel_rfl) (by kernel_rfl) (by kernel_rfl) (fun _ _ _ h => h) (Or.inl ⟨by rfl, fun w' hSw => by go_simp⟩) hHeld ?_
    try simp only [Act.put, List.getElem_toArray, List.getElem_cons_succ, List.getElem_cons_zero, List.setIfInBounds_toArray, List.set_cons_zero, List.set_cons_succ]
    refine wpAnyH_take (i := 4) (v := .int .i64 (Q : Int)) rfl (by kernel_rfl) (by kernel_rfl) (by kernel_rfl) (fun _ _ _ h => h) (Or.inl ⟨by rfl, fun w' hSw => by go_simp⟩) hHeld ?_
    try simp only [Act.put, List.getElem_toArray, List.getElem_cons_succ, List.getElem_cons_zero, List.setIfInBounds_toArray, List.set_cons_zero, List.set_cons_succ]
    refine wpAnyH_take (i := 5) (v := .int .i64 (Q4 : Int)) rfl (by kernel_rfl) (by kernel_rfl) (by kernel_rfl) (fun _ _ _ h => h) (Or.inl ⟨by rfl, fun w' hSw => by go_simp⟩) hHeld ?_
    try simp only [Act.put, List.getElem_toArray, List.getElem_cons_succ, List.getElem_cons_zero, List.setIfInBounds_toArray, List.set_cons_zero, List.set_cons_succ]
    refine wpAnyH_take (i := 6) (v := .string T) rfl (by kernel_rfl) (by kernel_rfl) (by kernel_rfl) (fun _ _ _ h => h) (Or.inl ⟨by rfl, fun w' hSw => by go_simp⟩) hHeld ?_
    try simp only [Act.put, List.getElem_toArray, List.getElem_cons_succ, List.getElem_cons_zero, List.setIfInBounds_toArray, List.set_cons_zero, List.set_cons_succ]
    refine wpAnyH_take (i := 7) (v := .int .i64 (N : Int)) rfl (by kernel_rfl) (by kernel_rfl) (by kernel_rfl) (fun _ _ _ h => h) (Or.inl ⟨by rfl, fun w' hSw => by go_simp⟩) hHeld ?_
    try simp only [Act.put, List.getElem_toArray, List.getElem_cons_succ, List.getElem_cons_zero, List.setIfInBounds_toArray, List.set_cons_zero, List.set_cons_succ]
    refine wpAnyH_ready (rs := [8]) (by kernel_rfl) (by simp) (AllReadyH.cons rfl (fun K1 hK1 => ?_) AllReadyH.nil)
    try simp only [Act.put, List.getElem_toArray, List.getElem_cons_succ, List.getElem_cons_zero, List.setIfInBounds_toArray, List.set_cons_zero, List.set_cons_succ]
    go_simp
    refine Calls.mono (Hun.out _) ?_
    rintro e w7 ⟨rfl, hbb⟩
    refine hK1.out _ _ (hHeld.trans (hbb.mono hHeld.size)) (fun hHeld => ?_)
    clear hK1 K1
    try simp only [Act.put, List.getElem_toArray, List.getElem_cons_succ, List.getElem_cons_zero, List.setIfInBounds_toArray, List.set_cons_zero, List.set_cons_succ]
    refine wpAnyH_take (i := 9) (v := .tuple #[.string H, .int .i64 0]) rfl (by kernel_rfl) (by kernel_rfl) (by kernel_rfl) (fun _ _ _ h => h) (Or.inl ⟨by rfl, fun w' hSw => by go_simp⟩) hHeld ?_
    try simp only [Act.put, List.getElem_toArray, List.getElem_cons_succ, List.getElem_cons_zero, List.setIfInBounds_toArray, List.set_cons_zero, List.set_cons_succ]
    refine wpAnyH_take (i := 10) (v := .string H) rfl (by kernel_rfl) (by kernel_rfl) (by kernel_rfl) (fun _ _ _ h => h) (Or.inl ⟨by rfl, fun w' hSw => by go_simp⟩) hHeld ?_
    try simp only [Act.put, List.getElem_toArray, List.getElem_cons_succ, List.getElem_cons_zero, List.setIfInBounds_toArray, List.set_cons_zero, List.set_cons_succ]
    refine wpAnyH_take (i := 11) (v := .int .i64 0) rfl (by kernel_rfl) (by kernel_rfl) (by kernel_rfl) (fun _ _ _ h => h) (Or.inl ⟨by rfl, fun w' hSw => by go_simp⟩) hHeld ?_
    try simp only [Act.put, List.getElem_toArray, List.getElem_cons_succ, List.getElem_cons_zero, List.setIfInBounds_toArray, List.set_cons_zero, List.set_cons_succ]
    refine wpAnyH_take (i := 12) (v := .string H) rfl (by kernel_rfl) (by kernel_rfl) (by kernel_rfl) (fun _ _ _ h => h) (Or.inl ⟨by rfl, fun w' hSw => by go_simp⟩) hHeld ?_
    try simp only [Act.put, List.getElem_toArray, List.getElem_cons_succ, List.getElem_cons_zero, List.setIfInBounds_toArray, List.set_cons_zero, List.set_cons_succ]
    refine wpAnyH_take (i := 13) (v := .int .i64 0) rfl (by kernel_rfl) (by kernel_rfl) (by kernel_rfl) (fun _ _ _ h => h) (Or.inl ⟨by rfl, fun w' hSw => by go_simp⟩) hHeld ?_
    try simp only [Act.put, List.getElem_toArray, List.getElem_cons_succ, List.getElem_cons_zero, List.setIfInBounds_toArray, List.set_cons_zero, List.set_cons_succ]
    refine wpAnyH_done (by kernel_rfl) ?_ _
    refine NoPanic.normal ?_
    have Hh := Lib.hid hHeld
    clear hHeld hbb hsl
    go_wp2_with fail
    go_ret2
    exact ⟨rfl, Hh.out⟩
  rw [if_neg hln]
  have hHN : H.size = N := by omega
  have hsb := fun w : World => sumBytes_any H w (by omega)
  rw [HHl.out] at hsb
  obtain ⟨fl, hfl⟩ : ∃ fl, Cr.four (Cr.sum held) = fl := ⟨_, rfl⟩
  rw [hfl] at hsb ⊢
  obtain ⟨FB, hFB⟩ : ∃ FB : ByteArray, (⟨fl.toArray⟩ : ByteArray) = FB := ⟨_, rfl⟩
  have hFl : FB.toList = fl := by rw [← hFB, ByteArray.toList_mk]
  have hsb2 : ∀ w : World, Calls Tryd.prog 60 #[.string H] w fun e w' => e = .returned (.string FB) ∧ Below w.heap.size w w' := by
    intro w; rw [← hFB]; exact hsb w
  obtain ⟨cmp, hcmp⟩ : ∃ cmp, (FB.toList == X.toList) = cmp := ⟨_, rfl⟩
  have Hsb := Lib.hid hsb2
  have Hcmp := Lib.hid hcmp
  have HFl := Lib.hid hFl
  have hz : ((H.size : Int) == (N : Int)) = true := by simp only [beq_iff_eq]; omega
  have hz' : decide (H.size = N) = true := by simp only [decide_eq_true_eq]; omega
  have HHN := Lib.hid hHN
  clear hsb hsb2 hFl hFB hfl hln hHz hHN hcmp
  rcases cmp with _ | _
  · have hne : fl ≠ xl := by
      intro e
      have h := Hcmp.out
      rw [HFl.out, HXl.out, e] at h
      simp at h
    rw [if_pos hne]
    clear hne
    go_enter Tryd.func34, Tryd.ntmps34
    go_wp2_with fail
    refine Hrd.out.mono ?_
    rintro e' w1 ⟨rfl, rfl⟩
    unfold three
    go_wp2_with fail
    refine wp_region_noPanic ?_
    refine wp_region_held_drew (S := fun w' => Below w.heap.size w w') (by kernel_rfl) ((Below.refl _ _).drew) (fun hHeld => ?_)
    generalize w.drew = w6 at *
    refine wpAnyH_take (i := 0) (v := .string s) rfl (by kernel_rfl) (by kernel_rfl) (by kernel_rfl) (fun _ _ _ h => h) (Or.inl ⟨by rfl, fun w' hSw => by go_simp⟩) hHeld ?_
    try simp only [Act.put, List.getElem_toArray, List.getElem_cons_succ, List.getElem_cons_zero, List.setIfInBounds_toArray, List.set_cons_zero, List.set_cons_succ]
    refine wpAnyH_take (i := 1) (v := .int .u8 (c.toNat : Int)) rfl (by kernel_rfl) (by kernel_rfl) (by kernel_rfl) (fun _ _ _ h => h) (Or.inl ⟨by rfl, fun w' hSw => by go_simp⟩) hHeld ?_
    try simp only [Act.put, List.getElem_toArray, List.getElem_cons_succ, List.getElem_cons_zero, List.setIfInBounds_toArray, List.set_cons_zero, List.set_cons_succ]
    refine wpAnyH_take (i := 2) (v := .int .i64 (c.toNat : Int)) rfl (by kernel_rfl) (by kernel_rfl) (by kernel_rfl) (fun _ _ _ h => h) (Or.inl ⟨by rfl, fun w' hSw => by go_simp⟩) hHeld ?_
    try simp only [Act.put, List.getElem_toArray, List.getElem_cons_succ, List.getElem_cons_zero, List.setIfInBounds_toArray, List.set_cons_zero, List.set_cons_succ]
    refine wpAnyH_take (i := 3) (v := .string s) rfl (by kernel_rfl) (by kernel_rfl) (by kernel_rfl) (fun _ _ _ h => h) (Or.inl ⟨by rfl, fun w' hSw => by go_simp⟩) hHeld ?_
    try simp only [Act.put, List.getElem_toArray, List.getElem_cons_succ, List.getElem_cons_zero, List.setIfInBounds_toArray, List.set_cons_zero, List.set_cons_succ]
    refine wpAnyH_take (i := 4) (v := .int .i64 (Q : Int)) rfl (by kernel_rfl) (by kernel_rfl) (by kernel_rfl) (fun _ _ _ h => h) (Or.inl ⟨by rfl, fun w' hSw => by go_simp⟩) hHeld ?_
    try simp only [Act.put, List.getElem_toArray, List.getElem_cons_succ, List.getElem_cons_zero, List.setIfInBounds_toArray, List.set_cons_zero, List.set_cons_succ]
    refine wpAnyH_take (i := 5) (v := .int .i64 (Q4 : Int)) rfl (by kernel_rfl) (by kernel_rfl) (by kernel_rfl) (fun _ _ _ h => h) (Or.inl ⟨by rfl, fun w' hSw => by go_simp⟩) hHeld ?_
    try simp only [Act.put, List.getElem_toArray, List.getElem_cons_succ, List.getElem_cons_zero, List.setIfInBounds_toArray, List.set_cons_zero, List.set_cons_succ]
    refine wpAnyH_take (i := 6) (v := .string T) rfl (by kernel_rfl) (by kernel_rfl) (by kernel_rfl) (fun _ _ _ h => h) (Or.inl ⟨by rfl, fun w' hSw => by go_simp⟩) hHeld ?_
    try simp only [Act.put, List.getElem_toArray, List.getElem_cons_succ, List.getElem_cons_zero, List.setIfInBounds_toArray, List.set_cons_zero, List.set_cons_succ]
    refine wpAnyH_take (i := 7) (v := .int .i64 (N : Int)) rfl (by kernel_rfl) (by kernel_rfl) (by kernel_rfl) (fun _ _ _ h => h) (Or.inl ⟨by rfl, fun w' hSw => by go_simp⟩) hHeld ?_
    try simp only [Act.put, List.getElem_toArray, List.getElem_cons_succ, List.getElem_cons_zero, List.setIfInBounds_toArray, List.set_cons_zero, List.set_cons_succ]
    refine wpAnyH_ready (rs := [8]) (by kernel_rfl) (by simp) (AllReadyH.cons rfl (fun K1 hK1 => ?_) AllReadyH.nil)
    try simp only [Act.put, List.getElem_toArray, List.getElem_cons_succ, List.getElem_cons_zero, List.setIfInBounds_toArray, List.set_cons_zero, List.set_cons_succ]
    go_simp
    refine Calls.mono (Hun.out _) ?_
    rintro e w7 ⟨rfl, hbb⟩
    refine hK1.out _ _ (hHeld.trans (hbb.mono hHeld.size)) (fun hHeld => ?_)
    clear hK1 K1
    try simp only [Act.put, List.getElem_toArray, List.getElem_cons_succ, List.getElem_cons_zero, List.setIfInBounds_toArray, List.set_cons_zero, List.set_cons_succ]
    refine wpAnyH_take (i := 9) (v := .tuple #[.string H, .int .i64 0]) rfl (by kernel_rfl) (by kernel_rfl) (by kernel_rfl) (fun _ _ _ h => h) (Or.inl ⟨by rfl, fun w' hSw => by go_simp⟩) hHeld ?_
    try simp only [Act.put, List.getElem_toArray, List.getElem_cons_succ, List.getElem_cons_zero, List.setIfInBounds_toArray, List.set_cons_zero, List.set_cons_succ]
    refine wpAnyH_take (i := 10) (v := .string H) rfl (by kernel_rfl) (by kernel_rfl) (by kernel_rfl) (fun _ _ _ h => h) (Or.inl ⟨by rfl, fun w' hSw => by go_simp⟩) hHeld ?_
    try simp only [Act.put, List.getElem_toArray, List.getElem_cons_succ, List.getElem_cons_zero, List.setIfInBounds_toArray, List.set_cons_zero, List.set_cons_succ]
    refine wpAnyH_take (i := 11) (v := .int .i64 0) rfl (by kernel_rfl) (by kernel_rfl) (by kernel_rfl) (fun _ _ _ h => h) (Or.inl ⟨by rfl, fun w' hSw => by go_simp⟩) hHeld ?_
    try simp only [Act.put, List.getElem_toArray, List.getElem_cons_succ, List.getElem_cons_zero, List.setIfInBounds_toArray, List.set_cons_zero, List.set_cons_succ]
    refine wpAnyH_take (i := 12) (v := .string H) rfl (by kernel_rfl) (by kernel_rfl) (by kernel_rfl) (fun _ _ _ h => h) (Or.inl ⟨by rfl, fun w' hSw => by go_simp⟩) hHeld ?_
    try simp only [Act.put, List.getElem_toArray, List.getElem_cons_succ, List.getElem_cons_zero, List.setIfInBounds_toArray, List.set_cons_zero, List.set_cons_succ]
    refine wpAnyH_take (i := 13) (v := .int .i64 0) rfl (by kernel_rfl) (by kernel_rfl) (by kernel_rfl) (fun _ _ _ h => h) (Or.inl ⟨by rfl, fun w' hSw => by go_simp⟩) hHeld ?_
    try simp only [Act.put, List.getElem_toArray, List.getElem_cons_succ, List.getElem_cons_zero, List.setIfInBounds_toArray, List.set_cons_zero, List.set_cons_succ]
    refine wpAnyH_done (by kernel_rfl) ?_ _
    refine NoPanic.normal ?_
    have Hh := Lib.hid hHeld
    clear hHeld hbb hsl
    go_wp2_with fail
    refine wp_region_noPanic ?_
    refine wp_region_held_drew (S := fun w' => Below w.heap.size w w') (by kernel_rfl) (Hh.out.drew) (fun hHeld => ?_)
    generalize w7.drew = w8 at *
    have hsl4 := Hsl3.out
    refine wpAnyH_take (i := 0) (v := .string H) rfl (by kernel_rfl) (by kernel_rfl) (by kernel_rfl) (fun _ _ _ h => h) (Or.inl ⟨by rfl, fun w' hSw => by go_simp⟩) hHeld ?_
    try simp only [Act.put, List.getElem_toArray, List.getElem_cons_succ, List.getElem_cons_zero, List.setIfInBounds_toArray, List.set_cons_zero, List.set_cons_succ]
    refine wpAnyH_take (i := 2) (v := .string s) rfl (by kernel_rfl) (by kernel_rfl) (by kernel_rfl) (fun _ _ _ h => h) (Or.inl ⟨by rfl, fun w' hSw => by go_simp⟩) hHeld ?_
    try simp only [Act.put, List.getElem_toArray, List.getElem_cons_succ, List.getElem_cons_zero, List.setIfInBounds_toArray, List.set_cons_zero, List.set_cons_succ]
    refine wpAnyH_take (i := 3) (v := .int .i64 (Q : Int)) rfl (by kernel_rfl) (by kernel_rfl) (by kernel_rfl) (fun _ _ _ h => h) (Or.inl ⟨by rfl, fun w' hSw => by go_simp⟩) hHeld ?_
    try simp only [Act.put, List.getElem_toArray, List.getElem_cons_succ, List.getElem_cons_zero, List.setIfInBounds_toArray, List.set_cons_zero, List.set_cons_succ]
    refine wpAnyH_take (i := 4) (v := .int .i64 (Q : Int)) rfl (by kernel_rfl) (by kernel_rfl) (by kernel_rfl) (fun _ _ _ h => h) (Or.inl ⟨by rfl, fun w' hSw => by go_simp⟩) hHeld ?_
    try simp only [Act.put, List.getElem_toArray, List.getElem_cons_succ, List.getElem_cons_zero, List.setIfInBounds_toArray, List.set_cons_zero, List.set_cons_succ]
    refine wpAnyH_take (i := 5) (v := .int .i64 (Q4 : Int)) rfl (by kernel_rfl) (by kernel_rfl) (by kernel_rfl) (fun _ _ _ h => h) (Or.inl ⟨by rfl, fun w' hSw => by go_simp⟩) hHeld ?_
    try simp only [Act.put, List.getElem_toArray, List.getElem_cons_succ, List.getElem_cons_zero, List.setIfInBounds_toArray, List.set_cons_zero, List.set_cons_succ]
    refine wpAnyH_take (i := 6) (v := .string X) rfl (by kernel_rfl) (by kernel_rfl) (by kernel_rfl) (fun _ _ _ h => h) (Or.inl ⟨by rfl, fun w' hSw => by go_simp⟩) hHeld ?_
    try simp only [Act.put, List.getElem_toArray, List.getElem_cons_succ, List.getElem_cons_zero, List.setIfInBounds_toArray, List.set_cons_zero, List.set_cons_succ]
    refine wpAnyH_ready (rs := [1]) (by kernel_rfl) (by simp) (AllReadyH.cons rfl (fun K1 hK1 => ?_) AllReadyH.nil)
    try simp only [Act.put, List.getElem_toArray, List.getElem_cons_succ, List.getElem_cons_zero, List.setIfInBounds_toArray, List.set_cons_zero, List.set_cons_succ]
    go_simp
    refine Calls.mono (Hsb.out _) ?_
    rintro e w9 ⟨rfl, hbb⟩
    refine hK1.out _ _ (hHeld.trans (hbb.mono hHeld.size)) (fun hHeld => ?_)
    clear hK1 K1
    try simp only [Act.put, List.getElem_toArray, List.getElem_cons_succ, List.getElem_cons_zero, List.setIfInBounds_toArray, List.set_cons_zero, List.set_cons_succ]
    have hcm := Hcmp.out
    refine wpAnyH_take (i := 7) (v := .bool true) rfl (by kernel_rfl) (by kernel_rfl) (by kernel_rfl) (fun _ _ _ h => h) (Or.inl ⟨by rfl, fun w' hSw => by go_simp⟩) hHeld ?_
    try simp only [Act.put, List.getElem_toArray, List.getElem_cons_succ, List.getElem_cons_zero, List.setIfInBounds_toArray, List.set_cons_zero, List.set_cons_succ]
    refine wpAnyH_take (i := 8) (v := .bool true) rfl (by kernel_rfl) (by kernel_rfl) (by kernel_rfl) (fun _ _ _ h => h) (Or.inl ⟨by rfl, fun w' hSw => by go_simp⟩) hHeld ?_
    try simp only [Act.put, List.getElem_toArray, List.getElem_cons_succ, List.getElem_cons_zero, List.setIfInBounds_toArray, List.set_cons_zero, List.set_cons_succ]
    refine wpAnyH_done (by kernel_rfl) ?_ _
    refine NoPanic.normal ?_
    have Hh9 := Lib.hid hHeld
    clear hHeld hbb hsl4 hcm
    go_wp2_with fail
    go_ret2
    exact ⟨rfl, Hh9.out⟩
  · have heq : fl = xl := by
      have h := Hcmp.out
      rw [HFl.out, HXl.out] at h
      simpa using h
    rw [if_neg (by simpa using heq), show pairV (held, 0) = .tuple #[.string H, .int .i64 0] by rw [← HH.out]]
    clear heq
    go_enter Tryd.func34, Tryd.ntmps34
    go_wp2_with fail
    refine Hrd.out.mono ?_
    rintro e' w1 ⟨rfl, rfl⟩
    unfold three
    go_wp2_with fail
    refine wp_region_noPanic ?_
    refine wp_region_held_drew (S := fun w' => Below w.heap.size w w') (by kernel_rfl) ((Below.refl _ _).drew) (fun hHeld => ?_)
    generalize w.drew = w6 at *
    refine wpAnyH_take (i := 0) (v := .string s) rfl (by kernel_rfl) (by kernel_rfl) (by kernel_rfl) (fun _ _ _ h => h) (Or.inl ⟨by rfl, fun w' hSw => by go_simp⟩) hHeld ?_
    try simp only [Act.put, List.getElem_toArray, List.getElem_cons_succ, List.getElem_cons_zero, List.setIfInBounds_toArray, List.set_cons_zero, List.set_cons_succ]
    refine wpAnyH_take (i := 1) (v := .int .u8 (c.toNat : Int)) rfl (by kernel_rfl) (by kernel_rfl) (by kernel_rfl) (fun _ _ _ h => h) (Or.inl ⟨by rfl, fun w' hSw => by go_simp⟩) hHeld ?_
    try simp only [Act.put, List.getElem_toArray, List.getElem_cons_succ, List.getElem_cons_zero, List.setIfInBounds_toArray, List.set_cons_zero, List.set_cons_succ]
    refine wpAnyH_take (i := 2) (v := .int .i64 (c.toNat : Int)) rfl (by kernel_rfl) (by kernel_rfl) (by kernel_rfl) (fun _ _ _ h => h) (Or.inl ⟨by rfl, fun w' hSw => by go_simp⟩) hHeld ?_
    try simp only [Act.put, List.getElem_toArray, List.getElem_cons_succ, List.getElem_cons_zero, List.setIfInBounds_toArray, List.set_cons_zero, List.set_cons_succ]
    refine wpAnyH_take (i := 3) (v := .string s) rfl (by kernel_rfl) (by kernel_rfl) (by kernel_rfl) (fun _ _ _ h => h) (Or.inl ⟨by rfl, fun w' hSw => by go_simp⟩) hHeld ?_
    try simp only [Act.put, List.getElem_toArray, List.getElem_cons_succ, List.getElem_cons_zero, List.setIfInBounds_toArray, List.set_cons_zero, List.set_cons_succ]
    refine wpAnyH_take (i := 4) (v := .int .i64 (Q : Int)) rfl (by kernel_rfl) (by kernel_rfl) (by kernel_rfl) (fun _ _ _ h => h) (Or.inl ⟨by rfl, fun w' hSw => by go_simp⟩) hHeld ?_
    try simp only [Act.put, List.getElem_toArray, List.getElem_cons_succ, List.getElem_cons_zero, List.setIfInBounds_toArray, List.set_cons_zero, List.set_cons_succ]
    refine wpAnyH_take (i := 5) (v := .int .i64 (Q4 : Int)) rfl (by kernel_rfl) (by kernel_rfl) (by kernel_rfl) (fun _ _ _ h => h) (Or.inl ⟨by rfl, fun w' hSw => by go_simp⟩) hHeld ?_
    try simp only [Act.put, List.getElem_toArray, List.getElem_cons_succ, List.getElem_cons_zero, List.setIfInBounds_toArray, List.set_cons_zero, List.set_cons_succ]
    refine wpAnyH_take (i := 6) (v := .string T) rfl (by kernel_rfl) (by kernel_rfl) (by kernel_rfl) (fun _ _ _ h => h) (Or.inl ⟨by rfl, fun w' hSw => by go_simp⟩) hHeld ?_
    try simp only [Act.put, List.getElem_toArray, List.getElem_cons_succ, List.getElem_cons_zero, List.setIfInBounds_toArray, List.set_cons_zero, List.set_cons_succ]
    refine wpAnyH_take (i := 7) (v := .int .i64 (N : Int)) rfl (by kernel_rfl) (by kernel_rfl) (by kernel_rfl) (fun _ _ _ h => h) (Or.inl ⟨by rfl, fun w' hSw => by go_simp⟩) hHeld ?_
    try simp only [Act.put, List.getElem_toArray, List.getElem_cons_succ, List.getElem_cons_zero, List.setIfInBounds_toArray, List.set_cons_zero, List.set_cons_succ]
    refine wpAnyH_ready (rs := [8]) (by kernel_rfl) (by simp) (AllReadyH.cons rfl (fun K1 hK1 => ?_) AllReadyH.nil)
    try simp only [Act.put, List.getElem_toArray, List.getElem_cons_succ, List.getElem_cons_zero, List.setIfInBounds_toArray, List.set_cons_zero, List.set_cons_succ]
    go_simp
    refine Calls.mono (Hun.out _) ?_
    rintro e w7 ⟨rfl, hbb⟩
    refine hK1.out _ _ (hHeld.trans (hbb.mono hHeld.size)) (fun hHeld => ?_)
    clear hK1 K1
    try simp only [Act.put, List.getElem_toArray, List.getElem_cons_succ, List.getElem_cons_zero, List.setIfInBounds_toArray, List.set_cons_zero, List.set_cons_succ]
    refine wpAnyH_take (i := 9) (v := .tuple #[.string H, .int .i64 0]) rfl (by kernel_rfl) (by kernel_rfl) (by kernel_rfl) (fun _ _ _ h => h) (Or.inl ⟨by rfl, fun w' hSw => by go_simp⟩) hHeld ?_
    try simp only [Act.put, List.getElem_toArray, List.getElem_cons_succ, List.getElem_cons_zero, List.setIfInBounds_toArray, List.set_cons_zero, List.set_cons_succ]
    refine wpAnyH_take (i := 10) (v := .string H) rfl (by kernel_rfl) (by kernel_rfl) (by kernel_rfl) (fun _ _ _ h => h) (Or.inl ⟨by rfl, fun w' hSw => by go_simp⟩) hHeld ?_
    try simp only [Act.put, List.getElem_toArray, List.getElem_cons_succ, List.getElem_cons_zero, List.setIfInBounds_toArray, List.set_cons_zero, List.set_cons_succ]
    refine wpAnyH_take (i := 11) (v := .int .i64 0) rfl (by kernel_rfl) (by kernel_rfl) (by kernel_rfl) (fun _ _ _ h => h) (Or.inl ⟨by rfl, fun w' hSw => by go_simp⟩) hHeld ?_
    try simp only [Act.put, List.getElem_toArray, List.getElem_cons_succ, List.getElem_cons_zero, List.setIfInBounds_toArray, List.set_cons_zero, List.set_cons_succ]
    refine wpAnyH_take (i := 12) (v := .string H) rfl (by kernel_rfl) (by kernel_rfl) (by kernel_rfl) (fun _ _ _ h => h) (Or.inl ⟨by rfl, fun w' hSw => by go_simp⟩) hHeld ?_
    try simp only [Act.put, List.getElem_toArray, List.getElem_cons_succ, List.getElem_cons_zero, List.setIfInBounds_toArray, List.set_cons_zero, List.set_cons_succ]
    refine wpAnyH_take (i := 13) (v := .int .i64 0) rfl (by kernel_rfl) (by kernel_rfl) (by kernel_rfl) (fun _ _ _ h => h) (Or.inl ⟨by rfl, fun w' hSw => by go_simp⟩) hHeld ?_
    try simp only [Act.put, List.getElem_toArray, List.getElem_cons_succ, List.getElem_cons_zero, List.setIfInBounds_toArray, List.set_cons_zero, List.set_cons_succ]
    refine wpAnyH_done (by kernel_rfl) ?_ _
    refine NoPanic.normal ?_
    have Hh := Lib.hid hHeld
    clear hHeld hbb hsl
    go_wp2_with fail
    refine wp_region_noPanic ?_
    refine wp_region_held_drew (S := fun w' => Below w.heap.size w w') (by kernel_rfl) (Hh.out.drew) (fun hHeld => ?_)
    generalize w7.drew = w8 at *
    have hsl4 := Hsl3.out
    refine wpAnyH_take (i := 0) (v := .string H) rfl (by kernel_rfl) (by kernel_rfl) (by kernel_rfl) (fun _ _ _ h => h) (Or.inl ⟨by rfl, fun w' hSw => by go_simp⟩) hHeld ?_
    try simp only [Act.put, List.getElem_toArray, List.getElem_cons_succ, List.getElem_cons_zero, List.setIfInBounds_toArray, List.set_cons_zero, List.set_cons_succ]
    refine wpAnyH_take (i := 2) (v := .string s) rfl (by kernel_rfl) (by kernel_rfl) (by kernel_rfl) (fun _ _ _ h => h) (Or.inl ⟨by rfl, fun w' hSw => by go_simp⟩) hHeld ?_
    try simp only [Act.put, List.getElem_toArray, List.getElem_cons_succ, List.getElem_cons_zero, List.setIfInBounds_toArray, List.set_cons_zero, List.set_cons_succ]
    refine wpAnyH_take (i := 3) (v := .int .i64 (Q : Int)) rfl (by kernel_rfl) (by kernel_rfl) (by kernel_rfl) (fun _ _ _ h => h) (Or.inl ⟨by rfl, fun w' hSw => by go_simp⟩) hHeld ?_
    try simp only [Act.put, List.getElem_toArray, List.getElem_cons_succ, List.getElem_cons_zero, List.setIfInBounds_toArray, List.set_cons_zero, List.set_cons_succ]
    refine wpAnyH_take (i := 4) (v := .int .i64 (Q : Int)) rfl (by kernel_rfl) (by kernel_rfl) (by kernel_rfl) (fun _ _ _ h => h) (Or.inl ⟨by rfl, fun w' hSw => by go_simp⟩) hHeld ?_
    try simp only [Act.put, List.getElem_toArray, List.getElem_cons_succ, List.getElem_cons_zero, List.setIfInBounds_toArray, List.set_cons_zero, List.set_cons_succ]
    refine wpAnyH_take (i := 5) (v := .int .i64 (Q4 : Int)) rfl (by kernel_rfl) (by kernel_rfl) (by kernel_rfl) (fun _ _ _ h => h) (Or.inl ⟨by rfl, fun w' hSw => by go_simp⟩) hHeld ?_
    try simp only [Act.put, List.getElem_toArray, List.getElem_cons_succ, List.getElem_cons_zero, List.setIfInBounds_toArray, List.set_cons_zero, List.set_cons_succ]
    refine wpAnyH_take (i := 6) (v := .string X) rfl (by kernel_rfl) (by kernel_rfl) (by kernel_rfl) (fun _ _ _ h => h) (Or.inl ⟨by rfl, fun w' hSw => by go_simp⟩) hHeld ?_
    try simp only [Act.put, List.getElem_toArray, List.getElem_cons_succ, List.getElem_cons_zero, List.setIfInBounds_toArray, List.set_cons_zero, List.set_cons_succ]
    refine wpAnyH_ready (rs := [1]) (by kernel_rfl) (by simp) (AllReadyH.cons rfl (fun K1 hK1 => ?_) AllReadyH.nil)
    try simp only [Act.put, List.getElem_toArray, List.getElem_cons_succ, List.getElem_cons_zero, List.setIfInBounds_toArray, List.set_cons_zero, List.set_cons_succ]
    go_simp
    refine Calls.mono (Hsb.out _) ?_
    rintro e w9 ⟨rfl, hbb⟩
    refine hK1.out _ _ (hHeld.trans (hbb.mono hHeld.size)) (fun hHeld => ?_)
    clear hK1 K1
    try simp only [Act.put, List.getElem_toArray, List.getElem_cons_succ, List.getElem_cons_zero, List.setIfInBounds_toArray, List.set_cons_zero, List.set_cons_succ]
    have hcm := Hcmp.out
    refine wpAnyH_take (i := 7) (v := .bool false) rfl (by kernel_rfl) (by kernel_rfl) (by kernel_rfl) (fun _ _ _ h => h) (Or.inl ⟨by rfl, fun w' hSw => by go_simp⟩) hHeld ?_
    try simp only [Act.put, List.getElem_toArray, List.getElem_cons_succ, List.getElem_cons_zero, List.setIfInBounds_toArray, List.set_cons_zero, List.set_cons_succ]
    refine wpAnyH_take (i := 8) (v := .bool false) rfl (by kernel_rfl) (by kernel_rfl) (by kernel_rfl) (fun _ _ _ h => h) (Or.inl ⟨by rfl, fun w' hSw => by go_simp⟩) hHeld ?_
    try simp only [Act.put, List.getElem_toArray, List.getElem_cons_succ, List.getElem_cons_zero, List.setIfInBounds_toArray, List.set_cons_zero, List.set_cons_succ]
    refine wpAnyH_done (by kernel_rfl) ?_ _
    refine NoPanic.normal ?_
    have Hh9 := Lib.hid hHeld
    clear hHeld hbb hsl4 hcm
    go_wp2_with fail
    go_ret2
    exact ⟨rfl, Hh9.out⟩
theorem crOpen_any (s : ByteArray) (most : Int) (w : World) (hs : s.size ≤ 140737488351232) :
    Calls Tryd.prog 34 #[.string s, .int .i64 most] w fun e w' => e = .returned (pairV (Cr.opened s.data.toList most)) ∧ Below w.heap.size w w' := by
  by_cases hm : most < 0
  · exact crOpen_neg s most w hm
  · by_cases h0 : 0 < s.size
    · exact crOpen_some s most w hm hs h0
    · have e : s = ⟨#[]⟩ := by
        obtain ⟨⟨l⟩⟩ := s
        have : l.length = 0 := Nat.eq_zero_of_not_pos h0
        rw [List.eq_nil_of_length_eq_zero this]
      subst e
      exact crOpen_nil most w hm
end Go.Proofs.YtinciddchpccnaaDoor
