/- journal.read: what it returns. -/
import Derived.Test.YtpphljdnnlfjhaaDoorJrSum
import Derived.Deep.RegionHeld3
import Derived.Deep.QuietTactic
namespace Go.Proofs.YtpphljdnnlfjhaaDoor
open Go.RowKit
set_option linter.unusedVariables false
set_option linter.unusedSimpArgs false

def jrV : Option (List UInt8 × Nat) → Value
  | none => .tuple #[S [], .int .i64 0, .bool false]
  | some (r, b) => .tuple #[S r, .int .i64 (b : Int), .bool true]
set_option maxHeartbeats 1000000 in
theorem jrRead_any (s : ByteArray) (p i : Nat) (w : World) (hi : i ≤ 9223372036854775807) (hp : p ≤ s.size) (hs : s.size ≤ 140737488351232) :
    Calls Tryd.prog 26 #[.string s, .int .i64 (p : Int), .int .i64 (i : Int)] w fun e w' => e = .returned (jrV (Jr.rd s.data.toList p i)) ∧ Below w.heap.size w w' := by
  have hlen : s.data.toList.length = s.size := rfl
  have hrd := fun w : World => readNumber_any s p w (by omega)
  rcases hn : Oct.rdNum s.data.toList p with ⟨n, q, e⟩
  unfold rdNumV at hrd
  rw [hn] at hrd
  have Hrd := Lib.hid hrd
  unfold Jr.rd
  rw [hn, hlen]
  simp only
  rcases Oct.rdNum_ok hn with ⟨he, rfl, rfl⟩ | ⟨rfl, _, hn0, hn1, hpq, hql, _⟩
  · rw [if_pos he]
    clear hn hrd hlen
    have hz : (e != 0) = true := by simpa using he
    clear he
    go_enter Tryd.func26, Tryd.ntmps26
    go_wp2_with fail
    refine (Hrd.out _).mono ?_
    rintro e' w1 ⟨rfl, rfl⟩
    unfold three
    go_wp2_with fail
    go_ret3
    exact ⟨rfl, Below.refl _ _⟩
  rw [if_neg (by simp)]
  obtain ⟨N, rfl⟩ : ∃ N : Nat, n = (N : Int) := ⟨n.toNat, by omega⟩
  obtain ⟨Q, rfl⟩ : ∃ Q : Nat, q = (Q : Int) := ⟨q.toNat, by omega⟩
  rw [hlen] at hql
  have hql' : Q ≤ s.size := by omega
  simp only [Int.toNat_natCast]
  clear hn hrd hlen hn0 hn1 hpq hql hp
  by_cases hbig : (4096 : Int) < (N : Int)
  · rw [if_pos hbig]
    have hb' : 4096 < N := by omega
    have d1 : decide ((4096 : Int) < (N : Int)) = true := by simpa using hbig
    have d2 : decide (4096 < N) = true := by simpa using hb'
    clear hb' hbig
    go_enter Tryd.func26, Tryd.ntmps26
    go_wp2_with fail
    refine (Hrd.out _).mono ?_
    rintro e' w1 ⟨rfl, rfl⟩
    unfold three
    go_wp2_with fail
    go_ret3
    exact ⟨rfl, Below.refl _ _⟩
  rw [if_neg hbig]
  have hN : N ≤ 4096 := by omega
  have d1 : decide ((4096 : Int) < (N : Int)) = false := by simpa using hbig
  have d2 : decide (4096 < N) = false := by simpa using hN
  clear hbig
  have hw1 : IntKind.i64.wrap ((s.size : Int) - (Q : Int)) = (s.size : Int) - (Q : Int) := IntWalk.i64_in _ (by omega)
  have hw2 : IntKind.i64.wrap ((4 : Int) + (N : Int)) = (4 : Int) + (N : Int) := IntWalk.i64_in _ (by omega)
  by_cases hsh : (s.size : Int) - (Q : Int) < 4 + (N : Int)
  · rw [if_pos hsh]
    have d3 : decide ((s.size : Int) - (Q : Int) < 4 + (N : Int)) = true := by simpa using hsh
    clear hsh
    go_enter Tryd.func26, Tryd.ntmps26
    go_wp2_with fail
    refine (Hrd.out _).mono ?_
    rintro e' w1 ⟨rfl, rfl⟩
    unfold three
    go_wp2_with fail
    go_ret3
    exact ⟨rfl, Below.refl _ _⟩
  rw [if_neg hsh]
  have d3 : decide ((s.size : Int) - (Q : Int) < 4 + (N : Int)) = false := by simpa using hsh
  have hfit : Q + 4 + N ≤ s.size := by omega
  clear hsh
  obtain ⟨Q4, hQ4⟩ : ∃ Q4 : Nat, Q + 4 = Q4 := ⟨_, rfl⟩
  obtain ⟨QE, hQE⟩ : ∃ QE : Nat, Q4 + N = QE := ⟨_, rfl⟩
  have hw3 : IntKind.i64.wrap ((Q : Int) + 4) = (Q4 : Int) := by rw [IntWalk.i64_in _ (by omega)]; omega
  have hw4 : IntKind.i64.wrap ((Q4 : Int) + (N : Int)) = (QE : Int) := by rw [IntWalk.i64_in _ (by omega)]; omega
  have hsl : ∀ W : World, (Instr.slice 9 (.string s) (some (.int .i64 (Q4 : Int))) (some (.int .i64 (QE : Int))) none).run Tryd.prog W = .ok (S ((s.data.toList.drop Q4).take N)) W := by
    intro W
    have h := cut_run (P := Tryd.prog) 9 (by kernel_rfl) s Q4 N (by omega) W
    rw [show ((Q4 : Int) + (N : Int)) = (QE : Int) by omega] at h
    exact h
  have hsl2 : ∀ W : World, (Instr.slice 9 (.string s) (some (.int .i64 (Q : Int))) (some (.int .i64 (Q4 : Int))) none).run Tryd.prog W = .ok (S ((s.data.toList.drop Q).take 4)) W := by
    intro W
    have h := cut_run (P := Tryd.prog) 9 (by kernel_rfl) s Q 4 (by omega) W
    rw [show ((Q : Int) + ((4 : Nat) : Int)) = (Q4 : Int) by omega] at h
    exact h
  rw [hQ4, hQE]
  obtain ⟨rl, hrl⟩ : ∃ rl, (s.data.toList.drop Q4).take N = rl := ⟨_, rfl⟩
  obtain ⟨xl, hxl⟩ : ∃ xl, (s.data.toList.drop Q).take 4 = xl := ⟨_, rfl⟩
  rw [hrl] at hsl ⊢
  rw [hxl] at hsl2 ⊢
  obtain ⟨R, hR⟩ : ∃ R : ByteArray, (⟨rl.toArray⟩ : ByteArray) = R := ⟨_, rfl⟩
  obtain ⟨X, hX⟩ : ∃ X : ByteArray, (⟨xl.toArray⟩ : ByteArray) = X := ⟨_, rfl⟩
  have hRl : R.data.toList = rl := by rw [← hR]
  have hRz : R.size ≤ 140737488351232 := by
    have : R.size = R.data.toList.length := rfl
    rw [this, hRl, ← hrl, List.length_take]; omega
  have hXl : X.toList = xl := by rw [← hX, ByteArray.toList_mk]
  have hslR : ∀ W : World, (Instr.slice 9 (.string s) (some (.int .i64 (Q4 : Int))) (some (.int .i64 (QE : Int))) none).run Tryd.prog W = .ok (.string R) W := by intro W; rw [← hR]; exact hsl W
  have hslX : ∀ W : World, (Instr.slice 9 (.string s) (some (.int .i64 (Q : Int))) (some (.int .i64 (Q4 : Int))) none).run Tryd.prog W = .ok (.string X) W := by intro W; rw [← hX]; exact hsl2 W
  have hsum := fun w : World => jrSum_any i R w hi hRz
  rw [hRl] at hsum
  obtain ⟨fl, hfl⟩ : ∃ fl, Jr.sumB i rl = fl := ⟨_, rfl⟩
  rw [hfl] at hsum ⊢
  obtain ⟨FB, hFB⟩ : ∃ FB : ByteArray, (⟨fl.toArray⟩ : ByteArray) = FB := ⟨_, rfl⟩
  have hFl : FB.toList = fl := by rw [← hFB, ByteArray.toList_mk]
  have hsum2 : ∀ w : World, Calls Tryd.prog 45 #[.int .i64 (i : Int), .string R] w fun e w' => e = .returned (.string FB) ∧ Below w.heap.size w w' := by
    intro w; rw [← hFB]; exact hsum w
  obtain ⟨cmp, hcmp⟩ : ∃ cmp, (X.toList == FB.toList) = cmp := ⟨_, rfl⟩
  have Hsum := Lib.hid hsum2
  have Hcmp := Lib.hid hcmp
  have HFl := Lib.hid hFl
  have HXl := Lib.hid hXl
  have HR := Lib.hid hR
  have HslX := Lib.hid hslX
  clear hsum hsum2 hFl hFB hfl hXl hX hR hsl hsl2 hxl hrl hRl hcmp hslX
  rcases cmp with _ | _
  · have hne : xl ≠ fl := by
      intro e
      have h := Hcmp.out
      rw [HFl.out, HXl.out, e] at h
      simp at h
    rw [if_pos hne]
    clear hne
    go_enter Tryd.func26, Tryd.ntmps26
    go_wp2_with fail
    refine (Hrd.out _).mono ?_
    rintro e' w1 ⟨rfl, rfl⟩
    unfold three
    go_wp2_with fail
    refine wp_region_noPanic ?_
    refine wp_region_held_drew (S := fun w' => Below w.heap.size w w') (by kernel_rfl) ((Below.refl _ _).drew) (fun hHeld => ?_)
    generalize w.drew = w6 at *
    have hslX := HslX.out
    refine wpAnyH_take (i := 0) (v := .string s) rfl (by kernel_rfl) (by kernel_rfl) (by kernel_rfl) (fun _ _ _ h => h) (Or.inl ⟨by rfl, fun w' hSw => by go_simp⟩) hHeld ?_
    try simp only [Act.put, List.getElem_toArray, List.getElem_cons_succ, List.getElem_cons_zero, List.setIfInBounds_toArray, List.set_cons_zero, List.set_cons_succ]
    refine wpAnyH_take (i := 1) (v := .int .i64 (Q : Int)) rfl (by kernel_rfl) (by kernel_rfl) (by kernel_rfl) (fun _ _ _ h => h) (Or.inl ⟨by rfl, fun w' hSw => by go_simp⟩) hHeld ?_
    try simp only [Act.put, List.getElem_toArray, List.getElem_cons_succ, List.getElem_cons_zero, List.setIfInBounds_toArray, List.set_cons_zero, List.set_cons_succ]
    refine wpAnyH_take (i := 2) (v := .int .i64 (Q4 : Int)) rfl (by kernel_rfl) (by kernel_rfl) (by kernel_rfl) (fun _ _ _ h => h) (Or.inl ⟨by rfl, fun w' hSw => by go_simp⟩) hHeld ?_
    try simp only [Act.put, List.getElem_toArray, List.getElem_cons_succ, List.getElem_cons_zero, List.setIfInBounds_toArray, List.set_cons_zero, List.set_cons_succ]
    refine wpAnyH_take (i := 3) (v := .string X) rfl (by kernel_rfl) (by kernel_rfl) (by kernel_rfl) (fun _ _ _ h => h) (Or.inl ⟨by rfl, fun w' hSw => by go_simp⟩) hHeld ?_
    try simp only [Act.put, List.getElem_toArray, List.getElem_cons_succ, List.getElem_cons_zero, List.setIfInBounds_toArray, List.set_cons_zero, List.set_cons_succ]
    refine wpAnyH_take (i := 4) (v := .int .i64 (i : Int)) rfl (by kernel_rfl) (by kernel_rfl) (by kernel_rfl) (fun _ _ _ h => h) (Or.inl ⟨by rfl, fun w' hSw => by go_simp⟩) hHeld ?_
    try simp only [Act.put, List.getElem_toArray, List.getElem_cons_succ, List.getElem_cons_zero, List.setIfInBounds_toArray, List.set_cons_zero, List.set_cons_succ]
    refine wpAnyH_take (i := 5) (v := .string R) rfl (by kernel_rfl) (by kernel_rfl) (by kernel_rfl) (fun _ _ _ h => h) (Or.inl ⟨by rfl, fun w' hSw => by go_simp⟩) hHeld ?_
    try simp only [Act.put, List.getElem_toArray, List.getElem_cons_succ, List.getElem_cons_zero, List.setIfInBounds_toArray, List.set_cons_zero, List.set_cons_succ]
    refine wpAnyH_ready (rs := [6]) (by kernel_rfl) (by simp) (AllReadyH.cons rfl (fun K1 hK1 => ?_) AllReadyH.nil)
    try simp only [Act.put, List.getElem_toArray, List.getElem_cons_succ, List.getElem_cons_zero, List.setIfInBounds_toArray, List.set_cons_zero, List.set_cons_succ]
    go_simp
    refine Calls.mono (Hsum.out _) ?_
    rintro e w9 ⟨rfl, hbb⟩
    refine hK1.out _ _ (hHeld.trans (hbb.mono hHeld.size)) (fun hHeld => ?_)
    clear hK1 K1
    try simp only [Act.put, List.getElem_toArray, List.getElem_cons_succ, List.getElem_cons_zero, List.setIfInBounds_toArray, List.set_cons_zero, List.set_cons_succ]
    have hcm := Hcmp.out
    refine wpAnyH_take (i := 7) (v := .bool true) rfl (by kernel_rfl) (by kernel_rfl) (by kernel_rfl) (fun _ _ _ h => h) (Or.inl ⟨by rfl, fun w' hSw => by go_simp⟩) hHeld ?_
    try simp only [Act.put, List.getElem_toArray, List.getElem_cons_succ, List.getElem_cons_zero, List.setIfInBounds_toArray, List.set_cons_zero, List.set_cons_succ]
    refine wpAnyH_done (by kernel_rfl) ?_ _
    refine NoPanic.normal ?_
    have Hh9 := Lib.hid hHeld
    clear hHeld hbb hslX hcm
    go_wp2_with fail
    go_ret3
    exact ⟨rfl, Hh9.out⟩
  · have heq : xl = fl := by
      have h := Hcmp.out
      rw [HFl.out, HXl.out] at h
      simpa using h
    rw [if_neg (by simpa using heq), show jrV (some (rl, QE)) = .tuple #[.string R, .int .i64 (QE : Int), .bool true] by rw [← HR.out]; rfl]
    clear heq
    go_enter Tryd.func26, Tryd.ntmps26
    go_wp2_with fail
    refine (Hrd.out _).mono ?_
    rintro e' w1 ⟨rfl, rfl⟩
    unfold three
    go_wp2_with fail
    refine wp_region_noPanic ?_
    refine wp_region_held_drew (S := fun w' => Below w.heap.size w w') (by kernel_rfl) ((Below.refl _ _).drew) (fun hHeld => ?_)
    generalize w.drew = w6 at *
    have hslX := HslX.out
    refine wpAnyH_take (i := 0) (v := .string s) rfl (by kernel_rfl) (by kernel_rfl) (by kernel_rfl) (fun _ _ _ h => h) (Or.inl ⟨by rfl, fun w' hSw => by go_simp⟩) hHeld ?_
    try simp only [Act.put, List.getElem_toArray, List.getElem_cons_succ, List.getElem_cons_zero, List.setIfInBounds_toArray, List.set_cons_zero, List.set_cons_succ]
    refine wpAnyH_take (i := 1) (v := .int .i64 (Q : Int)) rfl (by kernel_rfl) (by kernel_rfl) (by kernel_rfl) (fun _ _ _ h => h) (Or.inl ⟨by rfl, fun w' hSw => by go_simp⟩) hHeld ?_
    try simp only [Act.put, List.getElem_toArray, List.getElem_cons_succ, List.getElem_cons_zero, List.setIfInBounds_toArray, List.set_cons_zero, List.set_cons_succ]
    refine wpAnyH_take (i := 2) (v := .int .i64 (Q4 : Int)) rfl (by kernel_rfl) (by kernel_rfl) (by kernel_rfl) (fun _ _ _ h => h) (Or.inl ⟨by rfl, fun w' hSw => by go_simp⟩) hHeld ?_
    try simp only [Act.put, List.getElem_toArray, List.getElem_cons_succ, List.getElem_cons_zero, List.setIfInBounds_toArray, List.set_cons_zero, List.set_cons_succ]
    refine wpAnyH_take (i := 3) (v := .string X) rfl (by kernel_rfl) (by kernel_rfl) (by kernel_rfl) (fun _ _ _ h => h) (Or.inl ⟨by rfl, fun w' hSw => by go_simp⟩) hHeld ?_
    try simp only [Act.put, List.getElem_toArray, List.getElem_cons_succ, List.getElem_cons_zero, List.setIfInBounds_toArray, List.set_cons_zero, List.set_cons_succ]
    refine wpAnyH_take (i := 4) (v := .int .i64 (i : Int)) rfl (by kernel_rfl) (by kernel_rfl) (by kernel_rfl) (fun _ _ _ h => h) (Or.inl ⟨by rfl, fun w' hSw => by go_simp⟩) hHeld ?_
    try simp only [Act.put, List.getElem_toArray, List.getElem_cons_succ, List.getElem_cons_zero, List.setIfInBounds_toArray, List.set_cons_zero, List.set_cons_succ]
    refine wpAnyH_take (i := 5) (v := .string R) rfl (by kernel_rfl) (by kernel_rfl) (by kernel_rfl) (fun _ _ _ h => h) (Or.inl ⟨by rfl, fun w' hSw => by go_simp⟩) hHeld ?_
    try simp only [Act.put, List.getElem_toArray, List.getElem_cons_succ, List.getElem_cons_zero, List.setIfInBounds_toArray, List.set_cons_zero, List.set_cons_succ]
    refine wpAnyH_ready (rs := [6]) (by kernel_rfl) (by simp) (AllReadyH.cons rfl (fun K1 hK1 => ?_) AllReadyH.nil)
    try simp only [Act.put, List.getElem_toArray, List.getElem_cons_succ, List.getElem_cons_zero, List.setIfInBounds_toArray, List.set_cons_zero, List.set_cons_succ]
    go_simp
    refine Calls.mono (Hsum.out _) ?_
    rintro e w9 ⟨rfl, hbb⟩
    refine hK1.out _ _ (hHeld.trans (hbb.mono hHeld.size)) (fun hHeld => ?_)
    clear hK1 K1
    try simp only [Act.put, List.getElem_toArray, List.getElem_cons_succ, List.getElem_cons_zero, List.setIfInBounds_toArray, List.set_cons_zero, List.set_cons_succ]
    have hcm := Hcmp.out
    refine wpAnyH_take (i := 7) (v := .bool false) rfl (by kernel_rfl) (by kernel_rfl) (by kernel_rfl) (fun _ _ _ h => h) (Or.inl ⟨by rfl, fun w' hSw => by go_simp⟩) hHeld ?_
    try simp only [Act.put, List.getElem_toArray, List.getElem_cons_succ, List.getElem_cons_zero, List.setIfInBounds_toArray, List.set_cons_zero, List.set_cons_succ]
    refine wpAnyH_done (by kernel_rfl) ?_ _
    refine NoPanic.normal ?_
    have Hh9 := Lib.hid hHeld
    clear hHeld hbb hslX hcm
    go_wp2_with fail
    go_ret3
    exact ⟨rfl, Hh9.out⟩
end Go.Proofs.YtpphljdnnlfjhaaDoor
