/- cavalcaderef02.Same, where both are the same: what it returns. -/
import Derived.Test.YtdifbndpgbdkbaaDoorShaProves
import Derived.Test.YtdifbndpgbdkbaaDoorSealKey
import Derived.Test.YtdifbndpgbdkbaaDoorHashEq
import Derived.Deep.RegionHeld3
namespace Go.Proofs.YtdifbndpgbdkbaaDoor
open Go.RowKit
set_option linter.unusedVariables false
set_option linter.unusedSimpArgs false

set_option maxHeartbeats 4000000 in
set_option maxRecDepth 100000 in
theorem Same_same (P : List (List UInt8)) (A B : Option Addr) (c1 c2 : Nat) (w : World) (hA : Hashes w A P) (hB : Hashes w B P) (h32 : ∀ q ∈ P, q.length = 32) (hl : P.length ≤ 4611686018427387904) (hc1 : P.length ≤ c1) (hc2 : P.length ≤ c2) :
    Calls Tryd.prog 22 #[.slice A P.length c1, .slice B P.length c2] w fun e w' => e = .returned (.bool true) ∧ Below w.heap.size w w' := by
  have hA2 : ∀ k, k < P.length → ∃ b off, A = some ⟨b, off, none⟩ ∧ b < w.heap.size ∧ w.rangeAt b (off + k * 32) (bRow (P.getD k [])).toList := fun k hk => by
    obtain ⟨b, off, h1, h2, h3⟩ := hA (by intro h0; rw [h0] at hk; simp at hk)
    exact ⟨b, off, h1, h2, h3 k hk⟩
  have hB2 : ∀ k, k < P.length → ∃ b off, B = some ⟨b, off, none⟩ ∧ b < w.heap.size ∧ w.rangeAt b (off + k * 32) (bRow (P.getD k [])).toList := fun k hk => by
    obtain ⟨b, off, h1, h2, h3⟩ := hB (by intro h0; rw [h0] at hk; simp at hk)
    exact ⟨b, off, h1, h2, h3 k hk⟩
  have hp : ∀ k, k < P.length → (P.getD k []).length = 32 := fun k hk => by
    rw [List.getD_eq_getElem?_getD, List.getElem?_eq_getElem hk, Option.getD_some]
    exact h32 _ (List.getElem_mem hk)
  have HA := Lib.hid hA2
  have HB := Lib.hid hB2
  have HP := Lib.hid hp
  generalize P.length = m at *
  clear hA hB hA2 hB2 hp h32
  go_enter Tryd.func22, Tryd.ntmps22
  go_wp2_with fail
  go_loopw [5] (fun c wr => ∃ k : Nat, k ≤ m ∧ c = .int .i64 k ∧ Below w.heap.size w wr) (fun c _ => m - (intOf c).toNat)
  case atStart => exact ⟨0, Nat.zero_le _, rfl, Below.refl _ _⟩
  case round =>
    obtain ⟨k, hk, rfl, hb⟩ := hrel
    by_cases hkm : k < m
    · obtain ⟨b, off, rfl, hblt, hbr⟩ := HA.out k hkm
      obtain ⟨g, off2, rfl, hglt, hgr⟩ := HB.out k hkm
      have hp := HP.out k hkm
      generalize P.getD k [] = p at *
      obtain ⟨T, hTT⟩ : ∃ T, T = bRow p := ⟨_, rfl⟩
      have heqs : ∀ W, (Op.equalIn 10000 24 (.agg (bRow p)) (.agg (bRow p))).run Tryd.prog W = .ok true W := fun W => (hash_eq W p p hp hp).trans (by rw [decide_eq_true rfl])
      rw [← hTT] at heqs
      have hTi : (Tryd.prog.info? 24).map (·.size) = some T.toList.length := by
        have := i24_any p (by omega)
        rw [Array.length_toList, hTT]; exact this
      have hu := Tryd.underlying24
      have R1 : Hid (∀ w', Below w.heap.size w w' → w'.rangeAt b (off + k * 32) T.toList) := fun w' hk2 j v hj => by
        rw [hTT] at hj
        exact (hk2.cell (p := ⟨b, off + k * 32 + j, none⟩) hblt).trans (hbr j v hj)
      have R2 : Hid (∀ w', Below w.heap.size w w' → w'.rangeAt g (off2 + k * 32) T.toList) := fun w' hk2 j v hj => by
        rw [hTT] at hj
        exact (hk2.cell (p := ⟨g, off2 + k * 32 + j, none⟩) hglt).trans (hgr j v hj)
      have hk0 : (0 : Int) ≤ (k : Int) := by omega
      have hkm1 : (k : Int) < (m : Int) := by omega
      have hkc1 : (m : Int) ≤ (c1 : Int) := by omega
      have hkc2 : (m : Int) ≤ (c2 : Int) := by omega
      clear hbr hgr hp hTT
      go_wp2_with fail
      have hkeep0 : Below w.heap.size w wr.drew := hb.drew
      refine wp_region_noPanic ?_
      refine wp_region_held_drew (S := fun w' => Below w.heap.size w w') (by kernel_rfl) (hkeep0) (fun hHeld => ?_)
      generalize wr.drew = w9 at *
      refine wpAnyH_take (i := 0) (v := .slice (some ⟨b, off, none⟩) m c1) rfl (by kernel_rfl) (by kernel_rfl) (by kernel_rfl) (fun _ _ _ h => h) (Or.inl ⟨by rfl, fun w' hSw => by go_simp⟩) hHeld ?_
      try simp only [Act.put, List.getElem_toArray, List.getElem_cons_succ, List.getElem_cons_zero, List.setIfInBounds_toArray, List.set_cons_zero, List.set_cons_succ]
      refine wpAnyH_take (i := 1) (v := .int .i64 k) rfl (by kernel_rfl) (by kernel_rfl) (by kernel_rfl) (fun _ _ _ h => h) (Or.inl ⟨by rfl, fun w' hSw => by go_simp⟩) hHeld ?_
      try simp only [Act.put, List.getElem_toArray, List.getElem_cons_succ, List.getElem_cons_zero, List.setIfInBounds_toArray, List.set_cons_zero, List.set_cons_succ]
      refine wpAnyH_take (i := 2) (v := .pointer (some ⟨b, off + k * 32, none⟩)) rfl (by kernel_rfl) (by kernel_rfl) (by kernel_rfl) (fun _ _ _ h => h) (Or.inl ⟨by rfl, fun w' hSw => by go_simp⟩) hHeld ?_
      try simp only [Act.put, List.getElem_toArray, List.getElem_cons_succ, List.getElem_cons_zero, List.setIfInBounds_toArray, List.set_cons_zero, List.set_cons_succ]
      refine' wpAnyH_take (i := 3) (v := _) rfl (by kernel_rfl) (by kernel_rfl) (by kernel_rfl) (fun _ _ _ h => h) (yieldsIf_load_mid (by rfl) _ _ rfl b (off + k * 32) rfl T.toList _ (fun w' hSw => R1.out _ hSw) hu rfl hTi) hHeld ?_
      try simp only [Act.put, List.getElem_toArray, List.getElem_cons_succ, List.getElem_cons_zero, List.setIfInBounds_toArray, List.set_cons_zero, List.set_cons_succ]
      refine wpAnyH_take (i := 4) (v := .slice (some ⟨g, off2, none⟩) m c2) rfl (by kernel_rfl) (by kernel_rfl) (by kernel_rfl) (fun _ _ _ h => h) (Or.inl ⟨by rfl, fun w' hSw => by go_simp⟩) hHeld ?_
      try simp only [Act.put, List.getElem_toArray, List.getElem_cons_succ, List.getElem_cons_zero, List.setIfInBounds_toArray, List.set_cons_zero, List.set_cons_succ]
      refine wpAnyH_take (i := 5) (v := .int .i64 k) rfl (by kernel_rfl) (by kernel_rfl) (by kernel_rfl) (fun _ _ _ h => h) (Or.inl ⟨by rfl, fun w' hSw => by go_simp⟩) hHeld ?_
      try simp only [Act.put, List.getElem_toArray, List.getElem_cons_succ, List.getElem_cons_zero, List.setIfInBounds_toArray, List.set_cons_zero, List.set_cons_succ]
      refine wpAnyH_take (i := 6) (v := .pointer (some ⟨g, off2 + k * 32, none⟩)) rfl (by kernel_rfl) (by kernel_rfl) (by kernel_rfl) (fun _ _ _ h => h) (Or.inl ⟨by rfl, fun w' hSw => by go_simp⟩) hHeld ?_
      try simp only [Act.put, List.getElem_toArray, List.getElem_cons_succ, List.getElem_cons_zero, List.setIfInBounds_toArray, List.set_cons_zero, List.set_cons_succ]
      refine' wpAnyH_take (i := 7) (v := _) rfl (by kernel_rfl) (by kernel_rfl) (by kernel_rfl) (fun _ _ _ h => h) (yieldsIf_load_mid (by rfl) _ _ rfl g (off2 + k * 32) rfl T.toList _ (fun w' hSw => R2.out _ hSw) hu rfl hTi) hHeld ?_
      try simp only [Act.put, List.getElem_toArray, List.getElem_cons_succ, List.getElem_cons_zero, List.setIfInBounds_toArray, List.set_cons_zero, List.set_cons_succ]
      refine wpAnyH_take (i := 8) (v := .bool false) rfl (by kernel_rfl) (by kernel_rfl) (by kernel_rfl) (fun _ _ _ h => h) (Or.inl ⟨by rfl, fun w' hSw => by go_simp⟩) hHeld ?_
      try simp only [Act.put, List.getElem_toArray, List.getElem_cons_succ, List.getElem_cons_zero, List.setIfInBounds_toArray, List.set_cons_zero, List.set_cons_succ]
      refine wpAnyH_done (by kernel_rfl) ?_ _
      refine NoPanic.normal ?_
      go_wp2_with fail
      exact ⟨⟨k + 1, by omega, by go_num, hkeep0⟩, by simp [intOf]; omega⟩
    · have hkm2 : ¬ ((k : Int) < (m : Int)) := by omega
      go_wp2_with fail
      go_ret
      exact ⟨rfl, hb⟩
end Go.Proofs.YtdifbndpgbdkbaaDoor
