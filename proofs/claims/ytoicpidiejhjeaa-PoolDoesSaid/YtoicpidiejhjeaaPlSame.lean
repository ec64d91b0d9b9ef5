/- The reference's Same: a list and itself. -/
import Derived.Test.YtoicpidiejhjeaaPlEnds
namespace Go.Proofs.Ytoicpidiejhjeaa
open Go.RowKit
set_option linter.unusedVariables false
set_option linter.unusedSimpArgs false
set_option maxRecDepth 100000

set_option maxHeartbeats 3200000 in
theorem same18_any (l : List Wt) (A A' : Option Addr) (c c2 : Nat) (w : World) (h1 : SlW w w.heap.size A c l) (h2 : SlW w w.heap.size A' c2 l) : Calls Try.prog 12 #[.slice A l.length c, .slice A' l.length c2] w fun e w' => e = .returned (.bool true) ∧ Below w.heap.size w w' := by
  have H1 := Lib.hid h1
  have H2 := Lib.hid h2
  have hl6 : l.length ≤ 1000000 := h1.2.2.2.1
  obtain ⟨n, hn⟩ : ∃ n, l.length = n := ⟨_, rfl⟩
  rw [hn] at hl6 ⊢
  have HN := Lib.hid hn
  clear h1 h2 hn
  go_enter Try.func12, Try.ntmps12
  go_wp2_with fail
  go_loopw [5] (fun s5 wr => ∃ k : Nat, k ≤ n ∧ s5 = .int .i64 k ∧ Below w.heap.size w wr) (fun i _ => n - (intOf i).toNat)
  case atStart => exact ⟨0, Nat.zero_le _, rfl, Below.refl _ _⟩
  case round =>
    obtain ⟨k, hk, rfl, hb⟩ := hrel
    have HB := Lib.hid hb
    clear hb
    have hk0 : (0 : Int) ≤ (k : Int) := by omega
    by_cases hkn : k < n
    · have hki : (k : Int) < (n : Int) := by omega
      have hkl : k < l.length := by have := HN.out; omega
      obtain ⟨ga, rfl, hga, hata⟩ := H1.out.1 (by intro e; rw [e] at hkl; simp at hkl)
      obtain ⟨gb, rfl, hgb, hatb⟩ := H2.out.1 (by intro e; rw [e] at hkl; simp at hkl)
      have hra : ∀ (W : World), Below w.heap.size w W → W.rangeAt ga (k * 76) l[k].cells := fun W hW => fun r u hu => (hW.cell (p := ⟨ga, k * 76 + r, none⟩) hga).trans (hata k hkl r u hu)
      have hrb : ∀ (W : World), Below w.heap.size w W → W.rangeAt gb (k * 76) l[k].cells := fun W hW => fun r u hu => (hW.cell (p := ⟨gb, k * 76 + r, none⟩) hgb).trans (hatb k hkl r u hu)
      have xk := H1.out.2.2.2.2 _ (List.getElem_mem hkl)
      have HTE := Lib.hid (fun W => wait_same W xk)
      have hC76 := Wt.cells_len xk
      obtain ⟨C, hC⟩ : ∃ C, l[k].cells = C := ⟨_, rfl⟩
      rw [hC] at hra hrb HTE hC76
      have HRa := Lib.hid hra
      have HRb := Lib.hid hrb
      have HC76 := Lib.hid hC76
      clear hga hata hgb hatb hra hrb xk hC76 hC hkl
      go_wp2_with fail
      refine wp_region_noPanic ?_
      refine wp_region_held_drew (S := fun w' => Below w.heap.size w w') (by kernel_rfl) (HB.out.drew) (fun hHeld => ?_)
      generalize wr.drew = wq at *
      refine wpAnyH_take (i := 0) (v := .slice (some ⟨ga, 0, none⟩) n c) rfl (by kernel_rfl) (by kernel_rfl) (by kernel_rfl) (fun _ _ _ h => h) (Or.inl ⟨by rfl, fun w' hSw => by go_simp⟩) hHeld ?_
      try simp only [Act.put, List.getElem_toArray, List.getElem_cons_succ, List.getElem_cons_zero, List.setIfInBounds_toArray, List.set_cons_zero, List.set_cons_succ]
      refine wpAnyH_take (i := 1) (v := .int .i64 k) rfl (by kernel_rfl) (by kernel_rfl) (by kernel_rfl) (fun _ _ _ h => h) (Or.inl ⟨by rfl, fun w' hSw => by go_simp⟩) hHeld ?_
      try simp only [Act.put, List.getElem_toArray, List.getElem_cons_succ, List.getElem_cons_zero, List.setIfInBounds_toArray, List.set_cons_zero, List.set_cons_succ]
      refine wpAnyH_take (i := 2) (v := .pointer (some ⟨ga, (k * 76), none⟩)) rfl (by kernel_rfl) (by kernel_rfl) (by kernel_rfl) (fun _ _ _ h => h) (Or.inl ⟨by rfl, fun w' hSw => by go_simp⟩) hHeld ?_
      try simp only [Act.put, List.getElem_toArray, List.getElem_cons_succ, List.getElem_cons_zero, List.setIfInBounds_toArray, List.set_cons_zero, List.set_cons_succ]
      refine' wpAnyH_take (i := 3) (v := _) rfl (by kernel_rfl) (by kernel_rfl) (by kernel_rfl) (fun _ _ _ h => h) (yieldsIf_load_mid (by rfl) _ _ rfl ga (k * 76) rfl C _ (fun w' hSw => HRa.out _ hSw) Try.underlying38 rfl (by rw [wait_info, HC76.out])) hHeld ?_
      try simp only [Act.put, List.getElem_toArray, List.getElem_cons_succ, List.getElem_cons_zero, List.setIfInBounds_toArray, List.set_cons_zero, List.set_cons_succ]
      refine wpAnyH_take (i := 4) (v := .slice (some ⟨gb, 0, none⟩) n c2) rfl (by kernel_rfl) (by kernel_rfl) (by kernel_rfl) (fun _ _ _ h => h) (Or.inl ⟨by rfl, fun w' hSw => by go_simp⟩) hHeld ?_
      try simp only [Act.put, List.getElem_toArray, List.getElem_cons_succ, List.getElem_cons_zero, List.setIfInBounds_toArray, List.set_cons_zero, List.set_cons_succ]
      refine wpAnyH_take (i := 5) (v := .int .i64 k) rfl (by kernel_rfl) (by kernel_rfl) (by kernel_rfl) (fun _ _ _ h => h) (Or.inl ⟨by rfl, fun w' hSw => by go_simp⟩) hHeld ?_
      try simp only [Act.put, List.getElem_toArray, List.getElem_cons_succ, List.getElem_cons_zero, List.setIfInBounds_toArray, List.set_cons_zero, List.set_cons_succ]
      refine wpAnyH_take (i := 6) (v := .pointer (some ⟨gb, (k * 76), none⟩)) rfl (by kernel_rfl) (by kernel_rfl) (by kernel_rfl) (fun _ _ _ h => h) (Or.inl ⟨by rfl, fun w' hSw => by go_simp⟩) hHeld ?_
      try simp only [Act.put, List.getElem_toArray, List.getElem_cons_succ, List.getElem_cons_zero, List.setIfInBounds_toArray, List.set_cons_zero, List.set_cons_succ]
      refine' wpAnyH_take (i := 7) (v := _) rfl (by kernel_rfl) (by kernel_rfl) (by kernel_rfl) (fun _ _ _ h => h) (yieldsIf_load_mid (by rfl) _ _ rfl gb (k * 76) rfl C _ (fun w' hSw => HRb.out _ hSw) Try.underlying38 rfl (by rw [wait_info, HC76.out])) hHeld ?_
      try simp only [Act.put, List.getElem_toArray, List.getElem_cons_succ, List.getElem_cons_zero, List.setIfInBounds_toArray, List.set_cons_zero, List.set_cons_succ]
      refine wpAnyH_take (i := 8) (v := .bool false) rfl (by kernel_rfl) (by kernel_rfl) (by kernel_rfl) (fun _ _ _ h => h) (Or.inl ⟨by rfl, fun w' hSw => by have hq := hSw; have hq9 := HTE.out; go_simp⟩) hHeld ?_
      try simp only [Act.put, List.getElem_toArray, List.getElem_cons_succ, List.getElem_cons_zero, List.setIfInBounds_toArray, List.set_cons_zero, List.set_cons_succ]
      refine wpAnyH_done (by kernel_rfl) ?_ _
      refine NoPanic.normal ?_
      have HB9 := Lib.hid hHeld
      clear hHeld
      go_wp2_with fail
      exact ⟨⟨k + 1, by omega, by go_num, HB9.out⟩, by simp [intOf]; omega⟩
    · have hki : ¬ (k : Int) < (n : Int) := by omega
      go_wp2_with fail
      go_ret
      exact ⟨rfl, HB.out⟩
/-- a list that lay in nobody's hands in place of the two -/
theorem PyE.swap {w W W' : World} {base B size : Nat} {L lo lg l' : List Wt} {uo ug u : Value} {rows : Rows18} (h : PyE w W base B size L uo lo ug lg rows) (hb : Below W.heap.size W W') (ho : OwnL W' W.heap.size 38 76 Wt.cells u l') : PyE w W' base B size L u l' (.slice none 0 0) [] rows := by
  obtain ⟨v, h⟩ := h
  have h2 := h.below hb
  have hlo : ∀ k, PS B v k → k < W.heap.size := fun k hk => by
    rcases hk with rfl | hk
    · exact h.pat.row.lt
    · exact (h.pat.own.own.lt k hk).2
  exact ⟨v, h2.low, h2.hb, h2.pat, ho.mono h.low.size, OwnL.nil _ _ _ _ _, h2.row, fun x hx => ⟨(h2.sep x hx).1, fun e => by have := (ho.own.lt _ e).1; have := (h.row x hx).lt; omega, fun e => (by cases e), (h2.sep x hx).2.2.2⟩,
    fun k hk => ⟨fun e => by have := (ho.own.lt _ e).1; have := hlo k hk; omega, fun e => (by cases e)⟩, fun k _ e => (by cases e)⟩
end Go.Proofs.Ytoicpidiejhjeaa
