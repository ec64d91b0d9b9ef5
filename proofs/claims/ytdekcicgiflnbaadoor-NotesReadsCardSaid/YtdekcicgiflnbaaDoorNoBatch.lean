/- The reference of layer 5: the same batches. -/
import Derived.Test.YtdekcicgiflnbaaDoorNoG
import Derived.Test.YtdekcicgiflnbaaDoorNoBlocks
namespace Go.Proofs.YtdekcicgiflnbaaDoor
open Go.RowKit
set_option linter.unusedVariables false
set_option linter.unusedSimpArgs false

theorem part_lits (d : Bool) (t : List UInt8) (h : t.length ≤ 140737488351232) : Tryd.prog.keyLits 3 98 [.bool d, S t] = some [.bool d, .string t] := by
  have hc : Tryd.prog.cellsOf 98 = 2 := by kernel_rfl
  have hB : Tryd.prog.cellsOf 4 = 1 := by kernel_rfl
  have hS : Tryd.prog.cellsOf 9 = 1 := by kernel_rfl
  have hm : (⟨t.toArray⟩ : ByteArray).size ≤ maxLen := by show t.length ≤ _; unfold maxLen; omega
  unfold Program.keyLits
  simp only [Tryd.underlying98]
  rw [if_pos ⟨by rw [hc]; rfl, by kernel_rfl⟩]
  have e0 : Tryd.prog.keyLits 2 4 (([.bool d, S t] : List Value).drop 0 |>.take (Tryd.prog.cellsOf 4)) = some [.bool d] := by rw [hB]; exact lit_bool 1 d
  have e1 : Tryd.prog.keyLits 2 9 (([.bool d, S t] : List Value).drop 1 |>.take (Tryd.prog.cellsOf 9)) = some [.string t] := by rw [hS]; exact lit_str 1 _ hm
  simp only [List.mapM_cons, List.mapM_nil, e0, e1, Option.bind_eq_bind, Option.bind_some, Option.pure_def, Option.map_some]
  rfl
theorem part_same (d : Bool) (t : List UInt8) (h : t.length ≤ 140737488351232) (W : World) : (Op.equalIn 10000 98 (.agg #[.bool d, S t]) (.agg #[.bool d, S t])).run Tryd.prog W = .ok true W := by
  have hk : Tryd.prog.keyTypeAt 3 98 = true := by kernel_rfl
  have hf : (Value.agg #[.bool d, S t]).formed Tryd.prog 98 = true := by
    have hc : Tryd.prog.cellsOf 98 = 2 := by kernel_rfl
    simp [Value.formed, Tryd.underlying98, hc]
  obtain ⟨r, hr, hiff⟩ := run_equalIn_deep (P := Tryd.prog) 9997 3 98 hk W 3 3 (.agg #[.bool d, S t]) (.agg #[.bool d, S t]) _ _ hf hf (part_lits d t h) (part_lits d t h)
  have : r = true := hiff.2 rfl
  rw [hr, this]
set_option maxRecDepth 20000 in
set_option maxHeartbeats 800000 in
/-- two batches that are the same, wherever their parts lie -/
theorem batches5_same (b : Bt) (hf : ∀ p ∈ b.parts, p.2.length ≤ 140737488351232) (hl : b.parts.length ≤ 512) (A B : Option Addr) (c e : Nat) (w : World) (hA : PartsAt w w.heap.size A b.parts) (hB : PartsAt w w.heap.size B b.parts) :
    Calls Tryd.prog 53 #[.agg (b.cells A c).toArray, .agg (b.cells B e).toArray] w fun e w' => e = .returned (.bool true) ∧ Below w.heap.size w w' := by
  obtain ⟨rB, hb2, rA⟩ := row_two w (b.cells A c).toArray (b.cells B e).toArray 55 55
  obtain ⟨a0, a1, a2, a3⟩ := bt_box rA
  obtain ⟨b0, b1, b2, b3⟩ := bt_box rB
  have BA : Hid (∀ (W : World) (g : Nat) (T : TypeId), Row W g T (b.cells A c) → W.cell? ⟨g, 3, none⟩ = some (.slice A b.parts.length c)) := fun W g T h => (bt_box h).2.2.2
  have BB : Hid (∀ (W : World) (g : Nat) (T : TypeId), Row W g T (b.cells B e) → W.cell? ⟨g, 3, none⟩ = some (.slice B b.parts.length e)) := fun W g T h => (bt_box h).2.2.2
  have HB0 := Lib.hid (((Blocks.nil hb2).cons rB).cons rA)
  have HA := Lib.hid hA
  have HB := Lib.hid hB
  have HPS := Lib.hid (fun p (hp : p ∈ b.parts) => part_same p.1 p.2 (hf p hp))
  generalize b.parts = P at *
  generalize b.cells A c = CA at *
  generalize b.cells B e = CB at *
  simp only [List.toList_toArray] at HB0
  obtain ⟨n, hn⟩ : ∃ n, n = P.length := ⟨_, rfl⟩
  rw [← hn] at BA BB a3 b3 hl
  have HN := Lib.hid hn
  clear hn hA hB hf rA rB hb2
  go_enter Tryd.func53, Tryd.ntmps53
  go_wp2_with fail
  clear a0 a1 a2 a3 b0 b1 b2 b3
  go_loopw [5] (fun i wr => ∃ k : Nat, k ≤ n ∧ i = .int .i64 k ∧ Blocks w wr [(w.heap.size, 55, CA), (w.heap.size + 1, 55, CB)]) (fun i _ => n - (intOf i).toNat)
  case atStart => exact ⟨0, Nat.zero_le _, rfl, HB0.out⟩
  case round =>
    obtain ⟨k, hk, rfl, hR⟩ := hrel
    clear HB0
    have a3 := BA.out _ _ _ hR.hd
    have b3 := BB.out _ _ _ hR.tl.hd
    have HR := Lib.hid hR
    clear hR
    by_cases hkn : k < n
    · have hki : (k : Int) < (n : Int) := by omega
      have hkl : k < P.length := by rw [← HN.out]; exact hkn
      obtain ⟨ba, oa, rfl, hba, hca⟩ := HA.out (by intro e; rw [e] at hkl; simp at hkl)
      obtain ⟨bb, ob, rfl, hbb, hcb⟩ := HB.out (by intro e; rw [e] at hkl; simp at hkl)
      obtain ⟨c0, c1⟩ := hca k hkl
      obtain ⟨d0, d1⟩ := hcb k hkl
      have heq := HPS.out P[k] (List.getElem_mem _)
      generalize P[k] = p at *
      obtain ⟨d, t⟩ := p
      simp only at c0 c1 d0 d1 heq
      have two : ∀ {W : World} {g off : Nat} {x y : Value}, W.cell? ⟨g, off, none⟩ = some x → W.cell? ⟨g, off + 1, none⟩ = some y → W.rangeAt g off [x, y] := fun h0 h1 j v hj => by
        match j, hj with
        | 0, hj => simp at hj; subst hj; exact h0
        | 1, hj => simp at hj; subst hj; exact h1
      have RA : Hid (∀ W, Below w.heap.size w W → W.rangeAt ba (oa + k * 2) [.bool d, S t]) := fun W hW => two ((hW.cell (p := ⟨ba, oa + k * 2, none⟩) hba).trans c0) ((hW.cell (p := ⟨ba, oa + k * 2 + 1, none⟩) hba).trans c1)
      have RB : Hid (∀ W, Below w.heap.size w W → W.rangeAt bb (ob + k * 2) [.bool d, S t]) := fun W hW => two ((hW.cell (p := ⟨bb, ob + k * 2, none⟩) hbb).trans d0) ((hW.cell (p := ⟨bb, ob + k * 2 + 1, none⟩) hbb).trans d1)
      have hu := Tryd.underlying98
      have hi : (Tryd.prog.info? 98).map (·.size) = some 2 := part_info
      clear hca hcb c0 c1 d0 d1 two
      go_wp2_with fail
      refine wp_region_noPanic ?_
      refine wp_region_held_drew (S := fun w' => Blocks w w' [(w.heap.size, 55, CA), (w.heap.size + 1, 55, CB)]) (by kernel_rfl) (HR.out.drew) (fun hHeld => ?_)
      generalize wr.drew = wq at *
      refine wpAnyH_take (i := 0) (v := .pointer (some ⟨w.heap.size, 3, none⟩)) rfl (by kernel_rfl) (by kernel_rfl) (by kernel_rfl) (fun _ _ _ h => h) (Or.inl ⟨by rfl, fun w' hSw => by go_simp⟩) hHeld ?_
      try simp only [Act.put, List.getElem_toArray, List.getElem_cons_succ, List.getElem_cons_zero, List.setIfInBounds_toArray, List.set_cons_zero, List.set_cons_succ]
      refine wpAnyH_take (i := 1) (v := .slice (some ⟨ba, oa, none⟩) n c) rfl (by kernel_rfl) (by kernel_rfl) (by kernel_rfl) (fun _ _ _ h => h) (Or.inl ⟨by rfl, fun w' hSw => by have hq := hSw; have hc := BA.out _ _ _ hq.hd; go_simp⟩) hHeld ?_
      try simp only [Act.put, List.getElem_toArray, List.getElem_cons_succ, List.getElem_cons_zero, List.setIfInBounds_toArray, List.set_cons_zero, List.set_cons_succ]
      refine wpAnyH_take (i := 2) (v := .int .i64 k) rfl (by kernel_rfl) (by kernel_rfl) (by kernel_rfl) (fun _ _ _ h => h) (Or.inl ⟨by rfl, fun w' hSw => by go_simp⟩) hHeld ?_
      try simp only [Act.put, List.getElem_toArray, List.getElem_cons_succ, List.getElem_cons_zero, List.setIfInBounds_toArray, List.set_cons_zero, List.set_cons_succ]
      refine wpAnyH_take (i := 3) (v := .pointer (some ⟨ba, (oa + k * 2), none⟩)) rfl (by kernel_rfl) (by kernel_rfl) (by kernel_rfl) (fun _ _ _ h => h) (Or.inl ⟨by rfl, fun w' hSw => by go_simp⟩) hHeld ?_
      try simp only [Act.put, List.getElem_toArray, List.getElem_cons_succ, List.getElem_cons_zero, List.setIfInBounds_toArray, List.set_cons_zero, List.set_cons_succ]
      refine' wpAnyH_take (i := 4) (v := _) rfl (by kernel_rfl) (by kernel_rfl) (by kernel_rfl) (fun _ _ _ h => h) (yieldsIf_load_mid (by rfl) _ _ rfl ba (oa + k * 2) rfl [.bool d, S t] _ (fun w' hSw => (RA.out _ hSw.1)) hu rfl hi) hHeld ?_
      try simp only [Act.put, List.getElem_toArray, List.getElem_cons_succ, List.getElem_cons_zero, List.setIfInBounds_toArray, List.set_cons_zero, List.set_cons_succ]
      refine wpAnyH_take (i := 5) (v := .pointer (some ⟨(w.heap.size + 1), 3, none⟩)) rfl (by kernel_rfl) (by kernel_rfl) (by kernel_rfl) (fun _ _ _ h => h) (Or.inl ⟨by rfl, fun w' hSw => by go_simp⟩) hHeld ?_
      try simp only [Act.put, List.getElem_toArray, List.getElem_cons_succ, List.getElem_cons_zero, List.setIfInBounds_toArray, List.set_cons_zero, List.set_cons_succ]
      refine wpAnyH_take (i := 6) (v := .slice (some ⟨bb, ob, none⟩) n e) rfl (by kernel_rfl) (by kernel_rfl) (by kernel_rfl) (fun _ _ _ h => h) (Or.inl ⟨by rfl, fun w' hSw => by have hq := hSw; have hc := BB.out _ _ _ hq.tl.hd; go_simp⟩) hHeld ?_
      try simp only [Act.put, List.getElem_toArray, List.getElem_cons_succ, List.getElem_cons_zero, List.setIfInBounds_toArray, List.set_cons_zero, List.set_cons_succ]
      refine wpAnyH_take (i := 7) (v := .int .i64 k) rfl (by kernel_rfl) (by kernel_rfl) (by kernel_rfl) (fun _ _ _ h => h) (Or.inl ⟨by rfl, fun w' hSw => by go_simp⟩) hHeld ?_
      try simp only [Act.put, List.getElem_toArray, List.getElem_cons_succ, List.getElem_cons_zero, List.setIfInBounds_toArray, List.set_cons_zero, List.set_cons_succ]
      refine wpAnyH_take (i := 8) (v := .pointer (some ⟨bb, (ob + k * 2), none⟩)) rfl (by kernel_rfl) (by kernel_rfl) (by kernel_rfl) (fun _ _ _ h => h) (Or.inl ⟨by rfl, fun w' hSw => by go_simp⟩) hHeld ?_
      try simp only [Act.put, List.getElem_toArray, List.getElem_cons_succ, List.getElem_cons_zero, List.setIfInBounds_toArray, List.set_cons_zero, List.set_cons_succ]
      refine' wpAnyH_take (i := 9) (v := _) rfl (by kernel_rfl) (by kernel_rfl) (by kernel_rfl) (fun _ _ _ h => h) (yieldsIf_load_mid (by rfl) _ _ rfl bb (ob + k * 2) rfl [.bool d, S t] _ (fun w' hSw => (RB.out _ hSw.1)) hu rfl hi) hHeld ?_
      try simp only [Act.put, List.getElem_toArray, List.getElem_cons_succ, List.getElem_cons_zero, List.setIfInBounds_toArray, List.set_cons_zero, List.set_cons_succ]
      refine wpAnyH_take (i := 10) (v := .bool false) rfl (by kernel_rfl) (by kernel_rfl) (by kernel_rfl) (fun _ _ _ h => h) (Or.inl ⟨by rfl, fun w' hSw => by go_simp⟩) hHeld ?_
      try simp only [Act.put, List.getElem_toArray, List.getElem_cons_succ, List.getElem_cons_zero, List.setIfInBounds_toArray, List.set_cons_zero, List.set_cons_succ]
      refine wpAnyH_done (by kernel_rfl) ?_ _
      refine NoPanic.normal ?_
      have HRe : Blocks w wq [(w.heap.size, 55, CA), (w.heap.size + 1, 55, CB)] := hHeld
      clear hHeld
      go_wp2_with fail
      exact ⟨⟨k + 1, hkn, by go_num, HRe⟩, by simp [intOf]; omega⟩
    · have hki : (n : Int) ≤ (k : Int) := by omega
      go_wp2_with fail
      go_ret
      exact ⟨rfl, HR.out.1⟩
end Go.Proofs.YtdekcicgiflnbaaDoor
