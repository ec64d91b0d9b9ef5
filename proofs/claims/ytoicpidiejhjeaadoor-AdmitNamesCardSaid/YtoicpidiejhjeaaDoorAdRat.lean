/- The reference's gate: At. -/
import Derived.Test.YtoicpidiejhjeaaDoorAdRef
import Derived.Test.YtoicpidiejhjeaaDoorTxAwk
namespace Go.Proofs.YtoicpidiejhjeaaDoor
open Go.RowKit
set_option linter.unusedVariables false
set_option linter.unusedSimpArgs false
set_option maxRecDepth 100000

theorem tx_eq_yes (W : World) {a b : Tx} (ha : a.Ok) (hb : b.Ok) (h : a = b) : (Op.equalIn 10000 35 (.agg a.cells.toArray) (.agg b.cells.toArray)).run Tryd.prog W = .ok true W := by
  subst h; exact tx_same W ha
theorem tx_eq_no (W : World) {a b : Tx} (ha : a.Ok) (hb : b.Ok) (h : a ≠ b) : (Op.equalIn 10000 35 (.agg a.cells.toArray) (.agg b.cells.toArray)).run Tryd.prog W = .ok false W := by
  obtain ⟨r, hr, hi⟩ := tx_eq W a b ha hb
  cases r with
  | true => exact absurd (hi.1 rfl) h
  | false => exact hr
set_option maxHeartbeats 3200000 in
theorem rgAt_any {w : World} {base B K n : Nat} {v : Value} {fl : Int} {N : List Int} {L : List Tx} (t : Tx) (ht : t.Ok) (h : RGAt w base B K v fl N L n) (hn : n ≤ 1000) :
    Calls Tryd.prog 30 #[.pointer (some ⟨B, 0, none⟩), .agg t.cells.toArray] w fun e w' => (∃ i : Int, e = .returned (.int .i64 i) ∧ (i = -1 ∨ ∃ (k : Nat) (hk : k < L.length), i = k ∧ L[k] = t)) ∧ Below w.heap.size w w' := by
  obtain ⟨A, c, rfl, _, _⟩ := h.own.form
  have HT72 := Lib.hid (Tx.cells_length ht)
  have HH := Lib.hid h
  have HTok := Lib.hid ht
  have hl := h.txs.2
  obtain ⟨m, hm⟩ : ∃ m, m = L.length := ⟨_, rfl⟩
  have HV0 : Hid (∀ W, Below (w.alloc (.cells t.cells.toArray 35)).heap.size (w.alloc (.cells t.cells.toArray 35)) W → W.cell? ⟨B, 2, none⟩ = some (.slice A m c)) := Lib.hid (fun W hW => by rw [hm]; exact (h.below (((Below.refl _ _).alloc (Nat.le_refl _) _).trans (hW.mono (by simp)))).c2)
  rw [← hm] at hl
  have HM := Lib.hid hm
  have HR0 := Lib.hid (Row.new w 35 t.cells)
  have hb0 : Below w.heap.size w (w.alloc (.cells t.cells.toArray 35)) := (Below.refl _ _).alloc (Nat.le_refl _) _
  have HB0 := Lib.hid hb0
  have c2 := HV0.out _ (Below.refl _ _)
  clear h hm ht hb0
  obtain ⟨CT, hCT⟩ : ∃ CT, t.cells = CT := ⟨_, rfl⟩
  rw [hCT] at HT72 HV0 HR0 HB0 c2 ⊢
  have HCT := Lib.hid hCT
  clear hCT
  go_enter Tryd.func30, Tryd.ntmps30
  go_wp2_with fail
  go_loopw [5] (fun i wr => ∃ k : Nat, k ≤ m ∧ i = .int .i64 k ∧ Below (w.alloc (.cells CT.toArray 35)).heap.size (w.alloc (.cells CT.toArray 35)) wr) (fun i _ => m - (intOf i).toNat)
  case atStart => exact ⟨0, Nat.zero_le _, rfl, Below.refl _ _⟩
  case round =>
    obtain ⟨k, hk, rfl, hbr⟩ := hrel
    have Hbr := Lib.hid hbr
    clear hbr c2
    have c2 := HV0.out _ Hbr.out
    by_cases hkn : k < m
    · have hki : (k : Int) < (m : Int) := by omega
      have hk0 : (0 : Int) ≤ (k : Int) := by omega
      have hkl : k < L.length := by rw [← HM.out]; exact hkn
      obtain ⟨g, c', e, _, hg⟩ := HH.out.own.ne (by intro e; rw [e] at hkl; simp at hkl)
      injection e with e1 _ e2
      subst e1 e2
      have hok := (HH.out.txs.1 _ (List.getElem_mem hkl)).1
      have hra := HH.out.own.at (Tx.cells_lenL L (fun t ht => (HH.out.txs.1 t ht).1)) k hkl
      have HLK : Hid (∀ W, Below (w.alloc (.cells CT.toArray 35)).heap.size (w.alloc (.cells CT.toArray 35)) W → W.rangeAt g (k * 72) (L[k]).cells) := Lib.hid (fun W hW j u hu => ((HB0.out.trans (hW.mono (by simp))).cell (p := ⟨g, k * 72 + j, none⟩) hg).trans (hra j u hu))
      have HLK72 := Lib.hid (Tx.cells_length hok)
      have HV := Lib.hid HV0.out
      go_wp2_with fail
      clear c2
      by_cases he : L[k] = t
      · have HEq : Hid (∀ W, (Op.equalIn 10000 35 (.agg (L[k]).cells.toArray) (.agg CT.toArray)).run Tryd.prog W = .ok true W) := Lib.hid (fun W => by rw [← HCT.out]; exact tx_eq_yes W hok HTok.out he)
        have HE := Lib.hid he
        generalize (L[k]).cells = LK at *
        clear hra hok he
        refine wp_region_noPanic ?_
        refine wp_region_held_drew (S := fun w' => Below (w.alloc (.cells CT.toArray 35)).heap.size (w.alloc (.cells CT.toArray 35)) w') (by kernel_rfl) (Hbr.out.drew) (fun hHeld => ?_)
        generalize wr.drew = wq at *
        refine wpAnyH_take (i := 0) (v := .pointer (some ⟨B, 0, none⟩)) rfl (by kernel_rfl) (by kernel_rfl) (by kernel_rfl) (fun _ _ _ h => h) (Or.inl ⟨by rfl, fun w' hSw => by go_simp⟩) hHeld ?_
        try simp only [Act.put, List.getElem_toArray, List.getElem_cons_succ, List.getElem_cons_zero, List.setIfInBounds_toArray, List.set_cons_zero, List.set_cons_succ]
        refine wpAnyH_take (i := 1) (v := .pointer (some ⟨B, 0, none⟩)) rfl (by kernel_rfl) (by kernel_rfl) (by kernel_rfl) (fun _ _ _ h => h) (Or.inl ⟨by rfl, fun w' hSw => by go_simp⟩) hHeld ?_
        try simp only [Act.put, List.getElem_toArray, List.getElem_cons_succ, List.getElem_cons_zero, List.setIfInBounds_toArray, List.set_cons_zero, List.set_cons_succ]
        refine wpAnyH_take (i := 2) (v := .pointer (some ⟨B, 2, none⟩)) rfl (by kernel_rfl) (by kernel_rfl) (by kernel_rfl) (fun _ _ _ h => h) (Or.inl ⟨by rfl, fun w' hSw => by go_simp⟩) hHeld ?_
        try simp only [Act.put, List.getElem_toArray, List.getElem_cons_succ, List.getElem_cons_zero, List.setIfInBounds_toArray, List.set_cons_zero, List.set_cons_succ]
        refine wpAnyH_take (i := 3) (v := .slice (some ⟨g, 0, none⟩) m c) rfl (by kernel_rfl) (by kernel_rfl) (by kernel_rfl) (fun _ _ _ h => h) (Or.inl ⟨by rfl, fun w' hSw => by have hq := hSw; have hd := HV.out _ hq; go_simp⟩) hHeld ?_
        try simp only [Act.put, List.getElem_toArray, List.getElem_cons_succ, List.getElem_cons_zero, List.setIfInBounds_toArray, List.set_cons_zero, List.set_cons_succ]
        refine wpAnyH_take (i := 4) (v := .int .i64 k) rfl (by kernel_rfl) (by kernel_rfl) (by kernel_rfl) (fun _ _ _ h => h) (Or.inl ⟨by rfl, fun w' hSw => by go_simp⟩) hHeld ?_
        try simp only [Act.put, List.getElem_toArray, List.getElem_cons_succ, List.getElem_cons_zero, List.setIfInBounds_toArray, List.set_cons_zero, List.set_cons_succ]
        refine wpAnyH_take (i := 5) (v := .pointer (some ⟨g, (k * 72), none⟩)) rfl (by kernel_rfl) (by kernel_rfl) (by kernel_rfl) (fun _ _ _ h => h) (Or.inl ⟨by rfl, fun w' hSw => by go_simp⟩) hHeld ?_
        try simp only [Act.put, List.getElem_toArray, List.getElem_cons_succ, List.getElem_cons_zero, List.setIfInBounds_toArray, List.set_cons_zero, List.set_cons_succ]
        refine' wpAnyH_take (i := 6) (v := _) rfl (by kernel_rfl) (by kernel_rfl) (by kernel_rfl) (fun _ _ _ h => h) (yieldsIf_load_mid (by rfl) _ _ rfl g (k * 72) rfl LK _ (fun w' hSw => HLK.out _ hSw) Tryd.underlying35 rfl (by rw [tx_info, HLK72.out])) hHeld ?_
        try simp only [Act.put, List.getElem_toArray, List.getElem_cons_succ, List.getElem_cons_zero, List.setIfInBounds_toArray, List.set_cons_zero, List.set_cons_succ]
        refine' wpAnyH_take (i := 7) (v := _) rfl (by kernel_rfl) (by kernel_rfl) (by kernel_rfl) (fun _ _ _ h => h) (yieldsIf_load_mid (by rfl) _ _ rfl w.heap.size 0 rfl CT _ (fun w' hSw => row_range (HR0.out.below hSw)) Tryd.underlying35 rfl (by rw [tx_info, HT72.out])) hHeld ?_
        try simp only [Act.put, List.getElem_toArray, List.getElem_cons_succ, List.getElem_cons_zero, List.setIfInBounds_toArray, List.set_cons_zero, List.set_cons_succ]
        refine wpAnyH_take (i := 8) (v := .bool true) rfl (by kernel_rfl) (by kernel_rfl) (by kernel_rfl) (fun _ _ _ h => h) (Or.inl ⟨by rfl, fun w' hSw => by have hq := hSw; have hd := HEq.out; go_simp⟩) hHeld ?_
        try simp only [Act.put, List.getElem_toArray, List.getElem_cons_succ, List.getElem_cons_zero, List.setIfInBounds_toArray, List.set_cons_zero, List.set_cons_succ]
        refine wpAnyH_done (by kernel_rfl) ?_ _
        refine NoPanic.normal ?_
        have HB9 := Lib.hid (HB0.out.trans (hHeld.mono (by simp)))
        clear hHeld
        go_wp2_with fail
        go_ret
        exact ⟨⟨k, rfl, .inr ⟨k, hkl, rfl, HE.out⟩⟩, HB9.out⟩
      · have HEq : Hid (∀ W, (Op.equalIn 10000 35 (.agg (L[k]).cells.toArray) (.agg CT.toArray)).run Tryd.prog W = .ok false W) := Lib.hid (fun W => by rw [← HCT.out]; exact tx_eq_no W hok HTok.out he)
        generalize (L[k]).cells = LK at *
        clear hra hok he
        refine wp_region_noPanic ?_
        refine wp_region_held_drew (S := fun w' => Below (w.alloc (.cells CT.toArray 35)).heap.size (w.alloc (.cells CT.toArray 35)) w') (by kernel_rfl) (Hbr.out.drew) (fun hHeld => ?_)
        generalize wr.drew = wq at *
        refine wpAnyH_take (i := 0) (v := .pointer (some ⟨B, 0, none⟩)) rfl (by kernel_rfl) (by kernel_rfl) (by kernel_rfl) (fun _ _ _ h => h) (Or.inl ⟨by rfl, fun w' hSw => by go_simp⟩) hHeld ?_
        try simp only [Act.put, List.getElem_toArray, List.getElem_cons_succ, List.getElem_cons_zero, List.setIfInBounds_toArray, List.set_cons_zero, List.set_cons_succ]
        refine wpAnyH_take (i := 1) (v := .pointer (some ⟨B, 0, none⟩)) rfl (by kernel_rfl) (by kernel_rfl) (by kernel_rfl) (fun _ _ _ h => h) (Or.inl ⟨by rfl, fun w' hSw => by go_simp⟩) hHeld ?_
        try simp only [Act.put, List.getElem_toArray, List.getElem_cons_succ, List.getElem_cons_zero, List.setIfInBounds_toArray, List.set_cons_zero, List.set_cons_succ]
        refine wpAnyH_take (i := 2) (v := .pointer (some ⟨B, 2, none⟩)) rfl (by kernel_rfl) (by kernel_rfl) (by kernel_rfl) (fun _ _ _ h => h) (Or.inl ⟨by rfl, fun w' hSw => by go_simp⟩) hHeld ?_
        try simp only [Act.put, List.getElem_toArray, List.getElem_cons_succ, List.getElem_cons_zero, List.setIfInBounds_toArray, List.set_cons_zero, List.set_cons_succ]
        refine wpAnyH_take (i := 3) (v := .slice (some ⟨g, 0, none⟩) m c) rfl (by kernel_rfl) (by kernel_rfl) (by kernel_rfl) (fun _ _ _ h => h) (Or.inl ⟨by rfl, fun w' hSw => by have hq := hSw; have hd := HV.out _ hq; go_simp⟩) hHeld ?_
        try simp only [Act.put, List.getElem_toArray, List.getElem_cons_succ, List.getElem_cons_zero, List.setIfInBounds_toArray, List.set_cons_zero, List.set_cons_succ]
        refine wpAnyH_take (i := 4) (v := .int .i64 k) rfl (by kernel_rfl) (by kernel_rfl) (by kernel_rfl) (fun _ _ _ h => h) (Or.inl ⟨by rfl, fun w' hSw => by go_simp⟩) hHeld ?_
        try simp only [Act.put, List.getElem_toArray, List.getElem_cons_succ, List.getElem_cons_zero, List.setIfInBounds_toArray, List.set_cons_zero, List.set_cons_succ]
        refine wpAnyH_take (i := 5) (v := .pointer (some ⟨g, (k * 72), none⟩)) rfl (by kernel_rfl) (by kernel_rfl) (by kernel_rfl) (fun _ _ _ h => h) (Or.inl ⟨by rfl, fun w' hSw => by go_simp⟩) hHeld ?_
        try simp only [Act.put, List.getElem_toArray, List.getElem_cons_succ, List.getElem_cons_zero, List.setIfInBounds_toArray, List.set_cons_zero, List.set_cons_succ]
        refine' wpAnyH_take (i := 6) (v := _) rfl (by kernel_rfl) (by kernel_rfl) (by kernel_rfl) (fun _ _ _ h => h) (yieldsIf_load_mid (by rfl) _ _ rfl g (k * 72) rfl LK _ (fun w' hSw => HLK.out _ hSw) Tryd.underlying35 rfl (by rw [tx_info, HLK72.out])) hHeld ?_
        try simp only [Act.put, List.getElem_toArray, List.getElem_cons_succ, List.getElem_cons_zero, List.setIfInBounds_toArray, List.set_cons_zero, List.set_cons_succ]
        refine' wpAnyH_take (i := 7) (v := _) rfl (by kernel_rfl) (by kernel_rfl) (by kernel_rfl) (fun _ _ _ h => h) (yieldsIf_load_mid (by rfl) _ _ rfl w.heap.size 0 rfl CT _ (fun w' hSw => row_range (HR0.out.below hSw)) Tryd.underlying35 rfl (by rw [tx_info, HT72.out])) hHeld ?_
        try simp only [Act.put, List.getElem_toArray, List.getElem_cons_succ, List.getElem_cons_zero, List.setIfInBounds_toArray, List.set_cons_zero, List.set_cons_succ]
        refine wpAnyH_take (i := 8) (v := .bool false) rfl (by kernel_rfl) (by kernel_rfl) (by kernel_rfl) (fun _ _ _ h => h) (Or.inl ⟨by rfl, fun w' hSw => by have hq := hSw; have hd := HEq.out; go_simp⟩) hHeld ?_
        try simp only [Act.put, List.getElem_toArray, List.getElem_cons_succ, List.getElem_cons_zero, List.setIfInBounds_toArray, List.set_cons_zero, List.set_cons_succ]
        refine wpAnyH_done (by kernel_rfl) ?_ _
        refine NoPanic.normal ?_
        have HB9 := Lib.hid hHeld
        clear hHeld
        go_wp2_with fail
        exact ⟨⟨k + 1, by omega, by go_num, HB9.out⟩, by simp [intOf]; omega⟩
    · have hki : (m : Int) ≤ (k : Int) := by omega
      clear hkn
      go_wp2_with fail
      go_ret
      exact ⟨⟨-1, rfl, .inl rfl⟩, HB0.out.trans (Hbr.out.mono (by simp))⟩
end Go.Proofs.YtoicpidiejhjeaaDoor
