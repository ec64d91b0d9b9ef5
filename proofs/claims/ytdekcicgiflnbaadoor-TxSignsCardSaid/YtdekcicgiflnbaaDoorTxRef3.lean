/- The reference of layer 4: Text. -/
import Derived.Test.YtdekcicgiflnbaaDoorTxRef
namespace Go.Proofs.YtdekcicgiflnbaaDoor
open Go.RowKit
set_option linter.unusedVariables false
set_option linter.unusedSimpArgs false

theorem rlist_3 (a b c : List UInt8) (W : World) : Calls Tryd.prog 58 #[.slice (some ⟨W.heap.size, 0, none⟩) 3 3] (W.alloc (.cells #[S a, S b, S c] 9)) fun e w' => e = .returned (.tuple #[S (Oct.listE [a, b, c]).1, .int .i64 (Oct.listE [a, b, c]).2]) ∧ Below (W.alloc (.cells #[S a, S b, S c] 9)).heap.size (W.alloc (.cells #[S a, S b, S c] 9)) w' :=
  refList_any _ 3 [a, b, c] _ (texts_new W 9 [a, b, c])
theorem rlist_2 (a b : List UInt8) (W : World) : Calls Tryd.prog 58 #[.slice (some ⟨W.heap.size, 0, none⟩) 2 2] (W.alloc (.cells #[S a, S b] 9)) fun e w' => e = .returned (.tuple #[S (Oct.listE [a, b]).1, .int .i64 (Oct.listE [a, b]).2]) ∧ Below (W.alloc (.cells #[S a, S b] 9)).heap.size (W.alloc (.cells #[S a, S b] 9)) w' :=
  refList_any _ 2 [a, b] _ (texts_new W 9 [a, b])
theorem hash_load (W : World) (g o : Nat) (h : List UInt8) (hh : h.length = 32) (hg : W.rangeAt g o (bRow h).toList) : (Instr.loadAt 23 (.pointer (some ⟨g, o, none⟩))).run Tryd.prog W = .ok (.agg (bRow h)) W :=
  run_loadAt_mid W g o 23 (bRow h).toList _ hg Tryd.underlying23 rfl (by rw [hash_info, Tx.bRow_len h hh])
theorem rt_step {w0 w w' : World} {g : Nat} {a b : List UInt8} {o1 o2 : Nat} (h1 : a.length = 32) (h2 : b.length = 32)
    (h : (Instr.loadAt 23 (.pointer (some ⟨g, o1, none⟩))).run Tryd.prog w = .ok (.agg (bRow a)) w ∧ (Instr.loadAt 23 (.pointer (some ⟨g, o2, none⟩))).run Tryd.prog w = .ok (.agg (bRow b)) w ∧ (w.rangeAt g o1 (bRow a).toList ∧ w.rangeAt g o2 (bRow b).toList ∧ Below w0.heap.size w0 w))
    (hb : Below w.heap.size w w') :
    (Instr.loadAt 23 (.pointer (some ⟨g, o1, none⟩))).run Tryd.prog w' = .ok (.agg (bRow a)) w' ∧ (Instr.loadAt 23 (.pointer (some ⟨g, o2, none⟩))).run Tryd.prog w' = .ok (.agg (bRow b)) w' ∧ (w'.rangeAt g o1 (bRow a).toList ∧ w'.rangeAt g o2 (bRow b).toList ∧ Below w0.heap.size w0 w') := by
  have hg := grownBy_of_below hb none
  have r1 : w'.rangeAt g o1 (bRow a).toList := fun j v hv => hg.cell (h.2.2.1 j v hv) (by simp)
  have r2 : w'.rangeAt g o2 (bRow b).toList := fun j v hv => hg.cell (h.2.2.2.1 j v hv) (by simp)
  exact ⟨hash_load w' g o1 a h1 r1, hash_load w' g o2 b h2 r2, r1, r2, h.2.2.2.2.grown hg h.2.2.2.2.size (fun k hk => by cases hk)⟩

def TextIn (w0 W : World) (g : Nat) (a b : List UInt8) : Prop := W.rangeAt g 40 (bRow a).toList ∧ W.rangeAt g 8 (bRow b).toList ∧ Below w0.heap.size w0 W
theorem TextIn.step {w0 W W' : World} {g : Nat} {a b : List UInt8} (h : TextIn w0 W g a b) (hb : Below W.heap.size W W') : TextIn w0 W' g a b := by
  have hg := grownBy_of_below hb none
  exact ⟨fun j v hv => hg.cell (h.1 j v hv) (by simp), fun j v hv => hg.cell (h.2.1 j v hv) (by simp), two_below' h.2.2 hb⟩
set_option maxRecDepth 20000 in
set_option maxHeartbeats 800000 in
theorem rtext_any (t : Tx) (ht : t.Ok) (w : World) :
    Calls Tryd.prog 17 #[t.v] w fun e w' => e = .returned (.tuple #[S t.textE.1, .int .i64 t.textE.2]) ∧ Below w.heap.size w w' := by
  have hrow0 := Row.new w 25 t.cells
  have hrng := tx_range hrow0
  have hlen := Tx.cells_length ht
  have BD : Hid (∀ W, Calls Tryd.prog 15 #[.agg t.cells.toArray] W fun e w' => e = .returned (.tuple #[S t.bodyE.1, .int .i64 t.bodyE.2]) ∧ Below W.heap.size W w') := fun W => rbody_any t ht W
  have BX : Hid (∀ (W : World) (g : Nat) (T : TypeId), Row W g T t.cells → W.cell? ⟨g, 5, none⟩ = some (.bool t.lane) ∧ W.rangeAt g 8 (bRow t.bY).toList ∧ W.rangeAt g 40 (bRow t.tag).toList) := fun W g T h =>
    ⟨(tx_box ht h).2.2.2.2.2.1, (tx_hash_at ht h).1, (tx_hash_at ht h).2⟩
  have hT := ht.tag
  have hY := ht.bY
  have HT := Lib.hid hT
  have HY := Lib.hid hY
  have HB32 := Lib.hid (Tx.bRow_len _ hT)
  have BT := Lib.hid (fun W => bytes_any t.tag W hT)
  have BY := Lib.hid (fun W => bytes_any t.bY W hY)
  have htx : t.bodyE.2 = 0 → t.lane = true → t.textE = Oct.listE [t.bodyE.1, t.tag, t.bY] := fun h1 h2 => by unfold Tx.textE Tx.outer; rw [if_pos h1, if_pos h2]
  have htx2 : t.bodyE.2 = 0 → t.lane = false → t.textE = Oct.listE [t.bodyE.1, t.tag] := fun h1 h2 => by unfold Tx.textE Tx.outer; rw [if_pos h1, if_neg (by rw [h2]; simp)]
  have htx3 : t.bodyE.2 ≠ 0 → t.textE = ([], t.bodyE.2) := fun h1 => by unfold Tx.textE; rw [if_neg h1]
  show Calls _ _ #[.agg t.cells.toArray] _ _
  generalize t.cells = C at *
  generalize t.textE = TE at *
  generalize hbe : t.bodyE = BE at *
  obtain ⟨bs, be⟩ := BE
  simp only at htx htx2 htx3 BD
  have Htx := Lib.hid htx
  have Htx2 := Lib.hid htx2
  have Htx3 := Lib.hid htx3
  have HL := Lib.hid hlen
  have Hrng := Lib.hid hrng
  have Hrow0 := Lib.hid hrow0
  clear hrow0 hrng hlen hT hY htx htx2 htx3 hbe ht
  by_cases he : be = 0
  · subst he
    rcases Bool.eq_false_or_eq_true t.lane with hl | hl
    · have Hlane := Lib.hid hl
      go_enter Tryd.func17, Tryd.ntmps17
      go_wp2_with (with_reducible show wpList _ _ _ (⟨_, .load 25 _, _, _, _, _⟩ :: _) _ _; refine wpList_load_tx rfl 25 (.tmp 1) rfl w.heap.size 0 rfl C _ Hrng.out Tryd.underlying25 rfl (by rw [tx_info, HL.out]) ?_)
      refine (BD.out _).mono ?_
      rintro _ w1 ⟨rfl, hb1⟩
      have hg1 := grownBy_of_below hb1 none
      have hr1 := Hrow0.out.kept hg1 (by simp)
      obtain ⟨c5, ry, rt⟩ := BX.out _ _ _ hr1
      have hbt1 := tx_below hg1
      have hkeep0 : TextIn w w1.drew w.heap.size t.tag t.bY := ⟨rt, ry, hbt1.drew⟩
      have hu23 := Tryd.underlying23
      have hi1 : (Tryd.prog.info? 23).map (·.size) = some (bRow t.tag).toList.length := by rw [hash_info, HB32.out]
      have hi2 : (Tryd.prog.info? 23).map (·.size) = some (bRow t.bY).toList.length := by rw [hash_info, Tx.bRow_len _ HY.out]
      clear hb1 hg1 hr1 ry rt hbt1
      go_wp2_with fail
      refine wp_region_noPanic ?_
      refine wp_region_held_drew (S := fun w' => TextIn w w' w.heap.size t.tag t.bY) (by kernel_rfl) (hkeep0) (fun hHeld => ?_)
      generalize w1.drew = w6 at *
      refine wpAnyH_take (i := 0) (v := S bs) rfl (by kernel_rfl) (by kernel_rfl) (by kernel_rfl) (fun _ _ _ h => h) (Or.inl ⟨by rfl, fun w' hSw => by go_simp⟩) hHeld ?_
      try simp only [Act.put, List.getElem_toArray, List.getElem_cons_succ, List.getElem_cons_zero, List.setIfInBounds_toArray, List.set_cons_zero, List.set_cons_succ]
      refine wpAnyH_take (i := 1) (v := .pointer (some ⟨w.heap.size, 40, none⟩)) rfl (by kernel_rfl) (by kernel_rfl) (by kernel_rfl) (fun _ _ _ h => h) (Or.inl ⟨by rfl, fun w' hSw => by go_simp⟩) hHeld ?_
      try simp only [Act.put, List.getElem_toArray, List.getElem_cons_succ, List.getElem_cons_zero, List.setIfInBounds_toArray, List.set_cons_zero, List.set_cons_succ]
      refine' wpAnyH_take (i := 2) (v := _) rfl (by kernel_rfl) (by kernel_rfl) (by kernel_rfl) (fun _ _ _ h => h) (yieldsIf_load_mid (by rfl) _ _ rfl w.heap.size 40 rfl (bRow t.tag).toList _ (fun w' hSw => hSw.1) hu23 rfl hi1) hHeld ?_
      try simp only [Act.put, List.getElem_toArray, List.getElem_cons_succ, List.getElem_cons_zero, List.setIfInBounds_toArray, List.set_cons_zero, List.set_cons_succ]
      refine wpAnyH_take (i := 4) (v := .pointer (some ⟨w.heap.size, 8, none⟩)) rfl (by kernel_rfl) (by kernel_rfl) (by kernel_rfl) (fun _ _ _ h => h) (Or.inl ⟨by rfl, fun w' hSw => by go_simp⟩) hHeld ?_
      try simp only [Act.put, List.getElem_toArray, List.getElem_cons_succ, List.getElem_cons_zero, List.setIfInBounds_toArray, List.set_cons_zero, List.set_cons_succ]
      refine' wpAnyH_take (i := 5) (v := _) rfl (by kernel_rfl) (by kernel_rfl) (by kernel_rfl) (fun _ _ _ h => h) (yieldsIf_load_mid (by rfl) _ _ rfl w.heap.size 8 rfl (bRow t.bY).toList _ (fun w' hSw => hSw.2.1) hu23 rfl hi2) hHeld ?_
      try simp only [Act.put, List.getElem_toArray, List.getElem_cons_succ, List.getElem_cons_zero, List.setIfInBounds_toArray, List.set_cons_zero, List.set_cons_succ]
      refine wpAnyH_ready (rs := [3]) (by kernel_rfl) (by simp) (AllReadyH.cons rfl (fun K1 hK1 => ?_) AllReadyH.nil)
      try simp only [Act.put, List.getElem_toArray, List.getElem_cons_succ, List.getElem_cons_zero, List.setIfInBounds_toArray, List.set_cons_zero, List.set_cons_succ]
      go_simp
      refine Calls.mono (BT.out _) ?_
      rintro e wa ⟨rfl, hba⟩
      refine hK1.out _ _ (hHeld.step hba) (fun hHeld => ?_)
      clear hK1 K1
      try simp only [Act.put, List.getElem_toArray, List.getElem_cons_succ, List.getElem_cons_zero, List.setIfInBounds_toArray, List.set_cons_zero, List.set_cons_succ]
      refine wpAnyH_ready (rs := [6]) (by kernel_rfl) (by simp) (AllReadyH.cons rfl (fun K1 hK1 => ?_) AllReadyH.nil)
      try simp only [Act.put, List.getElem_toArray, List.getElem_cons_succ, List.getElem_cons_zero, List.setIfInBounds_toArray, List.set_cons_zero, List.set_cons_succ]
      go_simp
      refine Calls.mono (BY.out _) ?_
      rintro e wb ⟨rfl, hbb⟩
      refine hK1.out _ _ (hHeld.step hbb) (fun hHeld => ?_)
      clear hK1 K1
      try simp only [Act.put, List.getElem_toArray, List.getElem_cons_succ, List.getElem_cons_zero, List.setIfInBounds_toArray, List.set_cons_zero, List.set_cons_succ]
      refine wpAnyH_ready (rs := [7]) (by kernel_rfl) (by simp) (AllReadyH.cons rfl (fun K1 hK1 => ?_) AllReadyH.nil)
      try simp only [Act.put, List.getElem_toArray, List.getElem_cons_succ, List.getElem_cons_zero, List.setIfInBounds_toArray, List.set_cons_zero, List.set_cons_succ]
      go_simp
      refine hK1.out _ _ (hHeld.step ((Below.refl _ _).alloc (Nat.le_refl _) _)) (fun hHeld => ?_)
      clear hK1 K1
      try simp only [Act.put, List.getElem_toArray, List.getElem_cons_succ, List.getElem_cons_zero, List.setIfInBounds_toArray, List.set_cons_zero, List.set_cons_succ]
      refine wpAnyH_ready (rs := [8]) (by kernel_rfl) (by simp) (AllReadyH.cons rfl (fun K1 hK1 => ?_) AllReadyH.nil)
      try simp only [Act.put, List.getElem_toArray, List.getElem_cons_succ, List.getElem_cons_zero, List.setIfInBounds_toArray, List.set_cons_zero, List.set_cons_succ]
      go_simp
      refine Calls.mono (rlist_3 _ _ _ _) ?_
      rintro e wc ⟨rfl, hbc⟩
      refine hK1.out _ _ (hHeld.step hbc) (fun hHeld => ?_)
      clear hK1 K1
      try simp only [Act.put, List.getElem_toArray, List.getElem_cons_succ, List.getElem_cons_zero, List.setIfInBounds_toArray, List.set_cons_zero, List.set_cons_succ]
      refine wpAnyH_take (i := 9) (v := S (Oct.listE [bs, t.tag, t.bY]).1) rfl (by kernel_rfl) (by kernel_rfl) (by kernel_rfl) (fun _ _ _ h => h) (Or.inl ⟨by rfl, fun w' hSw => by go_simp⟩) hHeld ?_
      try simp only [Act.put, List.getElem_toArray, List.getElem_cons_succ, List.getElem_cons_zero, List.setIfInBounds_toArray, List.set_cons_zero, List.set_cons_succ]
      refine wpAnyH_take (i := 10) (v := .int .i64 (Oct.listE [bs, t.tag, t.bY]).2) rfl (by kernel_rfl) (by kernel_rfl) (by kernel_rfl) (fun _ _ _ h => h) (Or.inl ⟨by rfl, fun w' hSw => by go_simp⟩) hHeld ?_
      try simp only [Act.put, List.getElem_toArray, List.getElem_cons_succ, List.getElem_cons_zero, List.setIfInBounds_toArray, List.set_cons_zero, List.set_cons_succ]
      refine wpAnyH_take (i := 11) (v := S (Oct.listE [bs, t.tag, t.bY]).1) rfl (by kernel_rfl) (by kernel_rfl) (by kernel_rfl) (fun _ _ _ h => h) (Or.inl ⟨by rfl, fun w' hSw => by go_simp⟩) hHeld ?_
      try simp only [Act.put, List.getElem_toArray, List.getElem_cons_succ, List.getElem_cons_zero, List.setIfInBounds_toArray, List.set_cons_zero, List.set_cons_succ]
      refine wpAnyH_take (i := 12) (v := .int .i64 (Oct.listE [bs, t.tag, t.bY]).2) rfl (by kernel_rfl) (by kernel_rfl) (by kernel_rfl) (fun _ _ _ h => h) (Or.inl ⟨by rfl, fun w' hSw => by go_simp⟩) hHeld ?_
      try simp only [Act.put, List.getElem_toArray, List.getElem_cons_succ, List.getElem_cons_zero, List.setIfInBounds_toArray, List.set_cons_zero, List.set_cons_succ]
      refine wpAnyH_done (by kernel_rfl) ?_ _
      refine NoPanic.normal ?_
      have hbe := hHeld.2.2
      have Hbe := Lib.hid hbe
      clear hbe hHeld hkeep0 hba hbb hbc
      go_wp2_with fail
      go_ret2
      rw [Htx.out trivial Hlane.out]
      exact ⟨rfl, Hbe.out⟩
    · have Hlane := Lib.hid hl
      go_enter Tryd.func17, Tryd.ntmps17
      go_wp2_with (with_reducible show wpList _ _ _ (⟨_, .load 25 _, _, _, _, _⟩ :: _) _ _; refine wpList_load_tx rfl 25 (.tmp 1) rfl w.heap.size 0 rfl C _ Hrng.out Tryd.underlying25 rfl (by rw [tx_info, HL.out]) ?_)
      refine (BD.out _).mono ?_
      rintro _ w1 ⟨rfl, hb1⟩
      have hg1 := grownBy_of_below hb1 none
      have hr1 := Hrow0.out.kept hg1 (by simp)
      obtain ⟨c5, ry, rt⟩ := BX.out _ _ _ hr1
      have Hbt1 := Lib.hid (tx_below hg1)
      have Hrt := Lib.hid rt
      clear hb1 hg1 hr1 ry rt
      go_wp2_with (with_reducible show wpList _ _ _ (⟨_, .load 23 _, _, _, _, _⟩ :: _) _ _; refine wpList_load_tx rfl 23 (.tmp 28) rfl w.heap.size 40 rfl (bRow t.tag).toList _ Hrt.out Tryd.underlying23 rfl (by rw [hash_info, HB32.out]) ?_)
      refine (BT.out _).mono ?_
      rintro _ w2 ⟨rfl, hb2⟩
      have Hb2 := Lib.hid (two_below' Hbt1.out hb2)
      have LT := Lib.hid (rlist_2 bs t.tag w2)
      clear hb2
      go_wp2_with fail
      refine LT.out.mono ?_
      rintro _ w3 ⟨rfl, hb3⟩
      have hbe : Below w.heap.size w w3 := (Hb2.out.alloc Hb2.out.size _).grown (grownBy_of_below hb3 none) (by have := Hb2.out.size; simp; omega) (fun k hk => by cases hk)
      have Hbe := Lib.hid hbe
      clear hbe hb3
      go_wp2_with fail
      go_ret2
      rw [Htx2.out trivial Hlane.out]
      exact ⟨rfl, Hbe.out⟩
  · have hne : (be != 0) = true := by simpa using he
    have Hne := Lib.hid he
    clear he
    go_enter Tryd.func17, Tryd.ntmps17
    go_wp2_with (with_reducible show wpList _ _ _ (⟨_, .load 25 _, _, _, _, _⟩ :: _) _ _; refine wpList_load_tx rfl 25 (.tmp 1) rfl w.heap.size 0 rfl C _ Hrng.out Tryd.underlying25 rfl (by rw [tx_info, HL.out]) ?_)
    refine (BD.out _).mono ?_
    rintro _ w1 ⟨rfl, hb1⟩
    have Hbt1 := Lib.hid (tx_below (grownBy_of_below hb1 none))
    clear hb1
    go_wp2_with fail
    go_ret2
    rw [Htx3.out Hne.out]
    exact ⟨rfl, Hbt1.out⟩
end Go.Proofs.YtdekcicgiflnbaaDoor
