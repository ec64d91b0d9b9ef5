/- The law TxLays: what its function returns. -/
import Derived.Test.YtdekcicgiflnbaaDoorTxLaw2
import Derived.Test.YtdekcicgiflnbaaDoorTxRef4
namespace Go.Proofs.YtdekcicgiflnbaaDoor
open Go.RowKit
set_option linter.unusedVariables false
set_option linter.unusedSimpArgs false

theorem body_tup {t : Tx} (ht : t.Ok) (W : World) : Calls Tryd.prog 14 #[.agg t.cells.toArray] W fun e w' => e = .returned (.tuple #[S t.bodyE.1, .int .i64 t.bodyE.2]) ∧ Below W.heap.size W w' := body_any t ht W
theorem rbody_tup {t : Tx} (ht : t.Ok) (W : World) : Calls Tryd.prog 15 #[.agg t.cells.toArray] W fun e w' => e = .returned (.tuple #[S t.bodyE.1, .int .i64 t.bodyE.2]) ∧ Below W.heap.size W w' := rbody_any t ht W
theorem rtext_tup {t : Tx} (ht : t.Ok) (W : World) : Calls Tryd.prog 17 #[.agg t.cells.toArray] W fun e w' => e = .returned (.tuple #[S t.textE.1, .int .i64 t.textE.2]) ∧ Below W.heap.size W w' := rtext_any t ht W
theorem name_tup {t : Tx} (ht : t.Ok) (W : World) (hW : Tab W) : Calls Tryd.prog 18 #[.agg t.cells.toArray] W fun e w' => e = .returned (.tuple #[.agg (bRow t.nameE.1), .int .i64 t.nameE.2]) ∧ Below W.heap.size W w' := name4_any t ht W hW
theorem rname_tup (hRS : RefSum) {t : Tx} (ht : t.Ok) (W : World) : Calls Tryd.prog 19 #[.agg t.cells.toArray] W fun e w' => e = .returned (.tuple #[.agg (bRow t.nameE.1), .int .i64 t.nameE.2]) ∧ Below W.heap.size W w' := rname4_any t ht W hRS
theorem checkE_tup {t : Tx} (ht : t.Ok) (W : World) : Calls Tryd.prog 21 #[.agg t.cells.toArray] W fun e w' => e = .returned (.int .i64 t.err) ∧ Below W.heap.size W w' := check4_any t ht W
theorem rcheckE_tup {t : Tx} (ht : t.Ok) (W : World) : Calls Tryd.prog 22 #[.agg t.cells.toArray] W fun e w' => e = .returned (.int .i64 t.err) ∧ Below W.heap.size W w' := rcheck4_any t ht W
theorem Tx.name_len {t : Tx} : t.nameE.1.length = 32 := by
  unfold Tx.nameE
  split
  · exact Sha.sum_len _
  · rfl
theorem row_tx {W : World} {g : Nat} {C : List Value} (h : Row W g 25 C) (hC : C.length = 72) : (Instr.loadAt 25 (.pointer (some ⟨g, 0, none⟩))).run Tryd.prog W = .ok (.agg C.toArray) W :=
  run_loadAt_mid W g 0 25 C _ (row_range h) Tryd.underlying25 rfl (by rw [tx_info, hC])
theorem row_hash {W : World} {g : Nat} {R : List UInt8} (h : Row W g 23 (bRow R).toList) (hR : R.length = 32) : (Instr.loadAt 23 (.pointer (some ⟨g, 0, none⟩))).run Tryd.prog W = .ok (.agg (bRow R)) W := hash_load W g 0 R hR (row_range h)
def LaysIn (w0 W : World) (g0 g1 g2 : Nat) (C : List Value) (R : List UInt8) : Prop :=
  (0 < w0.heap.size ∧ Tab w0) ∧ Below w0.heap.size w0 W ∧ Row W g0 25 C ∧ Row W g1 23 (bRow R).toList ∧ Row W g2 23 (bRow R).toList
theorem LaysIn.step {w0 W W' : World} {g0 g1 g2 : Nat} {C : List Value} {R : List UInt8} (h : LaysIn w0 W g0 g1 g2 C R) (hb : Below W.heap.size W W') : LaysIn w0 W' g0 g1 g2 C R := by
  obtain ⟨h1, h2, h3, h4, h5⟩ := h
  have hg := grownBy_of_below hb none
  exact ⟨h1, two_below' h2 hb, h3.kept hg (by simp), h4.kept hg (by simp), h5.kept hg (by simp)⟩
theorem LaysIn.tab {w0 W : World} {g0 g1 g2 : Nat} {C : List Value} {R : List UInt8} (h : LaysIn w0 W g0 g1 g2 C R) : Tab W := h.1.2.below h.2.1 h.1.1
set_option maxRecDepth 20000 in
set_option maxHeartbeats 3200000 in
theorem txLays_any (hRS : RefSum) (t : Tx) (ht : t.Ok) (w : World) (hT : Tab w) :
    Calls Tryd.prog 3 #[t.v] w fun e w' => e = .returned (.bool true) ∧ Below w.heap.size w w' := by
  have hrng := tx_range (Row.new w 25 t.cells)
  have BD := Lib.hid (body_tup ht)
  have RB := Lib.hid (rbody_tup ht)
  have TX := Lib.hid (text_tup ht)
  have RT := Lib.hid (rtext_tup ht)
  have NM := Lib.hid (name_tup ht)
  have RN := Lib.hid (rname_tup hRS ht)
  have CK := Lib.hid (checkE_tup ht)
  have RC := Lib.hid (rcheckE_tup ht)
  have HD72 := Lib.hid (Tx.cells_length ht)
  have HR := Lib.hid (Tx.name_len (t := t))
  have HB32 := Lib.hid (Tx.bRow_len _ (Tx.name_len (t := t)))
  have HB0 := Lib.hid (Tx.bRow_len Tx.zero rfl)
  have hhs := hash_same _ (Tx.name_len (t := t))
  have hzv := hash_zv
  have HT := Lib.hid hT
  have Hpos := Lib.hid hT.pos
  have Hrng := Lib.hid hrng
  show Calls _ _ #[.agg t.cells.toArray] _ _
  generalize t.cells = C at *
  generalize t.nameE = NE at *
  generalize t.textE = TE at *
  generalize t.bodyE = BE at *
  generalize t.err = er at *
  obtain ⟨R, ne⟩ := NE
  obtain ⟨a, te⟩ := TE
  obtain ⟨b, be⟩ := BE
  simp only at BD RB TX RT NM RN HR HB32 hhs
  clear hT ht hrng hRS
  go_enter Tryd.func3, Tryd.ntmps3
  go_wp2_with (with_reducible show wpList _ _ _ (⟨_, .load 25 _, _, _, _, _⟩ :: _) _ _; refine wpList_load_tx rfl 25 (.tmp 1) rfl w.heap.size 0 rfl C _ Hrng.out Tryd.underlying25 rfl (by rw [tx_info, HD72.out]) ?_)
  refine calls_named ?_
  intro w1 hw1
  have Hq1 := Lib.hid (show Row w1 w.heap.size 25 C by rw [hw1]; exact Row.new w 25 C)
  have Hb1 := Lib.hid (show Below w.heap.size w w1 by rw [hw1]; exact (Below.refl w.heap.size w).alloc (Nat.le_refl _) _)
  clear hw1
  refine (BD.out w1).mono ?_
  rintro _ w2 ⟨rfl, hb2⟩
  have Hq2 := Lib.hid (Hq1.out.kept (grownBy_of_below hb2 none) (by simp))
  have Hb2 := Lib.hid (two_below' Hb1.out hb2)
  clear hb2
  go_wp2_with (first
    | (with_reducible show wpList _ _ _ (⟨_, .load 25 (.tmp 1), _, _, _, _⟩ :: _) _ _; refine wpList_load_tx rfl 25 (.tmp 1) rfl w.heap.size 0 rfl C _ (row_range Hq2.out) Tryd.underlying25 rfl (by rw [tx_info, HD72.out]) ?_))
  refine (RB.out w2).mono ?_
  rintro _ w3 ⟨rfl, hb3⟩
  have Hq3 := Lib.hid (Hq2.out.kept (grownBy_of_below hb3 none) (by simp))
  have Hb3 := Lib.hid (two_below' Hb2.out hb3)
  clear hb3
  go_wp2_with (first
    | (with_reducible show wpList _ _ _ (⟨_, .load 25 (.tmp 1), _, _, _, _⟩ :: _) _ _; refine wpList_load_tx rfl 25 (.tmp 1) rfl w.heap.size 0 rfl C _ (row_range Hq3.out) Tryd.underlying25 rfl (by rw [tx_info, HD72.out]) ?_))
  refine (TX.out w3).mono ?_
  rintro _ w4 ⟨rfl, hb4⟩
  have Hq4 := Lib.hid (Hq3.out.kept (grownBy_of_below hb4 none) (by simp))
  have Hb4 := Lib.hid (two_below' Hb3.out hb4)
  clear hb4
  go_wp2_with (first
    | (with_reducible show wpList _ _ _ (⟨_, .load 25 (.tmp 1), _, _, _, _⟩ :: _) _ _; refine wpList_load_tx rfl 25 (.tmp 1) rfl w.heap.size 0 rfl C _ (row_range Hq4.out) Tryd.underlying25 rfl (by rw [tx_info, HD72.out]) ?_))
  refine (RT.out w4).mono ?_
  rintro _ w5 ⟨rfl, hb5⟩
  have Hq5 := Lib.hid (Hq4.out.kept (grownBy_of_below hb5 none) (by simp))
  have Hb5 := Lib.hid (two_below' Hb4.out hb5)
  clear hb5
  go_wp2_with (first
    | (with_reducible show wpList _ _ _ (⟨_, .load 25 (.tmp 1), _, _, _, _⟩ :: _) _ _; refine wpList_load_tx rfl 25 (.tmp 1) rfl w.heap.size 0 rfl C _ (row_range Hq5.out) Tryd.underlying25 rfl (by rw [tx_info, HD72.out]) ?_))
  refine (NM.out w5 (HT.out.below Hb5.out Hpos.out)).mono ?_
  rintro _ w6 ⟨rfl, hb6⟩
  have Hq6 := Lib.hid (Hq5.out.kept (grownBy_of_below hb6 none) (by simp))
  have Hb6 := Lib.hid (two_below' Hb5.out hb6)
  clear hb6
  have hne6 : w.heap.size ≠ w6.heap.size := by have := Hq6.out.lt; omega
  go_wp2_with (first
    | (with_reducible show wpList _ _ _ (⟨_, .store 23 _ _, _, _, _, _⟩ :: _) _ _
       refine wpList_store_at rfl 23 (.tmp 11) (.tmp 38) rfl w6.heap.size 0 (bRow R).toList _ _ rfl rfl (Row.new w6 23 (bRow Tx.zero).toList) (by have := HB32.out; have := HB0.out; omega) (by rw [hash_info, HB32.out]) (hash_one R HR.out) ?_
       intro w7 hr7 hg7
       rw [splice_all (HB32.out.trans HB0.out.symm)] at hr7
       have Hp7 := Lib.hid hr7
       have Hq7 := Lib.hid ((Hq6.out.kept (grownBy_alloc w6 _ none) (by simp)).kept hg7 (by simpa using hne6))
       have Hb7 := Lib.hid (below_own (Hb6.out.alloc Hb6.out.size _) hg7 (fun k hk => by cases hk; exact Hb6.out.size))
       clear hr7 hg7)
    | (with_reducible show wpList _ _ _ (⟨_, .load 25 (.tmp 1), _, _, _, _⟩ :: _) _ _; refine wpList_load_tx rfl 25 (.tmp 1) rfl w.heap.size 0 rfl C _ (row_range Hq7.out) Tryd.underlying25 rfl (by rw [tx_info, HD72.out]) ?_))
  refine (RN.out w7).mono ?_
  rintro _ w8 ⟨rfl, hb8⟩
  have Hq8 := Lib.hid (Hq7.out.kept (grownBy_of_below hb8 none) (by simp))
  have Hp8 := Lib.hid (Hp7.out.kept (grownBy_of_below hb8 none) (by simp))
  have Hb8 := Lib.hid (two_below' Hb7.out hb8)
  clear hb8
  have hne8 : w.heap.size ≠ w8.heap.size := by have := Hq8.out.lt; omega
  have hne8b : w6.heap.size ≠ w8.heap.size := by have := Hp8.out.lt; omega
  have Hn8 := Hp8
  go_wp2_with (first
    | (with_reducible show wpList _ _ _ (⟨_, .store 23 _ _, _, _, _, _⟩ :: _) _ _
       refine wpList_store_at rfl 23 (.tmp 13) (.tmp 43) rfl w8.heap.size 0 (bRow R).toList _ _ rfl rfl (Row.new w8 23 (bRow Tx.zero).toList) (by have := HB32.out; have := HB0.out; omega) (by rw [hash_info, HB32.out]) (hash_one R HR.out) ?_
       intro w9 hr9 hg9
       rw [splice_all (HB32.out.trans HB0.out.symm)] at hr9
       have Hp9 := Lib.hid hr9
       have Hq9 := Lib.hid ((Hq8.out.kept (grownBy_alloc w8 _ none) (by simp)).kept hg9 (by simpa using hne8))
       have Hn9 := Lib.hid ((Hn8.out.kept (grownBy_alloc w8 _ none) (by simp)).kept hg9 (by simpa using hne8b))
       have Hb9 := Lib.hid (below_own (Hb8.out.alloc Hb8.out.size _) hg9 (fun k hk => by cases hk; exact Hb8.out.size))
       clear hr9 hg9))
  have hS0 : LaysIn w w9.drew w.heap.size w6.heap.size w8.heap.size C R := LaysIn.step ⟨⟨Hpos.out, HT.out⟩, Hb9.out, Hq9.out, Hn9.out, Hp9.out⟩ ((Below.refl w9.heap.size w9).drew)
  have HS0 := Lib.hid hS0
  have hu25 := Tryd.underlying25
  have hu23 := Tryd.underlying23
  have hi25 : (Tryd.prog.info? 25).map (·.size) = some C.length := by rw [tx_info, HD72.out]
  have hi23 : (Tryd.prog.info? 23).map (·.size) = some (bRow R).toList.length := by rw [hash_info, HB32.out]
  clear hS0
  refine wp_region_held_drew (S := fun w' => LaysIn w w' w.heap.size w6.heap.size w8.heap.size C R) (by kernel_rfl) (HS0.out) (fun hHeld => ?_)
  generalize w9.drew = w10 at *
  refine wpAnyH_ready (rs := [0]) (by kernel_rfl) (by simp) (AllReadyH.cons rfl (fun K1 hK1 => ?_) AllReadyH.nil)
  try simp only [Act.put, List.getElem_toArray, List.getElem_cons_succ, List.getElem_cons_zero, List.setIfInBounds_toArray, List.set_cons_zero, List.set_cons_succ]
  go_simp
  refine Calls.mono (awake4_any _ hHeld.tab) ?_
  rintro e wa ⟨rfl, hba⟩
  refine hK1.out _ _ (hHeld.step hba) (fun hHeld => ?_)
  clear hK1 K1
  try simp only [Act.put, List.getElem_toArray, List.getElem_cons_succ, List.getElem_cons_zero, List.setIfInBounds_toArray, List.set_cons_zero, List.set_cons_succ]
  refine wpAnyH_take (i := 1) (v := .bool true) rfl (by kernel_rfl) (by kernel_rfl) (by kernel_rfl) (fun _ _ _ h => h) (Or.inl ⟨by rfl, fun w' hSw => by go_simp⟩) hHeld ?_
  try simp only [Act.put, List.getElem_toArray, List.getElem_cons_succ, List.getElem_cons_zero, List.setIfInBounds_toArray, List.set_cons_zero, List.set_cons_succ]
  refine' wpAnyH_take (i := 2) (v := _) rfl (by kernel_rfl) (by kernel_rfl) (by kernel_rfl) (fun _ _ _ h => h) (yieldsIf_load_mid (by rfl) _ _ rfl w.heap.size 0 rfl C _ (fun w' hSw => (row_range hSw.2.2.1)) hu25 rfl hi25) hHeld ?_
  try simp only [Act.put, List.getElem_toArray, List.getElem_cons_succ, List.getElem_cons_zero, List.setIfInBounds_toArray, List.set_cons_zero, List.set_cons_succ]
  refine' wpAnyH_take (i := 4) (v := _) rfl (by kernel_rfl) (by kernel_rfl) (by kernel_rfl) (fun _ _ _ h => h) (yieldsIf_load_mid (by rfl) _ _ rfl w.heap.size 0 rfl C _ (fun w' hSw => (row_range hSw.2.2.1)) hu25 rfl hi25) hHeld ?_
  try simp only [Act.put, List.getElem_toArray, List.getElem_cons_succ, List.getElem_cons_zero, List.setIfInBounds_toArray, List.set_cons_zero, List.set_cons_succ]
  refine wpAnyH_ready (rs := [3]) (by kernel_rfl) (by simp) (AllReadyH.cons rfl (fun K1 hK1 => ?_) AllReadyH.nil)
  try simp only [Act.put, List.getElem_toArray, List.getElem_cons_succ, List.getElem_cons_zero, List.setIfInBounds_toArray, List.set_cons_zero, List.set_cons_succ]
  go_simp
  refine Calls.mono (CK.out _) ?_
  rintro e wb ⟨rfl, hbb⟩
  refine hK1.out _ _ (hHeld.step hbb) (fun hHeld => ?_)
  clear hK1 K1
  try simp only [Act.put, List.getElem_toArray, List.getElem_cons_succ, List.getElem_cons_zero, List.setIfInBounds_toArray, List.set_cons_zero, List.set_cons_succ]
  refine wpAnyH_ready (rs := [5]) (by kernel_rfl) (by simp) (AllReadyH.cons rfl (fun K1 hK1 => ?_) AllReadyH.nil)
  try simp only [Act.put, List.getElem_toArray, List.getElem_cons_succ, List.getElem_cons_zero, List.setIfInBounds_toArray, List.set_cons_zero, List.set_cons_succ]
  go_simp
  refine Calls.mono (RC.out _) ?_
  rintro e wc ⟨rfl, hbc⟩
  refine hK1.out _ _ (hHeld.step hbc) (fun hHeld => ?_)
  clear hK1 K1
  try simp only [Act.put, List.getElem_toArray, List.getElem_cons_succ, List.getElem_cons_zero, List.setIfInBounds_toArray, List.set_cons_zero, List.set_cons_succ]
  refine wpAnyH_take (i := 6) (v := .bool true) rfl (by kernel_rfl) (by kernel_rfl) (by kernel_rfl) (fun _ _ _ h => h) (Or.inl ⟨by rfl, fun w' hSw => by go_simp⟩) hHeld ?_
  try simp only [Act.put, List.getElem_toArray, List.getElem_cons_succ, List.getElem_cons_zero, List.setIfInBounds_toArray, List.set_cons_zero, List.set_cons_succ]
  refine wpAnyH_take (i := 7) (v := .bool true) rfl (by kernel_rfl) (by kernel_rfl) (by kernel_rfl) (fun _ _ _ h => h) (Or.inl ⟨by rfl, fun w' hSw => by go_simp⟩) hHeld ?_
  try simp only [Act.put, List.getElem_toArray, List.getElem_cons_succ, List.getElem_cons_zero, List.setIfInBounds_toArray, List.set_cons_zero, List.set_cons_succ]
  refine wpAnyH_take (i := 8) (v := .bool true) rfl (by kernel_rfl) (by kernel_rfl) (by kernel_rfl) (fun _ _ _ h => h) (Or.inl ⟨by rfl, fun w' hSw => by go_simp⟩) hHeld ?_
  try simp only [Act.put, List.getElem_toArray, List.getElem_cons_succ, List.getElem_cons_zero, List.setIfInBounds_toArray, List.set_cons_zero, List.set_cons_succ]
  refine wpAnyH_take (i := 9) (v := S b) rfl (by kernel_rfl) (by kernel_rfl) (by kernel_rfl) (fun _ _ _ h => h) (Or.inl ⟨by rfl, fun w' hSw => by go_simp⟩) hHeld ?_
  try simp only [Act.put, List.getElem_toArray, List.getElem_cons_succ, List.getElem_cons_zero, List.setIfInBounds_toArray, List.set_cons_zero, List.set_cons_succ]
  refine wpAnyH_take (i := 10) (v := S b) rfl (by kernel_rfl) (by kernel_rfl) (by kernel_rfl) (fun _ _ _ h => h) (Or.inl ⟨by rfl, fun w' hSw => by go_simp⟩) hHeld ?_
  try simp only [Act.put, List.getElem_toArray, List.getElem_cons_succ, List.getElem_cons_zero, List.setIfInBounds_toArray, List.set_cons_zero, List.set_cons_succ]
  refine wpAnyH_take (i := 11) (v := .bool true) rfl (by kernel_rfl) (by kernel_rfl) (by kernel_rfl) (fun _ _ _ h => h) (Or.inl ⟨by rfl, fun w' hSw => by go_simp⟩) hHeld ?_
  try simp only [Act.put, List.getElem_toArray, List.getElem_cons_succ, List.getElem_cons_zero, List.setIfInBounds_toArray, List.set_cons_zero, List.set_cons_succ]
  refine wpAnyH_take (i := 12) (v := .bool true) rfl (by kernel_rfl) (by kernel_rfl) (by kernel_rfl) (fun _ _ _ h => h) (Or.inl ⟨by rfl, fun w' hSw => by go_simp⟩) hHeld ?_
  try simp only [Act.put, List.getElem_toArray, List.getElem_cons_succ, List.getElem_cons_zero, List.setIfInBounds_toArray, List.set_cons_zero, List.set_cons_succ]
  refine wpAnyH_take (i := 13) (v := .bool true) rfl (by kernel_rfl) (by kernel_rfl) (by kernel_rfl) (fun _ _ _ h => h) (Or.inl ⟨by rfl, fun w' hSw => by go_simp⟩) hHeld ?_
  try simp only [Act.put, List.getElem_toArray, List.getElem_cons_succ, List.getElem_cons_zero, List.setIfInBounds_toArray, List.set_cons_zero, List.set_cons_succ]
  refine wpAnyH_take (i := 14) (v := .int .i64 be) rfl (by kernel_rfl) (by kernel_rfl) (by kernel_rfl) (fun _ _ _ h => h) (Or.inl ⟨by rfl, fun w' hSw => by go_simp⟩) hHeld ?_
  try simp only [Act.put, List.getElem_toArray, List.getElem_cons_succ, List.getElem_cons_zero, List.setIfInBounds_toArray, List.set_cons_zero, List.set_cons_succ]
  refine wpAnyH_take (i := 15) (v := .int .i64 be) rfl (by kernel_rfl) (by kernel_rfl) (by kernel_rfl) (fun _ _ _ h => h) (Or.inl ⟨by rfl, fun w' hSw => by go_simp⟩) hHeld ?_
  try simp only [Act.put, List.getElem_toArray, List.getElem_cons_succ, List.getElem_cons_zero, List.setIfInBounds_toArray, List.set_cons_zero, List.set_cons_succ]
  refine wpAnyH_take (i := 16) (v := .bool true) rfl (by kernel_rfl) (by kernel_rfl) (by kernel_rfl) (fun _ _ _ h => h) (Or.inl ⟨by rfl, fun w' hSw => by go_simp⟩) hHeld ?_
  try simp only [Act.put, List.getElem_toArray, List.getElem_cons_succ, List.getElem_cons_zero, List.setIfInBounds_toArray, List.set_cons_zero, List.set_cons_succ]
  refine wpAnyH_take (i := 17) (v := .bool true) rfl (by kernel_rfl) (by kernel_rfl) (by kernel_rfl) (fun _ _ _ h => h) (Or.inl ⟨by rfl, fun w' hSw => by go_simp⟩) hHeld ?_
  try simp only [Act.put, List.getElem_toArray, List.getElem_cons_succ, List.getElem_cons_zero, List.setIfInBounds_toArray, List.set_cons_zero, List.set_cons_succ]
  refine wpAnyH_take (i := 18) (v := .bool true) rfl (by kernel_rfl) (by kernel_rfl) (by kernel_rfl) (fun _ _ _ h => h) (Or.inl ⟨by rfl, fun w' hSw => by go_simp⟩) hHeld ?_
  try simp only [Act.put, List.getElem_toArray, List.getElem_cons_succ, List.getElem_cons_zero, List.setIfInBounds_toArray, List.set_cons_zero, List.set_cons_succ]
  refine wpAnyH_take (i := 19) (v := S a) rfl (by kernel_rfl) (by kernel_rfl) (by kernel_rfl) (fun _ _ _ h => h) (Or.inl ⟨by rfl, fun w' hSw => by go_simp⟩) hHeld ?_
  try simp only [Act.put, List.getElem_toArray, List.getElem_cons_succ, List.getElem_cons_zero, List.setIfInBounds_toArray, List.set_cons_zero, List.set_cons_succ]
  refine wpAnyH_take (i := 20) (v := S a) rfl (by kernel_rfl) (by kernel_rfl) (by kernel_rfl) (fun _ _ _ h => h) (Or.inl ⟨by rfl, fun w' hSw => by go_simp⟩) hHeld ?_
  try simp only [Act.put, List.getElem_toArray, List.getElem_cons_succ, List.getElem_cons_zero, List.setIfInBounds_toArray, List.set_cons_zero, List.set_cons_succ]
  refine wpAnyH_take (i := 21) (v := .bool true) rfl (by kernel_rfl) (by kernel_rfl) (by kernel_rfl) (fun _ _ _ h => h) (Or.inl ⟨by rfl, fun w' hSw => by go_simp⟩) hHeld ?_
  try simp only [Act.put, List.getElem_toArray, List.getElem_cons_succ, List.getElem_cons_zero, List.setIfInBounds_toArray, List.set_cons_zero, List.set_cons_succ]
  refine wpAnyH_take (i := 22) (v := .bool true) rfl (by kernel_rfl) (by kernel_rfl) (by kernel_rfl) (fun _ _ _ h => h) (Or.inl ⟨by rfl, fun w' hSw => by go_simp⟩) hHeld ?_
  try simp only [Act.put, List.getElem_toArray, List.getElem_cons_succ, List.getElem_cons_zero, List.setIfInBounds_toArray, List.set_cons_zero, List.set_cons_succ]
  refine wpAnyH_take (i := 23) (v := .bool true) rfl (by kernel_rfl) (by kernel_rfl) (by kernel_rfl) (fun _ _ _ h => h) (Or.inl ⟨by rfl, fun w' hSw => by go_simp⟩) hHeld ?_
  try simp only [Act.put, List.getElem_toArray, List.getElem_cons_succ, List.getElem_cons_zero, List.setIfInBounds_toArray, List.set_cons_zero, List.set_cons_succ]
  refine wpAnyH_take (i := 24) (v := .int .i64 te) rfl (by kernel_rfl) (by kernel_rfl) (by kernel_rfl) (fun _ _ _ h => h) (Or.inl ⟨by rfl, fun w' hSw => by go_simp⟩) hHeld ?_
  try simp only [Act.put, List.getElem_toArray, List.getElem_cons_succ, List.getElem_cons_zero, List.setIfInBounds_toArray, List.set_cons_zero, List.set_cons_succ]
  refine wpAnyH_take (i := 25) (v := .int .i64 te) rfl (by kernel_rfl) (by kernel_rfl) (by kernel_rfl) (fun _ _ _ h => h) (Or.inl ⟨by rfl, fun w' hSw => by go_simp⟩) hHeld ?_
  try simp only [Act.put, List.getElem_toArray, List.getElem_cons_succ, List.getElem_cons_zero, List.setIfInBounds_toArray, List.set_cons_zero, List.set_cons_succ]
  refine wpAnyH_take (i := 26) (v := .bool true) rfl (by kernel_rfl) (by kernel_rfl) (by kernel_rfl) (fun _ _ _ h => h) (Or.inl ⟨by rfl, fun w' hSw => by go_simp⟩) hHeld ?_
  try simp only [Act.put, List.getElem_toArray, List.getElem_cons_succ, List.getElem_cons_zero, List.setIfInBounds_toArray, List.set_cons_zero, List.set_cons_succ]
  refine wpAnyH_take (i := 27) (v := .bool true) rfl (by kernel_rfl) (by kernel_rfl) (by kernel_rfl) (fun _ _ _ h => h) (Or.inl ⟨by rfl, fun w' hSw => by go_simp⟩) hHeld ?_
  try simp only [Act.put, List.getElem_toArray, List.getElem_cons_succ, List.getElem_cons_zero, List.setIfInBounds_toArray, List.set_cons_zero, List.set_cons_succ]
  refine wpAnyH_take (i := 28) (v := .bool true) rfl (by kernel_rfl) (by kernel_rfl) (by kernel_rfl) (fun _ _ _ h => h) (Or.inl ⟨by rfl, fun w' hSw => by go_simp⟩) hHeld ?_
  try simp only [Act.put, List.getElem_toArray, List.getElem_cons_succ, List.getElem_cons_zero, List.setIfInBounds_toArray, List.set_cons_zero, List.set_cons_succ]
  refine' wpAnyH_take (i := 29) (v := _) rfl (by kernel_rfl) (by kernel_rfl) (by kernel_rfl) (fun _ _ _ h => h) (yieldsIf_load_mid (by rfl) _ _ rfl w6.heap.size 0 rfl (bRow R).toList _ (fun w' hSw => (row_range hSw.2.2.2.1)) hu23 rfl hi23) hHeld ?_
  try simp only [Act.put, List.getElem_toArray, List.getElem_cons_succ, List.getElem_cons_zero, List.setIfInBounds_toArray, List.set_cons_zero, List.set_cons_succ]
  refine' wpAnyH_take (i := 30) (v := _) rfl (by kernel_rfl) (by kernel_rfl) (by kernel_rfl) (fun _ _ _ h => h) (yieldsIf_load_mid (by rfl) _ _ rfl w8.heap.size 0 rfl (bRow R).toList _ (fun w' hSw => (row_range hSw.2.2.2.2)) hu23 rfl hi23) hHeld ?_
  try simp only [Act.put, List.getElem_toArray, List.getElem_cons_succ, List.getElem_cons_zero, List.setIfInBounds_toArray, List.set_cons_zero, List.set_cons_succ]
  refine wpAnyH_take (i := 31) (v := .bool true) rfl (by kernel_rfl) (by kernel_rfl) (by kernel_rfl) (fun _ _ _ h => h) (Or.inl ⟨by rfl, fun w' hSw => by go_simp⟩) hHeld ?_
  try simp only [Act.put, List.getElem_toArray, List.getElem_cons_succ, List.getElem_cons_zero, List.setIfInBounds_toArray, List.set_cons_zero, List.set_cons_succ]
  refine wpAnyH_take (i := 32) (v := .bool true) rfl (by kernel_rfl) (by kernel_rfl) (by kernel_rfl) (fun _ _ _ h => h) (Or.inl ⟨by rfl, fun w' hSw => by go_simp⟩) hHeld ?_
  try simp only [Act.put, List.getElem_toArray, List.getElem_cons_succ, List.getElem_cons_zero, List.setIfInBounds_toArray, List.set_cons_zero, List.set_cons_succ]
  refine wpAnyH_take (i := 33) (v := .bool true) rfl (by kernel_rfl) (by kernel_rfl) (by kernel_rfl) (fun _ _ _ h => h) (Or.inl ⟨by rfl, fun w' hSw => by go_simp⟩) hHeld ?_
  try simp only [Act.put, List.getElem_toArray, List.getElem_cons_succ, List.getElem_cons_zero, List.setIfInBounds_toArray, List.set_cons_zero, List.set_cons_succ]
  refine wpAnyH_take (i := 34) (v := .int .i64 ne) rfl (by kernel_rfl) (by kernel_rfl) (by kernel_rfl) (fun _ _ _ h => h) (Or.inl ⟨by rfl, fun w' hSw => by go_simp⟩) hHeld ?_
  try simp only [Act.put, List.getElem_toArray, List.getElem_cons_succ, List.getElem_cons_zero, List.setIfInBounds_toArray, List.set_cons_zero, List.set_cons_succ]
  refine wpAnyH_take (i := 35) (v := .int .i64 ne) rfl (by kernel_rfl) (by kernel_rfl) (by kernel_rfl) (fun _ _ _ h => h) (Or.inl ⟨by rfl, fun w' hSw => by go_simp⟩) hHeld ?_
  try simp only [Act.put, List.getElem_toArray, List.getElem_cons_succ, List.getElem_cons_zero, List.setIfInBounds_toArray, List.set_cons_zero, List.set_cons_succ]
  refine wpAnyH_take (i := 36) (v := .bool true) rfl (by kernel_rfl) (by kernel_rfl) (by kernel_rfl) (fun _ _ _ h => h) (Or.inl ⟨by rfl, fun w' hSw => by go_simp⟩) hHeld ?_
  try simp only [Act.put, List.getElem_toArray, List.getElem_cons_succ, List.getElem_cons_zero, List.setIfInBounds_toArray, List.set_cons_zero, List.set_cons_succ]
  refine wpAnyH_take (i := 37) (v := .bool true) rfl (by kernel_rfl) (by kernel_rfl) (by kernel_rfl) (fun _ _ _ h => h) (Or.inl ⟨by rfl, fun w' hSw => by go_simp⟩) hHeld ?_
  try simp only [Act.put, List.getElem_toArray, List.getElem_cons_succ, List.getElem_cons_zero, List.setIfInBounds_toArray, List.set_cons_zero, List.set_cons_succ]
  refine wpAnyH_take (i := 38) (v := .bool true) rfl (by kernel_rfl) (by kernel_rfl) (by kernel_rfl) (fun _ _ _ h => h) (Or.inl ⟨by rfl, fun w' hSw => by go_simp⟩) hHeld ?_
  try simp only [Act.put, List.getElem_toArray, List.getElem_cons_succ, List.getElem_cons_zero, List.setIfInBounds_toArray, List.set_cons_zero, List.set_cons_succ]
  refine wpAnyH_done (by kernel_rfl) ?_ _
  have HB := Lib.hid hHeld.2.1
  go_wp2_with fail
  go_ret
  exact ⟨rfl, HB.out⟩
end Go.Proofs.YtdekcicgiflnbaaDoor
