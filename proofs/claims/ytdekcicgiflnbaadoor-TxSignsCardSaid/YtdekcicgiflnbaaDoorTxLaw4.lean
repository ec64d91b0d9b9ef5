/- The law TxSigns: what its function returns. -/
import Derived.Test.YtdekcicgiflnbaaDoorTxLaw3
import Derived.Test.YtdekcicgiflnbaaDoorTxRef2
namespace Go.Proofs.YtdekcicgiflnbaaDoor
open Go.RowKit
set_option linter.unusedVariables false
set_option linter.unusedSimpArgs false

theorem sign_pair {t : Tx} (ht : t.Ok) (W : World) (hW : Tab W) : Calls Tryd.prog 23 #[.agg t.cells.toArray] W fun e w' => e = .returned (.tuple #[.agg t.signE.1.cells.toArray, .int .i64 t.signE.2]) ∧ Below W.heap.size W w' := sign4_any t ht W hW
theorem rsign_pair (hRS : RefSum) {t : Tx} (ht : t.Ok) (W : World) : Calls Tryd.prog 24 #[.agg t.cells.toArray] W fun e w' => e = .returned (.tuple #[.agg t.signE.1.cells.toArray, .int .i64 t.signE.2]) ∧ Below W.heap.size W w' := rsign4_any hRS t ht W
theorem hand_pair {t : Tx} (ht : t.Ok) (who : Int) (W : World) (hW : Tab W) : Calls Tryd.prog 25 #[.agg t.cells.toArray, .int .i64 who] W fun e w' => e = .returned (.tuple #[.agg (t.handE who).1.cells.toArray, .int .i64 (t.handE who).2]) ∧ Below W.heap.size W w' := hand4_any t ht who W hW
theorem rhand_pair (hRS : RefSum) {t : Tx} (ht : t.Ok) (who : Int) (W : World) : Calls Tryd.prog 26 #[.agg t.cells.toArray, .int .i64 who] W fun e w' => e = .returned (.tuple #[.agg (t.handE who).1.cells.toArray, .int .i64 (t.handE who).2]) ∧ Below W.heap.size W w' := rhand4_any hRS t ht who W
theorem signedE_tup {t : Tx} (ht : t.Ok) (W : World) (hW : Tab W) : Calls Tryd.prog 27 #[.agg t.cells.toArray] W fun e w' => e = .returned (.int .i64 t.signedE) ∧ Below W.heap.size W w' := signed4_any t ht W hW
theorem rsignedE_tup (hRS : RefSum) {t : Tx} (ht : t.Ok) (W : World) : Calls Tryd.prog 28 #[.agg t.cells.toArray] W fun e w' => e = .returned (.int .i64 t.signedE) ∧ Below W.heap.size W w' := rsigned4_any t ht W hRS
theorem Tx.signE_ok {t : Tx} (h : t.Ok) : t.signE.1.Ok := by
  unfold Tx.signE
  split
  · exact Tx.sign_ok h
  · exact Tx.none_ok
theorem Tx.handE_ok {t : Tx} (h : t.Ok) (who : Int) : (t.handE who).1.Ok := by
  unfold Tx.handE
  split
  · exact Tx.none_ok
  split
  · exact Tx.none_ok
  split
  · exact Tx.none_ok
  · exact Tx.hand_ok h who
def SignsIn (w0 W : World) (g0 g1 g2 g3 g4 : Nat) (C D E : List Value) : Prop :=
  (0 < w0.heap.size ∧ Tab w0) ∧ Below w0.heap.size w0 W ∧ Row W g0 25 C ∧ Row W g1 25 D ∧ Row W g2 25 D ∧ Row W g3 25 E ∧ Row W g4 25 E
theorem SignsIn.step {w0 W W' : World} {g0 g1 g2 g3 g4 : Nat} {C D E : List Value} (h : SignsIn w0 W g0 g1 g2 g3 g4 C D E) (hb : Below W.heap.size W W') : SignsIn w0 W' g0 g1 g2 g3 g4 C D E := by
  obtain ⟨h1, h2, h3, h4, h5, h6, h7⟩ := h
  have hg := grownBy_of_below hb none
  exact ⟨h1, two_below' h2 hb, h3.kept hg (by simp), h4.kept hg (by simp), h5.kept hg (by simp), h6.kept hg (by simp), h7.kept hg (by simp)⟩
theorem SignsIn.tab {w0 W : World} {g0 g1 g2 g3 g4 : Nat} {C D E : List Value} (h : SignsIn w0 W g0 g1 g2 g3 g4 C D E) : Tab W := h.1.2.below h.2.1 h.1.1
set_option maxRecDepth 20000 in
set_option maxHeartbeats 3200000 in
theorem txSigns_any (hRS : RefSum) (t : Tx) (ht : t.Ok) (who : Int) (w : World) (hT : Tab w) :
    Calls Tryd.prog 4 #[t.v, .int .i64 who] w fun e w' => e = .returned (.bool true) ∧ Below w.heap.size w w' := by
  have hrng := tx_range (Row.new w 25 t.cells)
  have SG := Lib.hid (sign_pair ht)
  have RS := Lib.hid (rsign_pair hRS ht)
  have HA := Lib.hid (hand_pair ht who)
  have RH := Lib.hid (rhand_pair hRS ht who)
  have SD := Lib.hid (signedE_tup ht)
  have RSD := Lib.hid (rsignedE_tup hRS ht)
  have HC72 := Lib.hid (Tx.cells_length ht)
  have HD72 := Lib.hid (Tx.cells_length (Tx.signE_ok ht))
  have HD1 := Lib.hid (Tx.cells_one (Tx.signE_ok ht))
  have HE72 := Lib.hid (Tx.cells_length (Tx.handE_ok ht who))
  have HE1 := Lib.hid (Tx.cells_one (Tx.handE_ok ht who))
  have HZ72 := Lib.hid (Tx.cells_length Tx.none_ok)
  have heD := fun W => tx_same W (Tx.signE_ok ht)
  have heE := fun W => tx_same W (Tx.handE_ok ht who)
  have hzv := tx_zv
  have HT := Lib.hid hT
  have Hpos := Lib.hid hT.pos
  have Hrng := Lib.hid hrng
  show Calls _ _ #[.agg t.cells.toArray, .int .i64 who] _ _
  generalize t.cells = C at *
  generalize t.signE.1.cells = D at *
  generalize (t.handE who).1.cells = E at *
  generalize t.signE.2 = se at *
  generalize (t.handE who).2 = he at *
  generalize t.signedE = sd at *
  clear hT ht hrng hRS
  go_enter Tryd.func4, Tryd.ntmps4
  go_wp2_with (with_reducible show wpList _ _ _ (⟨_, .load 25 _, _, _, _, _⟩ :: _) _ _; refine wpList_load_tx rfl 25 (.tmp 2) rfl w.heap.size 0 rfl C _ Hrng.out Tryd.underlying25 rfl (by rw [tx_info, HC72.out]) ?_)
  refine calls_named ?_
  intro w1 hw1
  have Hq1 := Lib.hid (show Row w1 w.heap.size 25 C by rw [hw1]; exact Row.new w 25 C)
  have Hb1 := Lib.hid (show Below w.heap.size w w1 by rw [hw1]; exact (Below.refl w.heap.size w).alloc (Nat.le_refl _) _)
  clear hw1
  refine (SG.out w1 (HT.out.below Hb1.out Hpos.out)).mono ?_
  rintro _ w2 ⟨rfl, hb2⟩
  have Hq2 := Lib.hid (Hq1.out.kept (grownBy_of_below hb2 none) (by simp))
  have Hb2 := Lib.hid (two_below' Hb1.out hb2)
  clear hb2
  have neHq2 : w.heap.size ≠ w2.heap.size := by have := Hq2.out.lt; omega
  go_wp2_with (first
    | (with_reducible show wpList _ _ _ (⟨_, .store 25 _ _, _, _, _, _⟩ :: _) _ _
       refine wpList_store_at rfl 25 (.tmp 5) (.tmp 16) rfl w2.heap.size 0 D _ _ rfl rfl (Row.new w2 25 Tx.none.cells) (by have := HZ72.out; have := HD72.out; omega) (by rw [tx_info, HD72.out]) HD1.out ?_
       intro w3 hr3 hg3
       rw [splice_all (HD72.out.trans HZ72.out.symm)] at hr3
       have Hp3 := Lib.hid hr3
       have Hq3 := Lib.hid ((Hq2.out.kept (grownBy_alloc w2 _ none) (by simp)).kept hg3 (by simpa using neHq2))
       have Hb3 := Lib.hid (below_own (Hb2.out.alloc Hb2.out.size _) hg3 (fun k hk => by cases hk; exact Hb2.out.size))
       clear hr3 hg3)
    | (with_reducible show wpList _ _ _ (⟨_, .load 25 (.tmp 2), _, _, _, _⟩ :: _) _ _; refine wpList_load_tx rfl 25 (.tmp 2) rfl w.heap.size 0 rfl C _ (row_range Hq3.out) Tryd.underlying25 rfl (by rw [tx_info, HC72.out]) ?_))
  have Hr2_3 := Hp3
  refine (RS.out w3).mono ?_
  rintro _ w4 ⟨rfl, hb4⟩
  have Hq4 := Lib.hid (Hq3.out.kept (grownBy_of_below hb4 none) (by simp))
  have Hr2_4 := Lib.hid (Hr2_3.out.kept (grownBy_of_below hb4 none) (by simp))
  have Hb4 := Lib.hid (two_below' Hb3.out hb4)
  clear hb4
  have neHq4 : w.heap.size ≠ w4.heap.size := by have := Hq4.out.lt; omega
  have neHr2_4 : w2.heap.size ≠ w4.heap.size := by have := Hr2_4.out.lt; omega
  go_wp2_with (first
    | (with_reducible show wpList _ _ _ (⟨_, .store 25 _ _, _, _, _, _⟩ :: _) _ _
       refine wpList_store_at rfl 25 (.tmp 7) (.tmp 21) rfl w4.heap.size 0 D _ _ rfl rfl (Row.new w4 25 Tx.none.cells) (by have := HZ72.out; have := HD72.out; omega) (by rw [tx_info, HD72.out]) HD1.out ?_
       intro w5 hr5 hg5
       rw [splice_all (HD72.out.trans HZ72.out.symm)] at hr5
       have Hp5 := Lib.hid hr5
       have Hq5 := Lib.hid ((Hq4.out.kept (grownBy_alloc w4 _ none) (by simp)).kept hg5 (by simpa using neHq4))
       have Hr2_5 := Lib.hid ((Hr2_4.out.kept (grownBy_alloc w4 _ none) (by simp)).kept hg5 (by simpa using neHr2_4))
       have Hb5 := Lib.hid (below_own (Hb4.out.alloc Hb4.out.size _) hg5 (fun k hk => by cases hk; exact Hb4.out.size))
       clear hr5 hg5)
    | (with_reducible show wpList _ _ _ (⟨_, .load 25 (.tmp 2), _, _, _, _⟩ :: _) _ _; refine wpList_load_tx rfl 25 (.tmp 2) rfl w.heap.size 0 rfl C _ (row_range Hq5.out) Tryd.underlying25 rfl (by rw [tx_info, HC72.out]) ?_))
  have Hr4_5 := Hp5
  refine (HA.out w5 (HT.out.below Hb5.out Hpos.out)).mono ?_
  rintro _ w6 ⟨rfl, hb6⟩
  have Hq6 := Lib.hid (Hq5.out.kept (grownBy_of_below hb6 none) (by simp))
  have Hr2_6 := Lib.hid (Hr2_5.out.kept (grownBy_of_below hb6 none) (by simp))
  have Hr4_6 := Lib.hid (Hr4_5.out.kept (grownBy_of_below hb6 none) (by simp))
  have Hb6 := Lib.hid (two_below' Hb5.out hb6)
  clear hb6
  have neHq6 : w.heap.size ≠ w6.heap.size := by have := Hq6.out.lt; omega
  have neHr2_6 : w2.heap.size ≠ w6.heap.size := by have := Hr2_6.out.lt; omega
  have neHr4_6 : w4.heap.size ≠ w6.heap.size := by have := Hr4_6.out.lt; omega
  go_wp2_with (first
    | (with_reducible show wpList _ _ _ (⟨_, .store 25 _ _, _, _, _, _⟩ :: _) _ _
       refine wpList_store_at rfl 25 (.tmp 9) (.tmp 27) rfl w6.heap.size 0 E _ _ rfl rfl (Row.new w6 25 Tx.none.cells) (by have := HZ72.out; have := HE72.out; omega) (by rw [tx_info, HE72.out]) HE1.out ?_
       intro w7 hr7 hg7
       rw [splice_all (HE72.out.trans HZ72.out.symm)] at hr7
       have Hp7 := Lib.hid hr7
       have Hq7 := Lib.hid ((Hq6.out.kept (grownBy_alloc w6 _ none) (by simp)).kept hg7 (by simpa using neHq6))
       have Hr2_7 := Lib.hid ((Hr2_6.out.kept (grownBy_alloc w6 _ none) (by simp)).kept hg7 (by simpa using neHr2_6))
       have Hr4_7 := Lib.hid ((Hr4_6.out.kept (grownBy_alloc w6 _ none) (by simp)).kept hg7 (by simpa using neHr4_6))
       have Hb7 := Lib.hid (below_own (Hb6.out.alloc Hb6.out.size _) hg7 (fun k hk => by cases hk; exact Hb6.out.size))
       clear hr7 hg7)
    | (with_reducible show wpList _ _ _ (⟨_, .load 25 (.tmp 2), _, _, _, _⟩ :: _) _ _; refine wpList_load_tx rfl 25 (.tmp 2) rfl w.heap.size 0 rfl C _ (row_range Hq7.out) Tryd.underlying25 rfl (by rw [tx_info, HC72.out]) ?_))
  have Hr6_7 := Hp7
  refine (RH.out w7).mono ?_
  rintro _ w8 ⟨rfl, hb8⟩
  have Hq8 := Lib.hid (Hq7.out.kept (grownBy_of_below hb8 none) (by simp))
  have Hr2_8 := Lib.hid (Hr2_7.out.kept (grownBy_of_below hb8 none) (by simp))
  have Hr4_8 := Lib.hid (Hr4_7.out.kept (grownBy_of_below hb8 none) (by simp))
  have Hr6_8 := Lib.hid (Hr6_7.out.kept (grownBy_of_below hb8 none) (by simp))
  have Hb8 := Lib.hid (two_below' Hb7.out hb8)
  clear hb8
  have neHq8 : w.heap.size ≠ w8.heap.size := by have := Hq8.out.lt; omega
  have neHr2_8 : w2.heap.size ≠ w8.heap.size := by have := Hr2_8.out.lt; omega
  have neHr4_8 : w4.heap.size ≠ w8.heap.size := by have := Hr4_8.out.lt; omega
  have neHr6_8 : w6.heap.size ≠ w8.heap.size := by have := Hr6_8.out.lt; omega
  go_wp2_with (first
    | (with_reducible show wpList _ _ _ (⟨_, .store 25 _ _, _, _, _, _⟩ :: _) _ _
       refine wpList_store_at rfl 25 (.tmp 11) (.tmp 33) rfl w8.heap.size 0 E _ _ rfl rfl (Row.new w8 25 Tx.none.cells) (by have := HZ72.out; have := HE72.out; omega) (by rw [tx_info, HE72.out]) HE1.out ?_
       intro w9 hr9 hg9
       rw [splice_all (HE72.out.trans HZ72.out.symm)] at hr9
       have Hp9 := Lib.hid hr9
       have Hq9 := Lib.hid ((Hq8.out.kept (grownBy_alloc w8 _ none) (by simp)).kept hg9 (by simpa using neHq8))
       have Hr2_9 := Lib.hid ((Hr2_8.out.kept (grownBy_alloc w8 _ none) (by simp)).kept hg9 (by simpa using neHr2_8))
       have Hr4_9 := Lib.hid ((Hr4_8.out.kept (grownBy_alloc w8 _ none) (by simp)).kept hg9 (by simpa using neHr4_8))
       have Hr6_9 := Lib.hid ((Hr6_8.out.kept (grownBy_alloc w8 _ none) (by simp)).kept hg9 (by simpa using neHr6_8))
       have Hb9 := Lib.hid (below_own (Hb8.out.alloc Hb8.out.size _) hg9 (fun k hk => by cases hk; exact Hb8.out.size))
       clear hr9 hg9))
  have Hr8_9 := Hp9
  have hS0 : SignsIn w w9.drew w.heap.size w2.heap.size w4.heap.size w6.heap.size w8.heap.size C D E := SignsIn.step ⟨⟨Hpos.out, HT.out⟩, Hb9.out, Hq9.out, Hr2_9.out, Hr4_9.out, Hr6_9.out, Hr8_9.out⟩ ((Below.refl w9.heap.size w9).drew)
  have HS0 := Lib.hid hS0
  have hu25 := Tryd.underlying25
  have hiC : (Tryd.prog.info? 25).map (·.size) = some C.length := by rw [tx_info, HC72.out]
  have hiD : (Tryd.prog.info? 25).map (·.size) = some D.length := by rw [tx_info, HD72.out]
  have hiE : (Tryd.prog.info? 25).map (·.size) = some E.length := by rw [tx_info, HE72.out]
  clear hS0
  refine wp_region_held_drew (S := fun w' => SignsIn w w' w.heap.size w2.heap.size w4.heap.size w6.heap.size w8.heap.size C D E) (by kernel_rfl) (HS0.out) (fun hHeld => ?_)
  generalize w9.drew = w10 at *
  refine wpAnyH_ready (rs := [0]) (by kernel_rfl) (by simp) (AllReadyH.cons rfl (fun K1 hK1 => ?_) AllReadyH.nil)
  try simp only [Act.put, List.getElem_toArray, List.getElem_cons_succ, List.getElem_cons_zero, List.setIfInBounds_toArray, List.set_cons_zero, List.set_cons_succ]
  go_simp
  refine Calls.mono (awake4_any _ hHeld.tab) ?_
  rintro e wa ⟨rfl, hba⟩
  refine hK1.out _ _ (hHeld.step hba) (fun hHeld => ?_)
  clear hK1 K1
  try simp only [Act.put, List.getElem_toArray, List.getElem_cons_succ, List.getElem_cons_zero, List.setIfInBounds_toArray, List.set_cons_zero, List.set_cons_succ]
  refine wpAnyH_take (i := 1) (v := .bool true) rfl (by kernel_rfl) (by kernel_rfl) (by kernel_rfl) (fun _ _ _ h => h) (Or.inl ⟨by rfl, fun w' hSw => by go_simp⟩) hHeld ?_
  try simp only [Act.put, List.getElem_toArray, List.getElem_cons_succ, List.getElem_cons_zero, List.setIfInBounds_toArray, List.set_cons_zero, List.set_cons_succ]
  refine' wpAnyH_take (i := 2) (v := _) rfl (by kernel_rfl) (by kernel_rfl) (by kernel_rfl) (fun _ _ _ h => h) (yieldsIf_load_mid (by rfl) _ _ rfl w2.heap.size 0 rfl D _ (fun w' hSw => (row_range hSw.2.2.2.1)) hu25 rfl hiD) hHeld ?_
  try simp only [Act.put, List.getElem_toArray, List.getElem_cons_succ, List.getElem_cons_zero, List.setIfInBounds_toArray, List.set_cons_zero, List.set_cons_succ]
  refine' wpAnyH_take (i := 3) (v := _) rfl (by kernel_rfl) (by kernel_rfl) (by kernel_rfl) (fun _ _ _ h => h) (yieldsIf_load_mid (by rfl) _ _ rfl w4.heap.size 0 rfl D _ (fun w' hSw => (row_range hSw.2.2.2.2.1)) hu25 rfl hiD) hHeld ?_
  try simp only [Act.put, List.getElem_toArray, List.getElem_cons_succ, List.getElem_cons_zero, List.setIfInBounds_toArray, List.set_cons_zero, List.set_cons_succ]
  refine wpAnyH_take (i := 4) (v := .bool true) rfl (by kernel_rfl) (by kernel_rfl) (by kernel_rfl) (fun _ _ _ h => h) (Or.inl ⟨by rfl, fun w' hSw => by go_simp⟩) hHeld ?_
  try simp only [Act.put, List.getElem_toArray, List.getElem_cons_succ, List.getElem_cons_zero, List.setIfInBounds_toArray, List.set_cons_zero, List.set_cons_succ]
  refine wpAnyH_take (i := 5) (v := .bool true) rfl (by kernel_rfl) (by kernel_rfl) (by kernel_rfl) (fun _ _ _ h => h) (Or.inl ⟨by rfl, fun w' hSw => by go_simp⟩) hHeld ?_
  try simp only [Act.put, List.getElem_toArray, List.getElem_cons_succ, List.getElem_cons_zero, List.setIfInBounds_toArray, List.set_cons_zero, List.set_cons_succ]
  refine wpAnyH_take (i := 6) (v := .bool true) rfl (by kernel_rfl) (by kernel_rfl) (by kernel_rfl) (fun _ _ _ h => h) (Or.inl ⟨by rfl, fun w' hSw => by go_simp⟩) hHeld ?_
  try simp only [Act.put, List.getElem_toArray, List.getElem_cons_succ, List.getElem_cons_zero, List.setIfInBounds_toArray, List.set_cons_zero, List.set_cons_succ]
  refine wpAnyH_take (i := 7) (v := .int .i64 se) rfl (by kernel_rfl) (by kernel_rfl) (by kernel_rfl) (fun _ _ _ h => h) (Or.inl ⟨by rfl, fun w' hSw => by go_simp⟩) hHeld ?_
  try simp only [Act.put, List.getElem_toArray, List.getElem_cons_succ, List.getElem_cons_zero, List.setIfInBounds_toArray, List.set_cons_zero, List.set_cons_succ]
  refine wpAnyH_take (i := 8) (v := .int .i64 se) rfl (by kernel_rfl) (by kernel_rfl) (by kernel_rfl) (fun _ _ _ h => h) (Or.inl ⟨by rfl, fun w' hSw => by go_simp⟩) hHeld ?_
  try simp only [Act.put, List.getElem_toArray, List.getElem_cons_succ, List.getElem_cons_zero, List.setIfInBounds_toArray, List.set_cons_zero, List.set_cons_succ]
  refine wpAnyH_take (i := 9) (v := .bool true) rfl (by kernel_rfl) (by kernel_rfl) (by kernel_rfl) (fun _ _ _ h => h) (Or.inl ⟨by rfl, fun w' hSw => by go_simp⟩) hHeld ?_
  try simp only [Act.put, List.getElem_toArray, List.getElem_cons_succ, List.getElem_cons_zero, List.setIfInBounds_toArray, List.set_cons_zero, List.set_cons_succ]
  refine wpAnyH_take (i := 10) (v := .bool true) rfl (by kernel_rfl) (by kernel_rfl) (by kernel_rfl) (fun _ _ _ h => h) (Or.inl ⟨by rfl, fun w' hSw => by go_simp⟩) hHeld ?_
  try simp only [Act.put, List.getElem_toArray, List.getElem_cons_succ, List.getElem_cons_zero, List.setIfInBounds_toArray, List.set_cons_zero, List.set_cons_succ]
  refine wpAnyH_take (i := 11) (v := .bool true) rfl (by kernel_rfl) (by kernel_rfl) (by kernel_rfl) (fun _ _ _ h => h) (Or.inl ⟨by rfl, fun w' hSw => by go_simp⟩) hHeld ?_
  try simp only [Act.put, List.getElem_toArray, List.getElem_cons_succ, List.getElem_cons_zero, List.setIfInBounds_toArray, List.set_cons_zero, List.set_cons_succ]
  refine' wpAnyH_take (i := 12) (v := _) rfl (by kernel_rfl) (by kernel_rfl) (by kernel_rfl) (fun _ _ _ h => h) (yieldsIf_load_mid (by rfl) _ _ rfl w6.heap.size 0 rfl E _ (fun w' hSw => (row_range hSw.2.2.2.2.2.1)) hu25 rfl hiE) hHeld ?_
  try simp only [Act.put, List.getElem_toArray, List.getElem_cons_succ, List.getElem_cons_zero, List.setIfInBounds_toArray, List.set_cons_zero, List.set_cons_succ]
  refine' wpAnyH_take (i := 13) (v := _) rfl (by kernel_rfl) (by kernel_rfl) (by kernel_rfl) (fun _ _ _ h => h) (yieldsIf_load_mid (by rfl) _ _ rfl w8.heap.size 0 rfl E _ (fun w' hSw => (row_range hSw.2.2.2.2.2.2)) hu25 rfl hiE) hHeld ?_
  try simp only [Act.put, List.getElem_toArray, List.getElem_cons_succ, List.getElem_cons_zero, List.setIfInBounds_toArray, List.set_cons_zero, List.set_cons_succ]
  refine wpAnyH_take (i := 14) (v := .bool true) rfl (by kernel_rfl) (by kernel_rfl) (by kernel_rfl) (fun _ _ _ h => h) (Or.inl ⟨by rfl, fun w' hSw => by go_simp⟩) hHeld ?_
  try simp only [Act.put, List.getElem_toArray, List.getElem_cons_succ, List.getElem_cons_zero, List.setIfInBounds_toArray, List.set_cons_zero, List.set_cons_succ]
  refine wpAnyH_take (i := 15) (v := .bool true) rfl (by kernel_rfl) (by kernel_rfl) (by kernel_rfl) (fun _ _ _ h => h) (Or.inl ⟨by rfl, fun w' hSw => by go_simp⟩) hHeld ?_
  try simp only [Act.put, List.getElem_toArray, List.getElem_cons_succ, List.getElem_cons_zero, List.setIfInBounds_toArray, List.set_cons_zero, List.set_cons_succ]
  refine wpAnyH_take (i := 16) (v := .bool true) rfl (by kernel_rfl) (by kernel_rfl) (by kernel_rfl) (fun _ _ _ h => h) (Or.inl ⟨by rfl, fun w' hSw => by go_simp⟩) hHeld ?_
  try simp only [Act.put, List.getElem_toArray, List.getElem_cons_succ, List.getElem_cons_zero, List.setIfInBounds_toArray, List.set_cons_zero, List.set_cons_succ]
  refine wpAnyH_take (i := 17) (v := .int .i64 he) rfl (by kernel_rfl) (by kernel_rfl) (by kernel_rfl) (fun _ _ _ h => h) (Or.inl ⟨by rfl, fun w' hSw => by go_simp⟩) hHeld ?_
  try simp only [Act.put, List.getElem_toArray, List.getElem_cons_succ, List.getElem_cons_zero, List.setIfInBounds_toArray, List.set_cons_zero, List.set_cons_succ]
  refine wpAnyH_take (i := 18) (v := .int .i64 he) rfl (by kernel_rfl) (by kernel_rfl) (by kernel_rfl) (fun _ _ _ h => h) (Or.inl ⟨by rfl, fun w' hSw => by go_simp⟩) hHeld ?_
  try simp only [Act.put, List.getElem_toArray, List.getElem_cons_succ, List.getElem_cons_zero, List.setIfInBounds_toArray, List.set_cons_zero, List.set_cons_succ]
  refine wpAnyH_take (i := 19) (v := .bool true) rfl (by kernel_rfl) (by kernel_rfl) (by kernel_rfl) (fun _ _ _ h => h) (Or.inl ⟨by rfl, fun w' hSw => by go_simp⟩) hHeld ?_
  try simp only [Act.put, List.getElem_toArray, List.getElem_cons_succ, List.getElem_cons_zero, List.setIfInBounds_toArray, List.set_cons_zero, List.set_cons_succ]
  refine wpAnyH_take (i := 20) (v := .bool true) rfl (by kernel_rfl) (by kernel_rfl) (by kernel_rfl) (fun _ _ _ h => h) (Or.inl ⟨by rfl, fun w' hSw => by go_simp⟩) hHeld ?_
  try simp only [Act.put, List.getElem_toArray, List.getElem_cons_succ, List.getElem_cons_zero, List.setIfInBounds_toArray, List.set_cons_zero, List.set_cons_succ]
  refine wpAnyH_take (i := 21) (v := .bool true) rfl (by kernel_rfl) (by kernel_rfl) (by kernel_rfl) (fun _ _ _ h => h) (Or.inl ⟨by rfl, fun w' hSw => by go_simp⟩) hHeld ?_
  try simp only [Act.put, List.getElem_toArray, List.getElem_cons_succ, List.getElem_cons_zero, List.setIfInBounds_toArray, List.set_cons_zero, List.set_cons_succ]
  refine' wpAnyH_take (i := 22) (v := _) rfl (by kernel_rfl) (by kernel_rfl) (by kernel_rfl) (fun _ _ _ h => h) (yieldsIf_load_mid (by rfl) _ _ rfl w.heap.size 0 rfl C _ (fun w' hSw => (row_range hSw.2.2.1)) hu25 rfl hiC) hHeld ?_
  try simp only [Act.put, List.getElem_toArray, List.getElem_cons_succ, List.getElem_cons_zero, List.setIfInBounds_toArray, List.set_cons_zero, List.set_cons_succ]
  refine' wpAnyH_take (i := 24) (v := _) rfl (by kernel_rfl) (by kernel_rfl) (by kernel_rfl) (fun _ _ _ h => h) (yieldsIf_load_mid (by rfl) _ _ rfl w.heap.size 0 rfl C _ (fun w' hSw => (row_range hSw.2.2.1)) hu25 rfl hiC) hHeld ?_
  try simp only [Act.put, List.getElem_toArray, List.getElem_cons_succ, List.getElem_cons_zero, List.setIfInBounds_toArray, List.set_cons_zero, List.set_cons_succ]
  refine wpAnyH_ready (rs := [23]) (by kernel_rfl) (by simp) (AllReadyH.cons rfl (fun K1 hK1 => ?_) AllReadyH.nil)
  try simp only [Act.put, List.getElem_toArray, List.getElem_cons_succ, List.getElem_cons_zero, List.setIfInBounds_toArray, List.set_cons_zero, List.set_cons_succ]
  go_simp
  refine Calls.mono (SD.out _ hHeld.tab) ?_
  rintro e wb ⟨rfl, hbb⟩
  refine hK1.out _ _ (hHeld.step hbb) (fun hHeld => ?_)
  clear hK1 K1
  try simp only [Act.put, List.getElem_toArray, List.getElem_cons_succ, List.getElem_cons_zero, List.setIfInBounds_toArray, List.set_cons_zero, List.set_cons_succ]
  refine wpAnyH_ready (rs := [25]) (by kernel_rfl) (by simp) (AllReadyH.cons rfl (fun K1 hK1 => ?_) AllReadyH.nil)
  try simp only [Act.put, List.getElem_toArray, List.getElem_cons_succ, List.getElem_cons_zero, List.setIfInBounds_toArray, List.set_cons_zero, List.set_cons_succ]
  go_simp
  refine Calls.mono (RSD.out _) ?_
  rintro e wc ⟨rfl, hbc⟩
  refine hK1.out _ _ (hHeld.step hbc) (fun hHeld => ?_)
  clear hK1 K1
  try simp only [Act.put, List.getElem_toArray, List.getElem_cons_succ, List.getElem_cons_zero, List.setIfInBounds_toArray, List.set_cons_zero, List.set_cons_succ]
  refine wpAnyH_take (i := 26) (v := .bool true) rfl (by kernel_rfl) (by kernel_rfl) (by kernel_rfl) (fun _ _ _ h => h) (Or.inl ⟨by rfl, fun w' hSw => by go_simp⟩) hHeld ?_
  try simp only [Act.put, List.getElem_toArray, List.getElem_cons_succ, List.getElem_cons_zero, List.setIfInBounds_toArray, List.set_cons_zero, List.set_cons_succ]
  refine wpAnyH_take (i := 27) (v := .bool true) rfl (by kernel_rfl) (by kernel_rfl) (by kernel_rfl) (fun _ _ _ h => h) (Or.inl ⟨by rfl, fun w' hSw => by go_simp⟩) hHeld ?_
  try simp only [Act.put, List.getElem_toArray, List.getElem_cons_succ, List.getElem_cons_zero, List.setIfInBounds_toArray, List.set_cons_zero, List.set_cons_succ]
  refine wpAnyH_take (i := 28) (v := .bool true) rfl (by kernel_rfl) (by kernel_rfl) (by kernel_rfl) (fun _ _ _ h => h) (Or.inl ⟨by rfl, fun w' hSw => by go_simp⟩) hHeld ?_
  try simp only [Act.put, List.getElem_toArray, List.getElem_cons_succ, List.getElem_cons_zero, List.setIfInBounds_toArray, List.set_cons_zero, List.set_cons_succ]
  refine wpAnyH_done (by kernel_rfl) ?_ _
  have HB := Lib.hid hHeld.2.1
  go_wp2_with fail
  go_ret
  exact ⟨rfl, HB.out⟩
end Go.Proofs.YtdekcicgiflnbaaDoor
