/- The reference's ahead. -/
import Derived.Test.YtlapmdgkcidhnaaDoorAuWin
namespace Go.Proofs.YtlapmdgkcidhnaaDoor
open Go.RowKit
set_option linter.unusedVariables false
set_option linter.unusedSimpArgs false
set_option maxRecDepth 100000

set_option maxHeartbeats 1600000 in
theorem rah_0 (hRS : RefSum) (a b : Bd) (ha : a.tag.length = 32) (hb : b.tag.length = 32) (w : World) (h0 : a.amount ≠ b.amount) :
    Calls Tryd.prog 50 #[.agg a.cells.toArray, .agg b.cells.toArray] w fun e w' => e = .returned (.bool (Au.hi a b)) ∧ Below w.heap.size w w' := by
  obtain ⟨r2, hb0, r1⟩ := row_two w a.cells.toArray b.cells.toArray 30 30
  rw [List.toList_toArray] at r1 r2
  obtain ⟨_, _, a2, _⟩ := bid_box r1
  obtain ⟨_, _, b2, _⟩ := bid_box r2
  have HB0 := Lib.hid hb0
  have HR1 := Lib.hid r1
  have HR2 := Lib.hid r2
  have HA36 := Lib.hid (Bd.cells_len ha)
  have HB36 := Lib.hid (Bd.cells_len hb)
  have hD : (Au.hi a b) = if a.amount ≠ b.amount then decide (b.amount < a.amount) else if Au.sum a ≠ Au.sum b then decide (Au.sum a < Au.sum b) else decide (Au.txt a < Au.txt b) := rfl
  have hsa := Au.sum_len a
  have hsb := Au.sum_len b
  obtain ⟨U, hU⟩ : ∃ U : ByteArray, U = ⟨(Au.txt a).toArray⟩ := ⟨_, rfl⟩
  obtain ⟨V, hV⟩ : ∃ V : ByteArray, V = ⟨(Au.txt b).toArray⟩ := ⟨_, rfl⟩
  obtain ⟨X, hX⟩ : ∃ X : ByteArray, X = ⟨(Au.sum a).toArray⟩ := ⟨_, rfl⟩
  obtain ⟨Y, hY⟩ : ∃ Y : ByteArray, Y = ⟨(Au.sum b).toArray⟩ := ⟨_, rfl⟩
  have hUs : U.size ≤ 140737488355000 := by have := Bd.text_len a; rw [hU]; show (Au.txt a).length ≤ _; unfold Au.txt; omega
  have hVs : V.size ≤ 140737488355000 := by have := Bd.text_len b; rw [hV]; show (Au.txt b).length ≤ _; unfold Au.txt; omega
  have WA : Hid (∀ W, Calls Tryd.prog 72 #[.agg a.cells.toArray] W fun e w' => e = .returned (.tuple #[.string U, .int .i64 a.textE.2]) ∧ Below W.heap.size W w') := Lib.hid (fun W => by rw [hU]; exact rwriteBid_any a ha W)
  have WB : Hid (∀ W, Calls Tryd.prog 72 #[.agg b.cells.toArray] W fun e w' => e = .returned (.tuple #[.string V, .int .i64 b.textE.2]) ∧ Below W.heap.size W w') := Lib.hid (fun W => by rw [hV]; exact rwriteBid_any b hb W)
  have SA : Hid (∀ W, Calls Tryd.prog 74 #[.string U] W fun e w' => e = .returned (.agg (bRow (Au.sum a))) ∧ Below W.heap.size W w') := Lib.hid (fun W => by have := hRS U W hUs; rw [hU] at this ⊢; exact this)
  have SB : Hid (∀ W, Calls Tryd.prog 74 #[.string V] W fun e w' => e = .returned (.agg (bRow (Au.sum b))) ∧ Below W.heap.size W w') := Lib.hid (fun W => by have := hRS V W hVs; rw [hV] at this ⊢; exact this)
  have BA : Hid (∀ W, Calls Tryd.prog 73 #[.agg (bRow (Au.sum a))] W fun e w' => e = .returned (.string X) ∧ Below W.heap.size W w') := Lib.hid (fun W => by rw [hX]; exact bytes_any _ W hsa)
  have BB : Hid (∀ W, Calls Tryd.prog 73 #[.agg (bRow (Au.sum b))] W fun e w' => e = .returned (.string Y) ∧ Below W.heap.size W w') := Lib.hid (fun W => by rw [hY]; exact bytes_any _ W hsb)
  have hXl : X.toList = Au.sum a := by rw [hX, Lib.toList_data]
  have hYl : Y.toList = Au.sum b := by rw [hY, Lib.toList_data]
  have hUl : U.toList = Au.txt a := by rw [hU, Lib.toList_data]
  have hVl : V.toList = Au.txt b := by rw [hV, Lib.toList_data]
  obtain ⟨R, hR⟩ : ∃ R, R = Au.hi a b := ⟨_, rfl⟩
  rw [← hR] at hD ⊢
  clear hR hb0 r1 r2 ha hb hU hV hX hY hUs hVs hsa hsb
  have e0 : (a.amount != b.amount) = true := by simpa using h0
  have HR : Hid (R = decide (b.amount < a.amount)) := Lib.hid (by rw [hD, if_pos h0])
  clear hXl hYl hUl hVl
  clear hD h0
  generalize a.cells = C1 at *
  generalize b.cells = C2 at *
  generalize a.amount = x at *
  generalize b.amount = y at *
  generalize a.textE.2 = ea at *
  generalize b.textE.2 = eb at *
  generalize Au.sum a = p at *
  generalize Au.sum b = q at *
  go_enter Tryd.func50, Tryd.ntmps50
  go_wp2_with fail
  go_ret
  refine ⟨?_, HB0.out⟩
  rw [HR.out]
  rfl
set_option maxHeartbeats 1600000 in
theorem rah_1 (hRS : RefSum) (a b : Bd) (ha : a.tag.length = 32) (hb : b.tag.length = 32) (w : World) (h0 : a.amount = b.amount) (h1 : Op.bytesLess (Au.sum a) (Au.sum b) = true) :
    Calls Tryd.prog 50 #[.agg a.cells.toArray, .agg b.cells.toArray] w fun e w' => e = .returned (.bool (Au.hi a b)) ∧ Below w.heap.size w w' := by
  obtain ⟨r2, hb0, r1⟩ := row_two w a.cells.toArray b.cells.toArray 30 30
  rw [List.toList_toArray] at r1 r2
  obtain ⟨_, _, a2, _⟩ := bid_box r1
  obtain ⟨_, _, b2, _⟩ := bid_box r2
  have HB0 := Lib.hid hb0
  have HR1 := Lib.hid r1
  have HR2 := Lib.hid r2
  have HA36 := Lib.hid (Bd.cells_len ha)
  have HB36 := Lib.hid (Bd.cells_len hb)
  have hD : (Au.hi a b) = if a.amount ≠ b.amount then decide (b.amount < a.amount) else if Au.sum a ≠ Au.sum b then decide (Au.sum a < Au.sum b) else decide (Au.txt a < Au.txt b) := rfl
  have hsa := Au.sum_len a
  have hsb := Au.sum_len b
  obtain ⟨U, hU⟩ : ∃ U : ByteArray, U = ⟨(Au.txt a).toArray⟩ := ⟨_, rfl⟩
  obtain ⟨V, hV⟩ : ∃ V : ByteArray, V = ⟨(Au.txt b).toArray⟩ := ⟨_, rfl⟩
  obtain ⟨X, hX⟩ : ∃ X : ByteArray, X = ⟨(Au.sum a).toArray⟩ := ⟨_, rfl⟩
  obtain ⟨Y, hY⟩ : ∃ Y : ByteArray, Y = ⟨(Au.sum b).toArray⟩ := ⟨_, rfl⟩
  have hUs : U.size ≤ 140737488355000 := by have := Bd.text_len a; rw [hU]; show (Au.txt a).length ≤ _; unfold Au.txt; omega
  have hVs : V.size ≤ 140737488355000 := by have := Bd.text_len b; rw [hV]; show (Au.txt b).length ≤ _; unfold Au.txt; omega
  have WA : Hid (∀ W, Calls Tryd.prog 72 #[.agg a.cells.toArray] W fun e w' => e = .returned (.tuple #[.string U, .int .i64 a.textE.2]) ∧ Below W.heap.size W w') := Lib.hid (fun W => by rw [hU]; exact rwriteBid_any a ha W)
  have WB : Hid (∀ W, Calls Tryd.prog 72 #[.agg b.cells.toArray] W fun e w' => e = .returned (.tuple #[.string V, .int .i64 b.textE.2]) ∧ Below W.heap.size W w') := Lib.hid (fun W => by rw [hV]; exact rwriteBid_any b hb W)
  have SA : Hid (∀ W, Calls Tryd.prog 74 #[.string U] W fun e w' => e = .returned (.agg (bRow (Au.sum a))) ∧ Below W.heap.size W w') := Lib.hid (fun W => by have := hRS U W hUs; rw [hU] at this ⊢; exact this)
  have SB : Hid (∀ W, Calls Tryd.prog 74 #[.string V] W fun e w' => e = .returned (.agg (bRow (Au.sum b))) ∧ Below W.heap.size W w') := Lib.hid (fun W => by have := hRS V W hVs; rw [hV] at this ⊢; exact this)
  have BA : Hid (∀ W, Calls Tryd.prog 73 #[.agg (bRow (Au.sum a))] W fun e w' => e = .returned (.string X) ∧ Below W.heap.size W w') := Lib.hid (fun W => by rw [hX]; exact bytes_any _ W hsa)
  have BB : Hid (∀ W, Calls Tryd.prog 73 #[.agg (bRow (Au.sum b))] W fun e w' => e = .returned (.string Y) ∧ Below W.heap.size W w') := Lib.hid (fun W => by rw [hY]; exact bytes_any _ W hsb)
  have hXl : X.toList = Au.sum a := by rw [hX, Lib.toList_data]
  have hYl : Y.toList = Au.sum b := by rw [hY, Lib.toList_data]
  have hUl : U.toList = Au.txt a := by rw [hU, Lib.toList_data]
  have hVl : V.toList = Au.txt b := by rw [hV, Lib.toList_data]
  obtain ⟨R, hR⟩ : ∃ R, R = Au.hi a b := ⟨_, rfl⟩
  rw [← hR] at hD ⊢
  clear hR hb0 r1 r2 ha hb hU hV hX hY hUs hVs hsa hsb
  have e0 : (a.amount != b.amount) = false := by simpa using h0
  have e1 : Op.bytesLess X.toList Y.toList = true := by rw [hXl, hYl]; exact h1
  have HR : Hid (R = true) := Lib.hid (by
    rw [bytesLess_eq, decide_eq_true_eq] at h1
    rw [hD, if_neg (by simp [h0]), if_pos (by intro e; rw [e] at h1; exact absurd h1 (List.lt_irrefl _))]
    simpa using h1)
  clear hXl hYl hUl hVl h1
  clear hD h0
  generalize a.cells = C1 at *
  generalize b.cells = C2 at *
  generalize a.amount = x at *
  generalize b.amount = y at *
  generalize a.textE.2 = ea at *
  generalize b.textE.2 = eb at *
  generalize Au.sum a = p at *
  generalize Au.sum b = q at *
  go_enter Tryd.func50, Tryd.ntmps50
  go_wp2_with ((with_reducible show wpList _ _ _ (⟨_, .load 30 (.tmp 2), _, _, _, _⟩ :: _) _ _); refine wpList_load_tx rfl 30 (.tmp 2) rfl w.heap.size 0 (rfl) C1 _ (row_range HR1.out) Tryd.underlying30 rfl (by rw [bid_info, HA36.out]) ?_)
  refine (WA.out _).mono ?_
  rintro _ w3 ⟨rfl, hb3⟩
  have HB3 := Lib.hid (two_below' HB0.out hb3)
  have HR23 := Lib.hid (HR2.out.kept (grownBy_of_below hb3 none) (by simp))
  clear hb3
  go_wp2_with ((with_reducible show wpList _ _ _ (⟨_, .load 30 (.tmp 3), _, _, _, _⟩ :: _) _ _); refine wpList_load_tx rfl 30 (.tmp 3) rfl (w.heap.size + 1) 0 (rfl) C2 _ (row_range HR23.out) Tryd.underlying30 rfl (by rw [bid_info, HB36.out]) ?_)
  refine (WB.out _).mono ?_
  rintro _ w4 ⟨rfl, hb4⟩
  have HB4 := Lib.hid (two_below' HB3.out hb4)
  clear hb4
  go_wp2_with fail
  refine (SA.out _).mono ?_
  rintro _ w5 ⟨rfl, hb5⟩
  have HB5 := Lib.hid (two_below' HB4.out hb5)
  clear hb5
  go_wp2_with fail
  refine (BA.out _).mono ?_
  rintro _ w6 ⟨rfl, hb6⟩
  have HB6 := Lib.hid (two_below' HB5.out hb6)
  clear hb6
  go_wp2_with fail
  refine (SB.out _).mono ?_
  rintro _ w7 ⟨rfl, hb7⟩
  have HB7 := Lib.hid (two_below' HB6.out hb7)
  clear hb7
  go_wp2_with fail
  refine (BB.out _).mono ?_
  rintro _ w8 ⟨rfl, hb8⟩
  have HB8 := Lib.hid (two_below' HB7.out hb8)
  clear hb8
  go_wp2_with fail
  go_ret
  refine ⟨?_, HB8.out⟩
  rw [HR.out]
  try rfl
set_option maxHeartbeats 1600000 in
theorem rah_2 (hRS : RefSum) (a b : Bd) (ha : a.tag.length = 32) (hb : b.tag.length = 32) (w : World) (h0 : a.amount = b.amount) (h1 : Op.bytesLess (Au.sum a) (Au.sum b) = false) (h2 : Au.sum a ≠ Au.sum b) :
    Calls Tryd.prog 50 #[.agg a.cells.toArray, .agg b.cells.toArray] w fun e w' => e = .returned (.bool (Au.hi a b)) ∧ Below w.heap.size w w' := by
  obtain ⟨r2, hb0, r1⟩ := row_two w a.cells.toArray b.cells.toArray 30 30
  rw [List.toList_toArray] at r1 r2
  obtain ⟨_, _, a2, _⟩ := bid_box r1
  obtain ⟨_, _, b2, _⟩ := bid_box r2
  have HB0 := Lib.hid hb0
  have HR1 := Lib.hid r1
  have HR2 := Lib.hid r2
  have HA36 := Lib.hid (Bd.cells_len ha)
  have HB36 := Lib.hid (Bd.cells_len hb)
  have hD : (Au.hi a b) = if a.amount ≠ b.amount then decide (b.amount < a.amount) else if Au.sum a ≠ Au.sum b then decide (Au.sum a < Au.sum b) else decide (Au.txt a < Au.txt b) := rfl
  have hsa := Au.sum_len a
  have hsb := Au.sum_len b
  obtain ⟨U, hU⟩ : ∃ U : ByteArray, U = ⟨(Au.txt a).toArray⟩ := ⟨_, rfl⟩
  obtain ⟨V, hV⟩ : ∃ V : ByteArray, V = ⟨(Au.txt b).toArray⟩ := ⟨_, rfl⟩
  obtain ⟨X, hX⟩ : ∃ X : ByteArray, X = ⟨(Au.sum a).toArray⟩ := ⟨_, rfl⟩
  obtain ⟨Y, hY⟩ : ∃ Y : ByteArray, Y = ⟨(Au.sum b).toArray⟩ := ⟨_, rfl⟩
  have hUs : U.size ≤ 140737488355000 := by have := Bd.text_len a; rw [hU]; show (Au.txt a).length ≤ _; unfold Au.txt; omega
  have hVs : V.size ≤ 140737488355000 := by have := Bd.text_len b; rw [hV]; show (Au.txt b).length ≤ _; unfold Au.txt; omega
  have WA : Hid (∀ W, Calls Tryd.prog 72 #[.agg a.cells.toArray] W fun e w' => e = .returned (.tuple #[.string U, .int .i64 a.textE.2]) ∧ Below W.heap.size W w') := Lib.hid (fun W => by rw [hU]; exact rwriteBid_any a ha W)
  have WB : Hid (∀ W, Calls Tryd.prog 72 #[.agg b.cells.toArray] W fun e w' => e = .returned (.tuple #[.string V, .int .i64 b.textE.2]) ∧ Below W.heap.size W w') := Lib.hid (fun W => by rw [hV]; exact rwriteBid_any b hb W)
  have SA : Hid (∀ W, Calls Tryd.prog 74 #[.string U] W fun e w' => e = .returned (.agg (bRow (Au.sum a))) ∧ Below W.heap.size W w') := Lib.hid (fun W => by have := hRS U W hUs; rw [hU] at this ⊢; exact this)
  have SB : Hid (∀ W, Calls Tryd.prog 74 #[.string V] W fun e w' => e = .returned (.agg (bRow (Au.sum b))) ∧ Below W.heap.size W w') := Lib.hid (fun W => by have := hRS V W hVs; rw [hV] at this ⊢; exact this)
  have BA : Hid (∀ W, Calls Tryd.prog 73 #[.agg (bRow (Au.sum a))] W fun e w' => e = .returned (.string X) ∧ Below W.heap.size W w') := Lib.hid (fun W => by rw [hX]; exact bytes_any _ W hsa)
  have BB : Hid (∀ W, Calls Tryd.prog 73 #[.agg (bRow (Au.sum b))] W fun e w' => e = .returned (.string Y) ∧ Below W.heap.size W w') := Lib.hid (fun W => by rw [hY]; exact bytes_any _ W hsb)
  have hXl : X.toList = Au.sum a := by rw [hX, Lib.toList_data]
  have hYl : Y.toList = Au.sum b := by rw [hY, Lib.toList_data]
  have hUl : U.toList = Au.txt a := by rw [hU, Lib.toList_data]
  have hVl : V.toList = Au.txt b := by rw [hV, Lib.toList_data]
  obtain ⟨R, hR⟩ : ∃ R, R = Au.hi a b := ⟨_, rfl⟩
  rw [← hR] at hD ⊢
  clear hR hb0 r1 r2 ha hb hU hV hX hY hUs hVs hsa hsb
  have e0 : (a.amount != b.amount) = false := by simpa using h0
  have e1 : Op.bytesLess X.toList Y.toList = false := by rw [hXl, hYl]; exact h1
  have e2 : (X.toList == Y.toList) = false := by rw [hXl, hYl]; simpa using h2
  have HR : Hid (R = false) := Lib.hid (by
    rw [bytesLess_eq, decide_eq_false_iff_not] at h1
    rw [hD, if_neg (by simp [h0]), if_pos h2]
    simpa using h1)
  clear hXl hYl hUl hVl h1 h2
  clear hD h0
  generalize a.cells = C1 at *
  generalize b.cells = C2 at *
  generalize a.amount = x at *
  generalize b.amount = y at *
  generalize a.textE.2 = ea at *
  generalize b.textE.2 = eb at *
  generalize Au.sum a = p at *
  generalize Au.sum b = q at *
  go_enter Tryd.func50, Tryd.ntmps50
  go_wp2_with ((with_reducible show wpList _ _ _ (⟨_, .load 30 (.tmp 2), _, _, _, _⟩ :: _) _ _); refine wpList_load_tx rfl 30 (.tmp 2) rfl w.heap.size 0 (rfl) C1 _ (row_range HR1.out) Tryd.underlying30 rfl (by rw [bid_info, HA36.out]) ?_)
  refine (WA.out _).mono ?_
  rintro _ w3 ⟨rfl, hb3⟩
  have HB3 := Lib.hid (two_below' HB0.out hb3)
  have HR23 := Lib.hid (HR2.out.kept (grownBy_of_below hb3 none) (by simp))
  clear hb3
  go_wp2_with ((with_reducible show wpList _ _ _ (⟨_, .load 30 (.tmp 3), _, _, _, _⟩ :: _) _ _); refine wpList_load_tx rfl 30 (.tmp 3) rfl (w.heap.size + 1) 0 (rfl) C2 _ (row_range HR23.out) Tryd.underlying30 rfl (by rw [bid_info, HB36.out]) ?_)
  refine (WB.out _).mono ?_
  rintro _ w4 ⟨rfl, hb4⟩
  have HB4 := Lib.hid (two_below' HB3.out hb4)
  clear hb4
  go_wp2_with fail
  refine (SA.out _).mono ?_
  rintro _ w5 ⟨rfl, hb5⟩
  have HB5 := Lib.hid (two_below' HB4.out hb5)
  clear hb5
  go_wp2_with fail
  refine (BA.out _).mono ?_
  rintro _ w6 ⟨rfl, hb6⟩
  have HB6 := Lib.hid (two_below' HB5.out hb6)
  clear hb6
  go_wp2_with fail
  refine (SB.out _).mono ?_
  rintro _ w7 ⟨rfl, hb7⟩
  have HB7 := Lib.hid (two_below' HB6.out hb7)
  clear hb7
  go_wp2_with fail
  refine (BB.out _).mono ?_
  rintro _ w8 ⟨rfl, hb8⟩
  have HB8 := Lib.hid (two_below' HB7.out hb8)
  clear hb8
  go_wp2_with fail
  go_ret
  refine ⟨?_, HB8.out⟩
  rw [HR.out]
  try rfl
set_option maxHeartbeats 1600000 in
theorem rah_3 (hRS : RefSum) (a b : Bd) (ha : a.tag.length = 32) (hb : b.tag.length = 32) (w : World) (h0 : a.amount = b.amount) (h2 : Au.sum a = Au.sum b) :
    Calls Tryd.prog 50 #[.agg a.cells.toArray, .agg b.cells.toArray] w fun e w' => e = .returned (.bool (Au.hi a b)) ∧ Below w.heap.size w w' := by
  obtain ⟨r2, hb0, r1⟩ := row_two w a.cells.toArray b.cells.toArray 30 30
  rw [List.toList_toArray] at r1 r2
  obtain ⟨_, _, a2, _⟩ := bid_box r1
  obtain ⟨_, _, b2, _⟩ := bid_box r2
  have HB0 := Lib.hid hb0
  have HR1 := Lib.hid r1
  have HR2 := Lib.hid r2
  have HA36 := Lib.hid (Bd.cells_len ha)
  have HB36 := Lib.hid (Bd.cells_len hb)
  have hD : (Au.hi a b) = if a.amount ≠ b.amount then decide (b.amount < a.amount) else if Au.sum a ≠ Au.sum b then decide (Au.sum a < Au.sum b) else decide (Au.txt a < Au.txt b) := rfl
  have hsa := Au.sum_len a
  have hsb := Au.sum_len b
  obtain ⟨U, hU⟩ : ∃ U : ByteArray, U = ⟨(Au.txt a).toArray⟩ := ⟨_, rfl⟩
  obtain ⟨V, hV⟩ : ∃ V : ByteArray, V = ⟨(Au.txt b).toArray⟩ := ⟨_, rfl⟩
  obtain ⟨X, hX⟩ : ∃ X : ByteArray, X = ⟨(Au.sum a).toArray⟩ := ⟨_, rfl⟩
  obtain ⟨Y, hY⟩ : ∃ Y : ByteArray, Y = ⟨(Au.sum b).toArray⟩ := ⟨_, rfl⟩
  have hUs : U.size ≤ 140737488355000 := by have := Bd.text_len a; rw [hU]; show (Au.txt a).length ≤ _; unfold Au.txt; omega
  have hVs : V.size ≤ 140737488355000 := by have := Bd.text_len b; rw [hV]; show (Au.txt b).length ≤ _; unfold Au.txt; omega
  have WA : Hid (∀ W, Calls Tryd.prog 72 #[.agg a.cells.toArray] W fun e w' => e = .returned (.tuple #[.string U, .int .i64 a.textE.2]) ∧ Below W.heap.size W w') := Lib.hid (fun W => by rw [hU]; exact rwriteBid_any a ha W)
  have WB : Hid (∀ W, Calls Tryd.prog 72 #[.agg b.cells.toArray] W fun e w' => e = .returned (.tuple #[.string V, .int .i64 b.textE.2]) ∧ Below W.heap.size W w') := Lib.hid (fun W => by rw [hV]; exact rwriteBid_any b hb W)
  have SA : Hid (∀ W, Calls Tryd.prog 74 #[.string U] W fun e w' => e = .returned (.agg (bRow (Au.sum a))) ∧ Below W.heap.size W w') := Lib.hid (fun W => by have := hRS U W hUs; rw [hU] at this ⊢; exact this)
  have SB : Hid (∀ W, Calls Tryd.prog 74 #[.string V] W fun e w' => e = .returned (.agg (bRow (Au.sum b))) ∧ Below W.heap.size W w') := Lib.hid (fun W => by have := hRS V W hVs; rw [hV] at this ⊢; exact this)
  have BA : Hid (∀ W, Calls Tryd.prog 73 #[.agg (bRow (Au.sum a))] W fun e w' => e = .returned (.string X) ∧ Below W.heap.size W w') := Lib.hid (fun W => by rw [hX]; exact bytes_any _ W hsa)
  have BB : Hid (∀ W, Calls Tryd.prog 73 #[.agg (bRow (Au.sum b))] W fun e w' => e = .returned (.string Y) ∧ Below W.heap.size W w') := Lib.hid (fun W => by rw [hY]; exact bytes_any _ W hsb)
  have hXl : X.toList = Au.sum a := by rw [hX, Lib.toList_data]
  have hYl : Y.toList = Au.sum b := by rw [hY, Lib.toList_data]
  have hUl : U.toList = Au.txt a := by rw [hU, Lib.toList_data]
  have hVl : V.toList = Au.txt b := by rw [hV, Lib.toList_data]
  obtain ⟨R, hR⟩ : ∃ R, R = Au.hi a b := ⟨_, rfl⟩
  rw [← hR] at hD ⊢
  clear hR hb0 r1 r2 ha hb hU hV hX hY hUs hVs hsa hsb
  have e0 : (a.amount != b.amount) = false := by simpa using h0
  have e1 : Op.bytesLess X.toList Y.toList = false := by rw [hXl, hYl, h2, bytesLess_eq, decide_eq_false_iff_not]; exact List.lt_irrefl _
  have e2 : (X.toList == Y.toList) = true := by rw [hXl, hYl]; simpa using h2
  have HR : Hid (R = Op.bytesLess U.toList V.toList) := Lib.hid (by
    rw [hD, if_neg (by simp [h0]), if_neg (by simp [h2]), hUl, hVl, bytesLess_eq])
  clear hXl hYl hUl hVl h2
  clear hD h0
  generalize a.cells = C1 at *
  generalize b.cells = C2 at *
  generalize a.amount = x at *
  generalize b.amount = y at *
  generalize a.textE.2 = ea at *
  generalize b.textE.2 = eb at *
  generalize Au.sum a = p at *
  generalize Au.sum b = q at *
  go_enter Tryd.func50, Tryd.ntmps50
  go_wp2_with ((with_reducible show wpList _ _ _ (⟨_, .load 30 (.tmp 2), _, _, _, _⟩ :: _) _ _); refine wpList_load_tx rfl 30 (.tmp 2) rfl w.heap.size 0 (rfl) C1 _ (row_range HR1.out) Tryd.underlying30 rfl (by rw [bid_info, HA36.out]) ?_)
  refine (WA.out _).mono ?_
  rintro _ w3 ⟨rfl, hb3⟩
  have HB3 := Lib.hid (two_below' HB0.out hb3)
  have HR23 := Lib.hid (HR2.out.kept (grownBy_of_below hb3 none) (by simp))
  clear hb3
  go_wp2_with ((with_reducible show wpList _ _ _ (⟨_, .load 30 (.tmp 3), _, _, _, _⟩ :: _) _ _); refine wpList_load_tx rfl 30 (.tmp 3) rfl (w.heap.size + 1) 0 (rfl) C2 _ (row_range HR23.out) Tryd.underlying30 rfl (by rw [bid_info, HB36.out]) ?_)
  refine (WB.out _).mono ?_
  rintro _ w4 ⟨rfl, hb4⟩
  have HB4 := Lib.hid (two_below' HB3.out hb4)
  clear hb4
  go_wp2_with fail
  refine (SA.out _).mono ?_
  rintro _ w5 ⟨rfl, hb5⟩
  have HB5 := Lib.hid (two_below' HB4.out hb5)
  clear hb5
  go_wp2_with fail
  refine (BA.out _).mono ?_
  rintro _ w6 ⟨rfl, hb6⟩
  have HB6 := Lib.hid (two_below' HB5.out hb6)
  clear hb6
  go_wp2_with fail
  refine (SB.out _).mono ?_
  rintro _ w7 ⟨rfl, hb7⟩
  have HB7 := Lib.hid (two_below' HB6.out hb7)
  clear hb7
  go_wp2_with fail
  refine (BB.out _).mono ?_
  rintro _ w8 ⟨rfl, hb8⟩
  have HB8 := Lib.hid (two_below' HB7.out hb8)
  clear hb8
  go_wp2_with fail
  go_ret
  refine ⟨?_, HB8.out⟩
  rw [HR.out]
  try rfl
theorem rahead_any (hRS : RefSum) (a b : Bd) (ha : a.tag.length = 32) (hb : b.tag.length = 32) (w : World) :
    Calls Tryd.prog 50 #[.agg a.cells.toArray, .agg b.cells.toArray] w fun e w' => e = .returned (.bool (Au.hi a b)) ∧ Below w.heap.size w w' := by
  by_cases h0 : a.amount = b.amount
  · by_cases h2 : Au.sum a = Au.sum b
    · exact rah_3 hRS a b ha hb w h0 h2
    · cases h1 : Op.bytesLess (Au.sum a) (Au.sum b) with
      | true => exact rah_1 hRS a b ha hb w h0 h1
      | false => exact rah_2 hRS a b ha hb w h0 h1 h2
  · exact rah_0 hRS a b ha hb w h0
end Go.Proofs.YtlapmdgkcidhnaaDoor
