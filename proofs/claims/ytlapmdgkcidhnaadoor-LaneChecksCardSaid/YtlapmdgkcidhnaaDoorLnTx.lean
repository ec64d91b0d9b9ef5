/- The law's transaction. -/
import Derived.Test.YtlapmdgkcidhnaaDoorLnRtake
import Derived.Test.YtlapmdgkcidhnaaDoorLnOpen
namespace Go.Proofs.YtlapmdgkcidhnaaDoor
open Go.RowKit Go.Maps
set_option linter.unusedVariables false
set_option linter.unusedSimpArgs false
set_option maxRecDepth 100000

theorem handE_ok {t : Tx} (h : t.Ok) (who : Int) : (t.handE who).1.Ok := by
  unfold Tx.handE
  split
  · exact Tx.none_ok
  · split
    · exact Tx.none_ok
    · split
      · exact Tx.none_ok
      · exact Tx.hand_ok h who
theorem mid_ok {t : Tx} (h : t.Ok) {r u : Int} (h1 : 0 ≤ r) (h2 : r ≤ 9223372036854775807) (h3 : 0 ≤ u) (h4 : u ≤ 1000) : Tx.Ok { t with round := r, turn := u } :=
  ⟨h.bY, h.tag, h.data, h.frm, h.nonce, h.fee, h.to, ⟨by show _ ≤ r; omega, h2⟩, ⟨by show _ ≤ u; omega, by show u ≤ _; omega⟩⟩
theorem Ln.rnd_bounds {len now : Int} (h : 1 ≤ len ∧ len ≤ 1099511627776) (hn : -9223372036854775808 ≤ now ∧ now ≤ 9223372036854775807) : 0 ≤ Ln.rnd len now ∧ Ln.rnd len now ≤ 9223372036854775807 := by
  unfold Ln.rnd
  split
  · omega
  · next h0 =>
    have h1 : 0 ≤ now / len := Int.ediv_nonneg (by omega) (by omega)
    have h2 : now / len ≤ now := Int.ediv_le_self _ (by omega)
    omega
set_option maxHeartbeats 1600000 in
theorem tx16_bneg {w : World} {base RB n : Nat} {v : Value} {len : Int} {L : List Ln.H} (a : Act16) (ha : a.Fits) (h : RLaneAt w base RB v len L n) (hn9 : n ≤ 900) (hc : a.turn = false ∨ a.tx.lane = false) (hh : a.hand < 0) :
    Calls Tryd.prog 41 #[.pointer (some ⟨RB, 0, none⟩), .agg a.cells.toArray] w fun e w' => e = .returned (.agg (a.tx).cells.toArray) ∧ Below w.heap.size w w' := by
  have e1 : (w.alloc (.cells a.cells.toArray 76)).heap.size = w.heap.size + 1 := by simp
  have e2 : ((w.alloc (.cells a.cells.toArray 76)).alloc (.cells Tx.none.cells.toArray 74)).heap.size = w.heap.size + 1 + 1 := by simp
  have b1 : Blocks w (w.alloc (.cells a.cells.toArray 76)) [(w.heap.size, 76, a.cells)] := (Blocks.nil ((Below.refl w.heap.size w).alloc (Nat.le_refl _) _)).cons (Row.new w _ _)
  have r2 := Row.new (w.alloc (.cells a.cells.toArray 76)) 74 Tx.none.cells
  rw [e1] at r2
  have b2 := (b1.alloc (.cells Tx.none.cells.toArray 74)).cons r2
  have n5 := Row.new ((w.alloc (.cells a.cells.toArray 76)).alloc (.cells Tx.none.cells.toArray 74)) 74 Tx.none.cells
  rw [e2] at n5
  have HB2 := Lib.hid b2
  have HN5 := Lib.hid n5
  have HT72 := Lib.hid (Tx.cells_length ha.tx)
  have HT1 := Lib.hid (Tx.cells_one ha.tx)
  have HZ72 := Lib.hid (Tx.cells_length Tx.none_ok)
  have hzv : ∀ W : World, (zeroValue 74).run Tryd.prog W = .ok (.agg Tx.none.cells.toArray) W := tx_zv
  have HCa : Hid (∀ (W : World) (g : Nat), Row W g 76 a.cells → W.cell? ⟨g, 4, none⟩ = some (.int .i64 a.now) ∧ W.cell? ⟨g, 5, none⟩ = some (.int .i64 a.hand) ∧ W.cell? ⟨g, 6, none⟩ = some (.bool a.turn)) := Lib.hid (fun W g h => ⟨by have := row_range h 4 (.int .i64 a.now) rfl; simpa using this, by have := row_range h 5 (.int .i64 a.hand) rfl; simpa using this, by have := row_range h 6 (.bool a.turn) rfl; simpa using this⟩)
  have HCt : Hid (∀ (W : World) (g : Nat), Row W g 74 a.tx.cells → W.cell? ⟨g, 5, none⟩ = some (.bool a.tx.lane) ∧ W.cell? ⟨g, 6, none⟩ = some (.int .i64 a.tx.round)) := Lib.hid (fun W g h => ⟨(tx_box ha.tx h).2.2.2.2.2.1, (tx_box ha.tx h).2.2.2.2.2.2.1⟩)
  have H7 : Hid (((w.alloc (.cells a.cells.toArray 76)).alloc (.cells Tx.none.cells.toArray 74)).rangeAt w.heap.size 7 a.tx.cells) := Lib.hid (fun j v hv => by
    have hr := row_range b2.tl.hd (7 + j) v (by
      have e : a.cells = [.int .i64 a.kind, .int .i64 a.round, .int .i64 a.a, .int .i64 a.b, .int .i64 a.now, .int .i64 a.hand, .bool a.turn] ++ (a.tx.cells ++ []) := rfl
      rw [e, List.getElem?_append_right (by simp), List.append_nil]
      simpa using hv)
    rw [Nat.zero_add] at hr
    exact hr)
  have hdn : decide (0 ≤ a.hand) = false := by simp; omega
  have hdn2 : ¬ 0 ≤ a.hand := by omega
  have hw1 : w.heap.size ≤ w.heap.size + 1 := by omega
  generalize a.tx.cells = CT at *
  generalize a.cells = C at *
  generalize a.now = now at *
  generalize a.hand = hand at *
  generalize a.turn = tf at *
  generalize a.tx.lane = lf at *
  generalize Tx.none.cells = ZT at *
  clear b1 b2 r2 n5 e1 e2 h
  rcases hc with rfl | rfl
  · cases lf
    · skip
      go_enter Tryd.func41, Tryd.ntmps41
      go_wp2_with (first
      | ((with_reducible show wpList _ _ _ (⟨_, .load 74 (.tmp 9), _, _, _, _⟩ :: _) _ _); refine wpList_load_tx rfl 74 (.tmp 9) rfl w.heap.size 7 rfl CT _ (H7.out) Tryd.underlying74 rfl (by rw [tx_info, HT72.out]) ?_)
      | (with_reducible show wpList _ _ _ (⟨_, .store 74 (.tmp 5) _, _, _, _, _⟩ :: _) _ _
         refine wpList_store_at rfl 74 (.tmp 5) (.tmp 10) rfl (w.heap.size + 1 + 1) 0 CT ZT _ rfl rfl (HN5.out) (by have := HZ72.out; have := HT72.out; omega) (by rw [tx_info, HT72.out]) HT1.out ?_
         intro w3 hr hg
         rw [splice_all (HT72.out.trans HZ72.out.symm)] at hr
         have hb3 := ((HB2.out.alloc (.cells ZT.toArray 74)).put hg (by omega) (fun x hx => by simp at hx; rcases hx with rfl | rfl <;> (show (_ : Nat) ≠ _; omega))).cons hr
         have HB3 := Lib.hid hb3
         have c4 := (HCa.out _ _ hb3.tl.tl.hd).1
         have c5 := (HCa.out _ _ hb3.tl.tl.hd).2.1
         have c6 := (HCa.out _ _ hb3.tl.tl.hd).2.2
         have t5 := (HCt.out _ _ hb3.hd).1
         have i6 := hb3.hd.cell 6 (by have := HT72.out; omega)
         have i7 := hb3.hd.cell 7 (by have := HT72.out; omega)
         have f6 := hb3.hd.free 6
         have f7 := hb3.hd.free 7
         clear hb3
         clear hr hg)
      | ((with_reducible show wpList _ _ _ (⟨_, .load 74 (.tmp 5), _, _, _, _⟩ :: _) _ _); refine wpList_load_tx rfl 74 (.tmp 5) rfl (w.heap.size + 1 + 1) 0 rfl CT _ (row_range HB3.out.hd) Tryd.underlying74 rfl (by rw [tx_info, HT72.out]) ?_)
      | (with_reducible show wpList _ _ _ (⟨_, .store 74 (.tmp 4) _, _, _, _, _⟩ :: _) _ _
         refine wpList_store_at rfl 74 (.tmp 4) (.tmp 51) rfl (w.heap.size + 1) 0 CT ZT _ rfl rfl (HB3.out.tl.hd) (by have := HZ72.out; have := HT72.out; omega) (by rw [tx_info, HT72.out]) HT1.out ?_
         intro w9 hr hg
         rw [splice_all (HT72.out.trans HZ72.out.symm)] at hr
         have HR9 := Lib.hid hr
         have HB9 := Lib.hid (below_own HB3.out.1 hg (fun k hk => by cases hk; omega))
         clear hr hg))
      refine bodyPost_ret (results_cell_row rfl _ _ (w.heap.size + 1) 74 CT.toArray (0, 0) _ rfl HR9.out Tryd.underlying74 rfl (by rw [tx_info]; simp [HT72.out])) rfl ⟨rfl, HB9.out⟩
    · skip
      go_enter Tryd.func41, Tryd.ntmps41
      go_wp2_with (first
      | ((with_reducible show wpList _ _ _ (⟨_, .load 74 (.tmp 9), _, _, _, _⟩ :: _) _ _); refine wpList_load_tx rfl 74 (.tmp 9) rfl w.heap.size 7 rfl CT _ (H7.out) Tryd.underlying74 rfl (by rw [tx_info, HT72.out]) ?_)
      | (with_reducible show wpList _ _ _ (⟨_, .store 74 (.tmp 5) _, _, _, _, _⟩ :: _) _ _
         refine wpList_store_at rfl 74 (.tmp 5) (.tmp 10) rfl (w.heap.size + 1 + 1) 0 CT ZT _ rfl rfl (HN5.out) (by have := HZ72.out; have := HT72.out; omega) (by rw [tx_info, HT72.out]) HT1.out ?_
         intro w3 hr hg
         rw [splice_all (HT72.out.trans HZ72.out.symm)] at hr
         have hb3 := ((HB2.out.alloc (.cells ZT.toArray 74)).put hg (by omega) (fun x hx => by simp at hx; rcases hx with rfl | rfl <;> (show (_ : Nat) ≠ _; omega))).cons hr
         have HB3 := Lib.hid hb3
         have c4 := (HCa.out _ _ hb3.tl.tl.hd).1
         have c5 := (HCa.out _ _ hb3.tl.tl.hd).2.1
         have c6 := (HCa.out _ _ hb3.tl.tl.hd).2.2
         have t5 := (HCt.out _ _ hb3.hd).1
         have i6 := hb3.hd.cell 6 (by have := HT72.out; omega)
         have i7 := hb3.hd.cell 7 (by have := HT72.out; omega)
         have f6 := hb3.hd.free 6
         have f7 := hb3.hd.free 7
         clear hb3
         clear hr hg)
      | ((with_reducible show wpList _ _ _ (⟨_, .load 74 (.tmp 5), _, _, _, _⟩ :: _) _ _); refine wpList_load_tx rfl 74 (.tmp 5) rfl (w.heap.size + 1 + 1) 0 rfl CT _ (row_range HB3.out.hd) Tryd.underlying74 rfl (by rw [tx_info, HT72.out]) ?_)
      | (with_reducible show wpList _ _ _ (⟨_, .store 74 (.tmp 4) _, _, _, _, _⟩ :: _) _ _
         refine wpList_store_at rfl 74 (.tmp 4) (.tmp 51) rfl (w.heap.size + 1) 0 CT ZT _ rfl rfl (HB3.out.tl.hd) (by have := HZ72.out; have := HT72.out; omega) (by rw [tx_info, HT72.out]) HT1.out ?_
         intro w9 hr hg
         rw [splice_all (HT72.out.trans HZ72.out.symm)] at hr
         have HR9 := Lib.hid hr
         have HB9 := Lib.hid (below_own HB3.out.1 hg (fun k hk => by cases hk; omega))
         clear hr hg))
      refine bodyPost_ret (results_cell_row rfl _ _ (w.heap.size + 1) 74 CT.toArray (0, 0) _ rfl HR9.out Tryd.underlying74 rfl (by rw [tx_info]; simp [HT72.out])) rfl ⟨rfl, HB9.out⟩
  · cases tf
    · skip
      go_enter Tryd.func41, Tryd.ntmps41
      go_wp2_with (first
      | ((with_reducible show wpList _ _ _ (⟨_, .load 74 (.tmp 9), _, _, _, _⟩ :: _) _ _); refine wpList_load_tx rfl 74 (.tmp 9) rfl w.heap.size 7 rfl CT _ (H7.out) Tryd.underlying74 rfl (by rw [tx_info, HT72.out]) ?_)
      | (with_reducible show wpList _ _ _ (⟨_, .store 74 (.tmp 5) _, _, _, _, _⟩ :: _) _ _
         refine wpList_store_at rfl 74 (.tmp 5) (.tmp 10) rfl (w.heap.size + 1 + 1) 0 CT ZT _ rfl rfl (HN5.out) (by have := HZ72.out; have := HT72.out; omega) (by rw [tx_info, HT72.out]) HT1.out ?_
         intro w3 hr hg
         rw [splice_all (HT72.out.trans HZ72.out.symm)] at hr
         have hb3 := ((HB2.out.alloc (.cells ZT.toArray 74)).put hg (by omega) (fun x hx => by simp at hx; rcases hx with rfl | rfl <;> (show (_ : Nat) ≠ _; omega))).cons hr
         have HB3 := Lib.hid hb3
         have c4 := (HCa.out _ _ hb3.tl.tl.hd).1
         have c5 := (HCa.out _ _ hb3.tl.tl.hd).2.1
         have c6 := (HCa.out _ _ hb3.tl.tl.hd).2.2
         have t5 := (HCt.out _ _ hb3.hd).1
         have i6 := hb3.hd.cell 6 (by have := HT72.out; omega)
         have i7 := hb3.hd.cell 7 (by have := HT72.out; omega)
         have f6 := hb3.hd.free 6
         have f7 := hb3.hd.free 7
         clear hb3
         clear hr hg)
      | ((with_reducible show wpList _ _ _ (⟨_, .load 74 (.tmp 5), _, _, _, _⟩ :: _) _ _); refine wpList_load_tx rfl 74 (.tmp 5) rfl (w.heap.size + 1 + 1) 0 rfl CT _ (row_range HB3.out.hd) Tryd.underlying74 rfl (by rw [tx_info, HT72.out]) ?_)
      | (with_reducible show wpList _ _ _ (⟨_, .store 74 (.tmp 4) _, _, _, _, _⟩ :: _) _ _
         refine wpList_store_at rfl 74 (.tmp 4) (.tmp 51) rfl (w.heap.size + 1) 0 CT ZT _ rfl rfl (HB3.out.tl.hd) (by have := HZ72.out; have := HT72.out; omega) (by rw [tx_info, HT72.out]) HT1.out ?_
         intro w9 hr hg
         rw [splice_all (HT72.out.trans HZ72.out.symm)] at hr
         have HR9 := Lib.hid hr
         have HB9 := Lib.hid (below_own HB3.out.1 hg (fun k hk => by cases hk; omega))
         clear hr hg))
      refine bodyPost_ret (results_cell_row rfl _ _ (w.heap.size + 1) 74 CT.toArray (0, 0) _ rfl HR9.out Tryd.underlying74 rfl (by rw [tx_info]; simp [HT72.out])) rfl ⟨rfl, HB9.out⟩
    · skip
      go_enter Tryd.func41, Tryd.ntmps41
      go_wp2_with (first
      | ((with_reducible show wpList _ _ _ (⟨_, .load 74 (.tmp 9), _, _, _, _⟩ :: _) _ _); refine wpList_load_tx rfl 74 (.tmp 9) rfl w.heap.size 7 rfl CT _ (H7.out) Tryd.underlying74 rfl (by rw [tx_info, HT72.out]) ?_)
      | (with_reducible show wpList _ _ _ (⟨_, .store 74 (.tmp 5) _, _, _, _, _⟩ :: _) _ _
         refine wpList_store_at rfl 74 (.tmp 5) (.tmp 10) rfl (w.heap.size + 1 + 1) 0 CT ZT _ rfl rfl (HN5.out) (by have := HZ72.out; have := HT72.out; omega) (by rw [tx_info, HT72.out]) HT1.out ?_
         intro w3 hr hg
         rw [splice_all (HT72.out.trans HZ72.out.symm)] at hr
         have hb3 := ((HB2.out.alloc (.cells ZT.toArray 74)).put hg (by omega) (fun x hx => by simp at hx; rcases hx with rfl | rfl <;> (show (_ : Nat) ≠ _; omega))).cons hr
         have HB3 := Lib.hid hb3
         have c4 := (HCa.out _ _ hb3.tl.tl.hd).1
         have c5 := (HCa.out _ _ hb3.tl.tl.hd).2.1
         have c6 := (HCa.out _ _ hb3.tl.tl.hd).2.2
         have t5 := (HCt.out _ _ hb3.hd).1
         have i6 := hb3.hd.cell 6 (by have := HT72.out; omega)
         have i7 := hb3.hd.cell 7 (by have := HT72.out; omega)
         have f6 := hb3.hd.free 6
         have f7 := hb3.hd.free 7
         clear hb3
         clear hr hg)
      | ((with_reducible show wpList _ _ _ (⟨_, .load 74 (.tmp 5), _, _, _, _⟩ :: _) _ _); refine wpList_load_tx rfl 74 (.tmp 5) rfl (w.heap.size + 1 + 1) 0 rfl CT _ (row_range HB3.out.hd) Tryd.underlying74 rfl (by rw [tx_info, HT72.out]) ?_)
      | (with_reducible show wpList _ _ _ (⟨_, .store 74 (.tmp 4) _, _, _, _, _⟩ :: _) _ _
         refine wpList_store_at rfl 74 (.tmp 4) (.tmp 51) rfl (w.heap.size + 1) 0 CT ZT _ rfl rfl (HB3.out.tl.hd) (by have := HZ72.out; have := HT72.out; omega) (by rw [tx_info, HT72.out]) HT1.out ?_
         intro w9 hr hg
         rw [splice_all (HT72.out.trans HZ72.out.symm)] at hr
         have HR9 := Lib.hid hr
         have HB9 := Lib.hid (below_own HB3.out.1 hg (fun k hk => by cases hk; omega))
         clear hr hg))
      refine bodyPost_ret (results_cell_row rfl _ _ (w.heap.size + 1) 74 CT.toArray (0, 0) _ rfl HR9.out Tryd.underlying74 rfl (by rw [tx_info]; simp [HT72.out])) rfl ⟨rfl, HB9.out⟩
set_option maxHeartbeats 1600000 in
theorem tx16_bok {w : World} {base RB n : Nat} {v : Value} {len : Int} {L : List Ln.H} (a : Act16) (ha : a.Fits) (h : RLaneAt w base RB v len L n) (hn9 : n ≤ 900) (hc : a.turn = false ∨ a.tx.lane = false) (hRS : RefSum) (hh : 0 ≤ a.hand) (hhe : ((a.tx).handE a.hand).2 = 0) :
    Calls Tryd.prog 41 #[.pointer (some ⟨RB, 0, none⟩), .agg a.cells.toArray] w fun e w' => e = .returned (.agg (((a.tx).handE a.hand).1).cells.toArray) ∧ Below w.heap.size w w' := by
  have e1 : (w.alloc (.cells a.cells.toArray 76)).heap.size = w.heap.size + 1 := by simp
  have e2 : ((w.alloc (.cells a.cells.toArray 76)).alloc (.cells Tx.none.cells.toArray 74)).heap.size = w.heap.size + 1 + 1 := by simp
  have b1 : Blocks w (w.alloc (.cells a.cells.toArray 76)) [(w.heap.size, 76, a.cells)] := (Blocks.nil ((Below.refl w.heap.size w).alloc (Nat.le_refl _) _)).cons (Row.new w _ _)
  have r2 := Row.new (w.alloc (.cells a.cells.toArray 76)) 74 Tx.none.cells
  rw [e1] at r2
  have b2 := (b1.alloc (.cells Tx.none.cells.toArray 74)).cons r2
  have n5 := Row.new ((w.alloc (.cells a.cells.toArray 76)).alloc (.cells Tx.none.cells.toArray 74)) 74 Tx.none.cells
  rw [e2] at n5
  have HB2 := Lib.hid b2
  have HN5 := Lib.hid n5
  have HT72 := Lib.hid (Tx.cells_length ha.tx)
  have HT1 := Lib.hid (Tx.cells_one ha.tx)
  have HZ72 := Lib.hid (Tx.cells_length Tx.none_ok)
  have hzv : ∀ W : World, (zeroValue 74).run Tryd.prog W = .ok (.agg Tx.none.cells.toArray) W := tx_zv
  have HCa : Hid (∀ (W : World) (g : Nat), Row W g 76 a.cells → W.cell? ⟨g, 4, none⟩ = some (.int .i64 a.now) ∧ W.cell? ⟨g, 5, none⟩ = some (.int .i64 a.hand) ∧ W.cell? ⟨g, 6, none⟩ = some (.bool a.turn)) := Lib.hid (fun W g h => ⟨by have := row_range h 4 (.int .i64 a.now) rfl; simpa using this, by have := row_range h 5 (.int .i64 a.hand) rfl; simpa using this, by have := row_range h 6 (.bool a.turn) rfl; simpa using this⟩)
  have HCt : Hid (∀ (W : World) (g : Nat), Row W g 74 a.tx.cells → W.cell? ⟨g, 5, none⟩ = some (.bool a.tx.lane) ∧ W.cell? ⟨g, 6, none⟩ = some (.int .i64 a.tx.round)) := Lib.hid (fun W g h => ⟨(tx_box ha.tx h).2.2.2.2.2.1, (tx_box ha.tx h).2.2.2.2.2.2.1⟩)
  have H7 : Hid (((w.alloc (.cells a.cells.toArray 76)).alloc (.cells Tx.none.cells.toArray 74)).rangeAt w.heap.size 7 a.tx.cells) := Lib.hid (fun j v hv => by
    have hr := row_range b2.tl.hd (7 + j) v (by
      have e : a.cells = [.int .i64 a.kind, .int .i64 a.round, .int .i64 a.a, .int .i64 a.b, .int .i64 a.now, .int .i64 a.hand, .bool a.turn] ++ (a.tx.cells ++ []) := rfl
      rw [e, List.getElem?_append_right (by simp), List.append_nil]
      simpa using hv)
    rw [Nat.zero_add] at hr
    exact hr)
  have HHd : Hid (∀ W, Calls Tryd.prog 62 #[.agg (a.tx).cells.toArray, .int .i64 a.hand] W fun e w' => e = .returned (.tuple #[.agg ((a.tx).handE a.hand).1.cells.toArray, .int .i64 ((a.tx).handE a.hand).2]) ∧ Below W.heap.size W w') := Lib.hid (fun W => rhand4_any hRS (a.tx) (ha.tx) a.hand W)
  have hdok : ((a.tx).handE a.hand).1.Ok := handE_ok (ha.tx) a.hand
  have HD72 := Lib.hid (Tx.cells_length hdok)
  have HD1 := Lib.hid (Tx.cells_one hdok)
  obtain ⟨R, hR⟩ : ∃ R, (a.tx).handE a.hand = R := ⟨_, rfl⟩
  rw [hR] at hhe HHd HD72 HD1 ⊢
  obtain ⟨d, de⟩ := R
  simp only at hhe HHd HD72 HD1 ⊢
  have hdn : decide (0 ≤ a.hand) = true := by simp; omega
  subst hhe
  have hw1 : w.heap.size ≤ w.heap.size + 1 := by omega
  generalize a.tx.cells = CT at *
  generalize d.cells = D at *
  generalize a.cells = C at *
  generalize a.now = now at *
  generalize a.hand = hand at *
  generalize a.turn = tf at *
  generalize a.tx.lane = lf at *
  generalize Tx.none.cells = ZT at *
  clear b1 b2 r2 n5 e1 e2 h hR hdok
  rcases hc with rfl | rfl
  · cases lf
    · skip
      go_enter Tryd.func41, Tryd.ntmps41
      go_wp2_with (first
      | ((with_reducible show wpList _ _ _ (⟨_, .load 74 (.tmp 9), _, _, _, _⟩ :: _) _ _); refine wpList_load_tx rfl 74 (.tmp 9) rfl w.heap.size 7 rfl CT _ (H7.out) Tryd.underlying74 rfl (by rw [tx_info, HT72.out]) ?_)
      | (with_reducible show wpList _ _ _ (⟨_, .store 74 (.tmp 5) _, _, _, _, _⟩ :: _) _ _
         refine wpList_store_at rfl 74 (.tmp 5) (.tmp 10) rfl (w.heap.size + 1 + 1) 0 CT ZT _ rfl rfl (HN5.out) (by have := HZ72.out; have := HT72.out; omega) (by rw [tx_info, HT72.out]) HT1.out ?_
         intro w3 hr hg
         rw [splice_all (HT72.out.trans HZ72.out.symm)] at hr
         have hb3 := ((HB2.out.alloc (.cells ZT.toArray 74)).put hg (by omega) (fun x hx => by simp at hx; rcases hx with rfl | rfl <;> (show (_ : Nat) ≠ _; omega))).cons hr
         have HB3 := Lib.hid hb3
         have c4 := (HCa.out _ _ hb3.tl.tl.hd).1
         have c5 := (HCa.out _ _ hb3.tl.tl.hd).2.1
         have c6 := (HCa.out _ _ hb3.tl.tl.hd).2.2
         have t5 := (HCt.out _ _ hb3.hd).1
         have i6 := hb3.hd.cell 6 (by have := HT72.out; omega)
         have i7 := hb3.hd.cell 7 (by have := HT72.out; omega)
         have f6 := hb3.hd.free 6
         have f7 := hb3.hd.free 7
         clear hb3
         clear hr hg)
      | ((with_reducible show wpList _ _ _ (⟨_, .load 74 (.tmp 5), _, _, _, _⟩ :: _) _ _); refine wpList_load_tx rfl 74 (.tmp 5) rfl (w.heap.size + 1 + 1) 0 rfl CT _ (row_range HB3.out.hd) Tryd.underlying74 rfl (by rw [tx_info, HT72.out]) ?_))
      refine (HHd.out _).mono ?_
      rintro _ w6 ⟨rfl, hb6⟩
      have HB6 := Lib.hid (HB3.out.step hb6)
      have HN7 := Lib.hid (Row.new w6 74 ZT)
      clear hb6
      go_wp2_with (first
      | (with_reducible show wpList _ _ _ (⟨_, .store 74 (.tmp 7) _, _, _, _, _⟩ :: _) _ _
         refine wpList_store_at rfl 74 (.tmp 7) (.tmp 46) rfl w6.heap.size 0 D ZT _ rfl rfl (HN7.out) (by have := HZ72.out; have := HD72.out; omega) (by rw [tx_info, HD72.out]) HD1.out ?_
         intro w7 hr hg
         rw [splice_all (HD72.out.trans HZ72.out.symm)] at hr
         have hb7 := ((HB6.out.alloc (.cells ZT.toArray 74)).put hg HB6.out.size HB6.out.fresh).cons hr
         have HB7 := Lib.hid hb7
         have hne7 : w6.heap.size ≠ (w.heap.size + 1 + 1) := fun e => HB6.out.fresh _ List.mem_cons_self e.symm
         have Hne7 := Lib.hid hne7
         clear hb7 hne7
         clear hr hg)
      | ((with_reducible show wpList _ _ _ (⟨_, .load 74 (.tmp 7), _, _, _, _⟩ :: _) _ _); refine wpList_load_tx rfl 74 (.tmp 7) rfl w6.heap.size 0 rfl D _ (row_range HB7.out.hd) Tryd.underlying74 rfl (by rw [tx_info, HD72.out]) ?_)
      | (with_reducible show wpList _ _ _ (⟨_, .store 74 (.tmp 5) _, _, _, _, _⟩ :: _) _ _
         refine wpList_store_at rfl 74 (.tmp 5) (.tmp 50) rfl (w.heap.size + 1 + 1) 0 D CT _ rfl rfl (HB7.out.tl.hd) (by have := HT72.out; have := HD72.out; omega) (by rw [tx_info, HD72.out]) HD1.out ?_
         intro w8 hr hg
         rw [splice_all (HD72.out.trans HT72.out.symm)] at hr
         have HR8 := Lib.hid hr
         have HZ8 := Lib.hid (HB7.out.tl.tl.hd.kept hg (by simp))
         have HB8 := Lib.hid (below_own HB7.out.1 hg (fun k hk => by cases hk; omega))
         clear hr hg)
      | ((with_reducible show wpList _ _ _ (⟨_, .load 74 (.tmp 5), _, _, _, _⟩ :: _) _ _); refine wpList_load_tx rfl 74 (.tmp 5) rfl (w.heap.size + 1 + 1) 0 rfl D _ (row_range HR8.out) Tryd.underlying74 rfl (by rw [tx_info, HD72.out]) ?_)
      | (with_reducible show wpList _ _ _ (⟨_, .store 74 (.tmp 4) _, _, _, _, _⟩ :: _) _ _
         refine wpList_store_at rfl 74 (.tmp 4) (.tmp 51) rfl (w.heap.size + 1) 0 D ZT _ rfl rfl (HZ8.out) (by have := HZ72.out; have := HD72.out; omega) (by rw [tx_info, HD72.out]) HD1.out ?_
         intro w9 hr hg
         rw [splice_all (HD72.out.trans HZ72.out.symm)] at hr
         have HR9 := Lib.hid hr
         have HB9 := Lib.hid (below_own HB8.out hg (fun k hk => by cases hk; omega))
         clear hr hg))
      refine bodyPost_ret (results_cell_row rfl _ _ (w.heap.size + 1) 74 D.toArray (0, 0) _ rfl HR9.out Tryd.underlying74 rfl (by rw [tx_info]; simp [HD72.out])) rfl ⟨rfl, HB9.out⟩
    · skip
      go_enter Tryd.func41, Tryd.ntmps41
      go_wp2_with (first
      | ((with_reducible show wpList _ _ _ (⟨_, .load 74 (.tmp 9), _, _, _, _⟩ :: _) _ _); refine wpList_load_tx rfl 74 (.tmp 9) rfl w.heap.size 7 rfl CT _ (H7.out) Tryd.underlying74 rfl (by rw [tx_info, HT72.out]) ?_)
      | (with_reducible show wpList _ _ _ (⟨_, .store 74 (.tmp 5) _, _, _, _, _⟩ :: _) _ _
         refine wpList_store_at rfl 74 (.tmp 5) (.tmp 10) rfl (w.heap.size + 1 + 1) 0 CT ZT _ rfl rfl (HN5.out) (by have := HZ72.out; have := HT72.out; omega) (by rw [tx_info, HT72.out]) HT1.out ?_
         intro w3 hr hg
         rw [splice_all (HT72.out.trans HZ72.out.symm)] at hr
         have hb3 := ((HB2.out.alloc (.cells ZT.toArray 74)).put hg (by omega) (fun x hx => by simp at hx; rcases hx with rfl | rfl <;> (show (_ : Nat) ≠ _; omega))).cons hr
         have HB3 := Lib.hid hb3
         have c4 := (HCa.out _ _ hb3.tl.tl.hd).1
         have c5 := (HCa.out _ _ hb3.tl.tl.hd).2.1
         have c6 := (HCa.out _ _ hb3.tl.tl.hd).2.2
         have t5 := (HCt.out _ _ hb3.hd).1
         have i6 := hb3.hd.cell 6 (by have := HT72.out; omega)
         have i7 := hb3.hd.cell 7 (by have := HT72.out; omega)
         have f6 := hb3.hd.free 6
         have f7 := hb3.hd.free 7
         clear hb3
         clear hr hg)
      | ((with_reducible show wpList _ _ _ (⟨_, .load 74 (.tmp 5), _, _, _, _⟩ :: _) _ _); refine wpList_load_tx rfl 74 (.tmp 5) rfl (w.heap.size + 1 + 1) 0 rfl CT _ (row_range HB3.out.hd) Tryd.underlying74 rfl (by rw [tx_info, HT72.out]) ?_))
      refine (HHd.out _).mono ?_
      rintro _ w6 ⟨rfl, hb6⟩
      have HB6 := Lib.hid (HB3.out.step hb6)
      have HN7 := Lib.hid (Row.new w6 74 ZT)
      clear hb6
      go_wp2_with (first
      | (with_reducible show wpList _ _ _ (⟨_, .store 74 (.tmp 7) _, _, _, _, _⟩ :: _) _ _
         refine wpList_store_at rfl 74 (.tmp 7) (.tmp 46) rfl w6.heap.size 0 D ZT _ rfl rfl (HN7.out) (by have := HZ72.out; have := HD72.out; omega) (by rw [tx_info, HD72.out]) HD1.out ?_
         intro w7 hr hg
         rw [splice_all (HD72.out.trans HZ72.out.symm)] at hr
         have hb7 := ((HB6.out.alloc (.cells ZT.toArray 74)).put hg HB6.out.size HB6.out.fresh).cons hr
         have HB7 := Lib.hid hb7
         have hne7 : w6.heap.size ≠ (w.heap.size + 1 + 1) := fun e => HB6.out.fresh _ List.mem_cons_self e.symm
         have Hne7 := Lib.hid hne7
         clear hb7 hne7
         clear hr hg)
      | ((with_reducible show wpList _ _ _ (⟨_, .load 74 (.tmp 7), _, _, _, _⟩ :: _) _ _); refine wpList_load_tx rfl 74 (.tmp 7) rfl w6.heap.size 0 rfl D _ (row_range HB7.out.hd) Tryd.underlying74 rfl (by rw [tx_info, HD72.out]) ?_)
      | (with_reducible show wpList _ _ _ (⟨_, .store 74 (.tmp 5) _, _, _, _, _⟩ :: _) _ _
         refine wpList_store_at rfl 74 (.tmp 5) (.tmp 50) rfl (w.heap.size + 1 + 1) 0 D CT _ rfl rfl (HB7.out.tl.hd) (by have := HT72.out; have := HD72.out; omega) (by rw [tx_info, HD72.out]) HD1.out ?_
         intro w8 hr hg
         rw [splice_all (HD72.out.trans HT72.out.symm)] at hr
         have HR8 := Lib.hid hr
         have HZ8 := Lib.hid (HB7.out.tl.tl.hd.kept hg (by simp))
         have HB8 := Lib.hid (below_own HB7.out.1 hg (fun k hk => by cases hk; omega))
         clear hr hg)
      | ((with_reducible show wpList _ _ _ (⟨_, .load 74 (.tmp 5), _, _, _, _⟩ :: _) _ _); refine wpList_load_tx rfl 74 (.tmp 5) rfl (w.heap.size + 1 + 1) 0 rfl D _ (row_range HR8.out) Tryd.underlying74 rfl (by rw [tx_info, HD72.out]) ?_)
      | (with_reducible show wpList _ _ _ (⟨_, .store 74 (.tmp 4) _, _, _, _, _⟩ :: _) _ _
         refine wpList_store_at rfl 74 (.tmp 4) (.tmp 51) rfl (w.heap.size + 1) 0 D ZT _ rfl rfl (HZ8.out) (by have := HZ72.out; have := HD72.out; omega) (by rw [tx_info, HD72.out]) HD1.out ?_
         intro w9 hr hg
         rw [splice_all (HD72.out.trans HZ72.out.symm)] at hr
         have HR9 := Lib.hid hr
         have HB9 := Lib.hid (below_own HB8.out hg (fun k hk => by cases hk; omega))
         clear hr hg))
      refine bodyPost_ret (results_cell_row rfl _ _ (w.heap.size + 1) 74 D.toArray (0, 0) _ rfl HR9.out Tryd.underlying74 rfl (by rw [tx_info]; simp [HD72.out])) rfl ⟨rfl, HB9.out⟩
  · cases tf
    · skip
      go_enter Tryd.func41, Tryd.ntmps41
      go_wp2_with (first
      | ((with_reducible show wpList _ _ _ (⟨_, .load 74 (.tmp 9), _, _, _, _⟩ :: _) _ _); refine wpList_load_tx rfl 74 (.tmp 9) rfl w.heap.size 7 rfl CT _ (H7.out) Tryd.underlying74 rfl (by rw [tx_info, HT72.out]) ?_)
      | (with_reducible show wpList _ _ _ (⟨_, .store 74 (.tmp 5) _, _, _, _, _⟩ :: _) _ _
         refine wpList_store_at rfl 74 (.tmp 5) (.tmp 10) rfl (w.heap.size + 1 + 1) 0 CT ZT _ rfl rfl (HN5.out) (by have := HZ72.out; have := HT72.out; omega) (by rw [tx_info, HT72.out]) HT1.out ?_
         intro w3 hr hg
         rw [splice_all (HT72.out.trans HZ72.out.symm)] at hr
         have hb3 := ((HB2.out.alloc (.cells ZT.toArray 74)).put hg (by omega) (fun x hx => by simp at hx; rcases hx with rfl | rfl <;> (show (_ : Nat) ≠ _; omega))).cons hr
         have HB3 := Lib.hid hb3
         have c4 := (HCa.out _ _ hb3.tl.tl.hd).1
         have c5 := (HCa.out _ _ hb3.tl.tl.hd).2.1
         have c6 := (HCa.out _ _ hb3.tl.tl.hd).2.2
         have t5 := (HCt.out _ _ hb3.hd).1
         have i6 := hb3.hd.cell 6 (by have := HT72.out; omega)
         have i7 := hb3.hd.cell 7 (by have := HT72.out; omega)
         have f6 := hb3.hd.free 6
         have f7 := hb3.hd.free 7
         clear hb3
         clear hr hg)
      | ((with_reducible show wpList _ _ _ (⟨_, .load 74 (.tmp 5), _, _, _, _⟩ :: _) _ _); refine wpList_load_tx rfl 74 (.tmp 5) rfl (w.heap.size + 1 + 1) 0 rfl CT _ (row_range HB3.out.hd) Tryd.underlying74 rfl (by rw [tx_info, HT72.out]) ?_))
      refine (HHd.out _).mono ?_
      rintro _ w6 ⟨rfl, hb6⟩
      have HB6 := Lib.hid (HB3.out.step hb6)
      have HN7 := Lib.hid (Row.new w6 74 ZT)
      clear hb6
      go_wp2_with (first
      | (with_reducible show wpList _ _ _ (⟨_, .store 74 (.tmp 7) _, _, _, _, _⟩ :: _) _ _
         refine wpList_store_at rfl 74 (.tmp 7) (.tmp 46) rfl w6.heap.size 0 D ZT _ rfl rfl (HN7.out) (by have := HZ72.out; have := HD72.out; omega) (by rw [tx_info, HD72.out]) HD1.out ?_
         intro w7 hr hg
         rw [splice_all (HD72.out.trans HZ72.out.symm)] at hr
         have hb7 := ((HB6.out.alloc (.cells ZT.toArray 74)).put hg HB6.out.size HB6.out.fresh).cons hr
         have HB7 := Lib.hid hb7
         have hne7 : w6.heap.size ≠ (w.heap.size + 1 + 1) := fun e => HB6.out.fresh _ List.mem_cons_self e.symm
         have Hne7 := Lib.hid hne7
         clear hb7 hne7
         clear hr hg)
      | ((with_reducible show wpList _ _ _ (⟨_, .load 74 (.tmp 7), _, _, _, _⟩ :: _) _ _); refine wpList_load_tx rfl 74 (.tmp 7) rfl w6.heap.size 0 rfl D _ (row_range HB7.out.hd) Tryd.underlying74 rfl (by rw [tx_info, HD72.out]) ?_)
      | (with_reducible show wpList _ _ _ (⟨_, .store 74 (.tmp 5) _, _, _, _, _⟩ :: _) _ _
         refine wpList_store_at rfl 74 (.tmp 5) (.tmp 50) rfl (w.heap.size + 1 + 1) 0 D CT _ rfl rfl (HB7.out.tl.hd) (by have := HT72.out; have := HD72.out; omega) (by rw [tx_info, HD72.out]) HD1.out ?_
         intro w8 hr hg
         rw [splice_all (HD72.out.trans HT72.out.symm)] at hr
         have HR8 := Lib.hid hr
         have HZ8 := Lib.hid (HB7.out.tl.tl.hd.kept hg (by simp))
         have HB8 := Lib.hid (below_own HB7.out.1 hg (fun k hk => by cases hk; omega))
         clear hr hg)
      | ((with_reducible show wpList _ _ _ (⟨_, .load 74 (.tmp 5), _, _, _, _⟩ :: _) _ _); refine wpList_load_tx rfl 74 (.tmp 5) rfl (w.heap.size + 1 + 1) 0 rfl D _ (row_range HR8.out) Tryd.underlying74 rfl (by rw [tx_info, HD72.out]) ?_)
      | (with_reducible show wpList _ _ _ (⟨_, .store 74 (.tmp 4) _, _, _, _, _⟩ :: _) _ _
         refine wpList_store_at rfl 74 (.tmp 4) (.tmp 51) rfl (w.heap.size + 1) 0 D ZT _ rfl rfl (HZ8.out) (by have := HZ72.out; have := HD72.out; omega) (by rw [tx_info, HD72.out]) HD1.out ?_
         intro w9 hr hg
         rw [splice_all (HD72.out.trans HZ72.out.symm)] at hr
         have HR9 := Lib.hid hr
         have HB9 := Lib.hid (below_own HB8.out hg (fun k hk => by cases hk; omega))
         clear hr hg))
      refine bodyPost_ret (results_cell_row rfl _ _ (w.heap.size + 1) 74 D.toArray (0, 0) _ rfl HR9.out Tryd.underlying74 rfl (by rw [tx_info]; simp [HD72.out])) rfl ⟨rfl, HB9.out⟩
    · skip
      go_enter Tryd.func41, Tryd.ntmps41
      go_wp2_with (first
      | ((with_reducible show wpList _ _ _ (⟨_, .load 74 (.tmp 9), _, _, _, _⟩ :: _) _ _); refine wpList_load_tx rfl 74 (.tmp 9) rfl w.heap.size 7 rfl CT _ (H7.out) Tryd.underlying74 rfl (by rw [tx_info, HT72.out]) ?_)
      | (with_reducible show wpList _ _ _ (⟨_, .store 74 (.tmp 5) _, _, _, _, _⟩ :: _) _ _
         refine wpList_store_at rfl 74 (.tmp 5) (.tmp 10) rfl (w.heap.size + 1 + 1) 0 CT ZT _ rfl rfl (HN5.out) (by have := HZ72.out; have := HT72.out; omega) (by rw [tx_info, HT72.out]) HT1.out ?_
         intro w3 hr hg
         rw [splice_all (HT72.out.trans HZ72.out.symm)] at hr
         have hb3 := ((HB2.out.alloc (.cells ZT.toArray 74)).put hg (by omega) (fun x hx => by simp at hx; rcases hx with rfl | rfl <;> (show (_ : Nat) ≠ _; omega))).cons hr
         have HB3 := Lib.hid hb3
         have c4 := (HCa.out _ _ hb3.tl.tl.hd).1
         have c5 := (HCa.out _ _ hb3.tl.tl.hd).2.1
         have c6 := (HCa.out _ _ hb3.tl.tl.hd).2.2
         have t5 := (HCt.out _ _ hb3.hd).1
         have i6 := hb3.hd.cell 6 (by have := HT72.out; omega)
         have i7 := hb3.hd.cell 7 (by have := HT72.out; omega)
         have f6 := hb3.hd.free 6
         have f7 := hb3.hd.free 7
         clear hb3
         clear hr hg)
      | ((with_reducible show wpList _ _ _ (⟨_, .load 74 (.tmp 5), _, _, _, _⟩ :: _) _ _); refine wpList_load_tx rfl 74 (.tmp 5) rfl (w.heap.size + 1 + 1) 0 rfl CT _ (row_range HB3.out.hd) Tryd.underlying74 rfl (by rw [tx_info, HT72.out]) ?_))
      refine (HHd.out _).mono ?_
      rintro _ w6 ⟨rfl, hb6⟩
      have HB6 := Lib.hid (HB3.out.step hb6)
      have HN7 := Lib.hid (Row.new w6 74 ZT)
      clear hb6
      go_wp2_with (first
      | (with_reducible show wpList _ _ _ (⟨_, .store 74 (.tmp 7) _, _, _, _, _⟩ :: _) _ _
         refine wpList_store_at rfl 74 (.tmp 7) (.tmp 46) rfl w6.heap.size 0 D ZT _ rfl rfl (HN7.out) (by have := HZ72.out; have := HD72.out; omega) (by rw [tx_info, HD72.out]) HD1.out ?_
         intro w7 hr hg
         rw [splice_all (HD72.out.trans HZ72.out.symm)] at hr
         have hb7 := ((HB6.out.alloc (.cells ZT.toArray 74)).put hg HB6.out.size HB6.out.fresh).cons hr
         have HB7 := Lib.hid hb7
         have hne7 : w6.heap.size ≠ (w.heap.size + 1 + 1) := fun e => HB6.out.fresh _ List.mem_cons_self e.symm
         have Hne7 := Lib.hid hne7
         clear hb7 hne7
         clear hr hg)
      | ((with_reducible show wpList _ _ _ (⟨_, .load 74 (.tmp 7), _, _, _, _⟩ :: _) _ _); refine wpList_load_tx rfl 74 (.tmp 7) rfl w6.heap.size 0 rfl D _ (row_range HB7.out.hd) Tryd.underlying74 rfl (by rw [tx_info, HD72.out]) ?_)
      | (with_reducible show wpList _ _ _ (⟨_, .store 74 (.tmp 5) _, _, _, _, _⟩ :: _) _ _
         refine wpList_store_at rfl 74 (.tmp 5) (.tmp 50) rfl (w.heap.size + 1 + 1) 0 D CT _ rfl rfl (HB7.out.tl.hd) (by have := HT72.out; have := HD72.out; omega) (by rw [tx_info, HD72.out]) HD1.out ?_
         intro w8 hr hg
         rw [splice_all (HD72.out.trans HT72.out.symm)] at hr
         have HR8 := Lib.hid hr
         have HZ8 := Lib.hid (HB7.out.tl.tl.hd.kept hg (by simp))
         have HB8 := Lib.hid (below_own HB7.out.1 hg (fun k hk => by cases hk; omega))
         clear hr hg)
      | ((with_reducible show wpList _ _ _ (⟨_, .load 74 (.tmp 5), _, _, _, _⟩ :: _) _ _); refine wpList_load_tx rfl 74 (.tmp 5) rfl (w.heap.size + 1 + 1) 0 rfl D _ (row_range HR8.out) Tryd.underlying74 rfl (by rw [tx_info, HD72.out]) ?_)
      | (with_reducible show wpList _ _ _ (⟨_, .store 74 (.tmp 4) _, _, _, _, _⟩ :: _) _ _
         refine wpList_store_at rfl 74 (.tmp 4) (.tmp 51) rfl (w.heap.size + 1) 0 D ZT _ rfl rfl (HZ8.out) (by have := HZ72.out; have := HD72.out; omega) (by rw [tx_info, HD72.out]) HD1.out ?_
         intro w9 hr hg
         rw [splice_all (HD72.out.trans HZ72.out.symm)] at hr
         have HR9 := Lib.hid hr
         have HB9 := Lib.hid (below_own HB8.out hg (fun k hk => by cases hk; omega))
         clear hr hg))
      refine bodyPost_ret (results_cell_row rfl _ _ (w.heap.size + 1) 74 D.toArray (0, 0) _ rfl HR9.out Tryd.underlying74 rfl (by rw [tx_info]; simp [HD72.out])) rfl ⟨rfl, HB9.out⟩
set_option maxHeartbeats 1600000 in
theorem tx16_bbad {w : World} {base RB n : Nat} {v : Value} {len : Int} {L : List Ln.H} (a : Act16) (ha : a.Fits) (h : RLaneAt w base RB v len L n) (hn9 : n ≤ 900) (hc : a.turn = false ∨ a.tx.lane = false) (hRS : RefSum) (hh : 0 ≤ a.hand) (hhe : ((a.tx).handE a.hand).2 ≠ 0) :
    Calls Tryd.prog 41 #[.pointer (some ⟨RB, 0, none⟩), .agg a.cells.toArray] w fun e w' => e = .returned (.agg (a.tx).cells.toArray) ∧ Below w.heap.size w w' := by
  have e1 : (w.alloc (.cells a.cells.toArray 76)).heap.size = w.heap.size + 1 := by simp
  have e2 : ((w.alloc (.cells a.cells.toArray 76)).alloc (.cells Tx.none.cells.toArray 74)).heap.size = w.heap.size + 1 + 1 := by simp
  have b1 : Blocks w (w.alloc (.cells a.cells.toArray 76)) [(w.heap.size, 76, a.cells)] := (Blocks.nil ((Below.refl w.heap.size w).alloc (Nat.le_refl _) _)).cons (Row.new w _ _)
  have r2 := Row.new (w.alloc (.cells a.cells.toArray 76)) 74 Tx.none.cells
  rw [e1] at r2
  have b2 := (b1.alloc (.cells Tx.none.cells.toArray 74)).cons r2
  have n5 := Row.new ((w.alloc (.cells a.cells.toArray 76)).alloc (.cells Tx.none.cells.toArray 74)) 74 Tx.none.cells
  rw [e2] at n5
  have HB2 := Lib.hid b2
  have HN5 := Lib.hid n5
  have HT72 := Lib.hid (Tx.cells_length ha.tx)
  have HT1 := Lib.hid (Tx.cells_one ha.tx)
  have HZ72 := Lib.hid (Tx.cells_length Tx.none_ok)
  have hzv : ∀ W : World, (zeroValue 74).run Tryd.prog W = .ok (.agg Tx.none.cells.toArray) W := tx_zv
  have HCa : Hid (∀ (W : World) (g : Nat), Row W g 76 a.cells → W.cell? ⟨g, 4, none⟩ = some (.int .i64 a.now) ∧ W.cell? ⟨g, 5, none⟩ = some (.int .i64 a.hand) ∧ W.cell? ⟨g, 6, none⟩ = some (.bool a.turn)) := Lib.hid (fun W g h => ⟨by have := row_range h 4 (.int .i64 a.now) rfl; simpa using this, by have := row_range h 5 (.int .i64 a.hand) rfl; simpa using this, by have := row_range h 6 (.bool a.turn) rfl; simpa using this⟩)
  have HCt : Hid (∀ (W : World) (g : Nat), Row W g 74 a.tx.cells → W.cell? ⟨g, 5, none⟩ = some (.bool a.tx.lane) ∧ W.cell? ⟨g, 6, none⟩ = some (.int .i64 a.tx.round)) := Lib.hid (fun W g h => ⟨(tx_box ha.tx h).2.2.2.2.2.1, (tx_box ha.tx h).2.2.2.2.2.2.1⟩)
  have H7 : Hid (((w.alloc (.cells a.cells.toArray 76)).alloc (.cells Tx.none.cells.toArray 74)).rangeAt w.heap.size 7 a.tx.cells) := Lib.hid (fun j v hv => by
    have hr := row_range b2.tl.hd (7 + j) v (by
      have e : a.cells = [.int .i64 a.kind, .int .i64 a.round, .int .i64 a.a, .int .i64 a.b, .int .i64 a.now, .int .i64 a.hand, .bool a.turn] ++ (a.tx.cells ++ []) := rfl
      rw [e, List.getElem?_append_right (by simp), List.append_nil]
      simpa using hv)
    rw [Nat.zero_add] at hr
    exact hr)
  have HHd : Hid (∀ W, Calls Tryd.prog 62 #[.agg (a.tx).cells.toArray, .int .i64 a.hand] W fun e w' => e = .returned (.tuple #[.agg ((a.tx).handE a.hand).1.cells.toArray, .int .i64 ((a.tx).handE a.hand).2]) ∧ Below W.heap.size W w') := Lib.hid (fun W => rhand4_any hRS (a.tx) (ha.tx) a.hand W)
  have hdok : ((a.tx).handE a.hand).1.Ok := handE_ok (ha.tx) a.hand
  have HD72 := Lib.hid (Tx.cells_length hdok)
  have HD1 := Lib.hid (Tx.cells_one hdok)
  obtain ⟨R, hR⟩ : ∃ R, (a.tx).handE a.hand = R := ⟨_, rfl⟩
  rw [hR] at hhe HHd HD72 HD1
  obtain ⟨d, de⟩ := R
  simp only at hhe HHd HD72 HD1
  have hdn : decide (0 ≤ a.hand) = true := by simp; omega
  have heb : (de == 0) = false := by simpa using hhe
  have hw1 : w.heap.size ≤ w.heap.size + 1 := by omega
  generalize a.tx.cells = CT at *
  generalize d.cells = D at *
  generalize a.cells = C at *
  generalize a.now = now at *
  generalize a.hand = hand at *
  generalize a.turn = tf at *
  generalize a.tx.lane = lf at *
  generalize Tx.none.cells = ZT at *
  clear b1 b2 r2 n5 e1 e2 h hR hdok hhe
  rcases hc with rfl | rfl
  · cases lf
    · skip
      go_enter Tryd.func41, Tryd.ntmps41
      go_wp2_with (first
      | ((with_reducible show wpList _ _ _ (⟨_, .load 74 (.tmp 9), _, _, _, _⟩ :: _) _ _); refine wpList_load_tx rfl 74 (.tmp 9) rfl w.heap.size 7 rfl CT _ (H7.out) Tryd.underlying74 rfl (by rw [tx_info, HT72.out]) ?_)
      | (with_reducible show wpList _ _ _ (⟨_, .store 74 (.tmp 5) _, _, _, _, _⟩ :: _) _ _
         refine wpList_store_at rfl 74 (.tmp 5) (.tmp 10) rfl (w.heap.size + 1 + 1) 0 CT ZT _ rfl rfl (HN5.out) (by have := HZ72.out; have := HT72.out; omega) (by rw [tx_info, HT72.out]) HT1.out ?_
         intro w3 hr hg
         rw [splice_all (HT72.out.trans HZ72.out.symm)] at hr
         have hb3 := ((HB2.out.alloc (.cells ZT.toArray 74)).put hg (by omega) (fun x hx => by simp at hx; rcases hx with rfl | rfl <;> (show (_ : Nat) ≠ _; omega))).cons hr
         have HB3 := Lib.hid hb3
         have c4 := (HCa.out _ _ hb3.tl.tl.hd).1
         have c5 := (HCa.out _ _ hb3.tl.tl.hd).2.1
         have c6 := (HCa.out _ _ hb3.tl.tl.hd).2.2
         have t5 := (HCt.out _ _ hb3.hd).1
         have i6 := hb3.hd.cell 6 (by have := HT72.out; omega)
         have i7 := hb3.hd.cell 7 (by have := HT72.out; omega)
         have f6 := hb3.hd.free 6
         have f7 := hb3.hd.free 7
         clear hb3
         clear hr hg)
      | ((with_reducible show wpList _ _ _ (⟨_, .load 74 (.tmp 5), _, _, _, _⟩ :: _) _ _); refine wpList_load_tx rfl 74 (.tmp 5) rfl (w.heap.size + 1 + 1) 0 rfl CT _ (row_range HB3.out.hd) Tryd.underlying74 rfl (by rw [tx_info, HT72.out]) ?_))
      refine (HHd.out _).mono ?_
      rintro _ w6 ⟨rfl, hb6⟩
      have HB6 := Lib.hid (HB3.out.step hb6)
      have HN7 := Lib.hid (Row.new w6 74 ZT)
      clear hb6
      go_wp2_with (first
      | (with_reducible show wpList _ _ _ (⟨_, .store 74 (.tmp 7) _, _, _, _, _⟩ :: _) _ _
         refine wpList_store_at rfl 74 (.tmp 7) (.tmp 46) rfl w6.heap.size 0 D ZT _ rfl rfl (HN7.out) (by have := HZ72.out; have := HD72.out; omega) (by rw [tx_info, HD72.out]) HD1.out ?_
         intro w7 hr hg
         rw [splice_all (HD72.out.trans HZ72.out.symm)] at hr
         have hb7 := ((HB6.out.alloc (.cells ZT.toArray 74)).put hg HB6.out.size HB6.out.fresh).cons hr
         have HB7 := Lib.hid hb7
         have hne7 : w6.heap.size ≠ (w.heap.size + 1 + 1) := fun e => HB6.out.fresh _ List.mem_cons_self e.symm
         have Hne7 := Lib.hid hne7
         clear hb7 hne7
         clear hr hg)
      | ((with_reducible show wpList _ _ _ (⟨_, .load 74 (.tmp 5), _, _, _, _⟩ :: _) _ _); refine wpList_load_tx rfl 74 (.tmp 5) rfl (w.heap.size + 1 + 1) 0 rfl CT _ (row_range HB7.out.tl.hd) Tryd.underlying74 rfl (by rw [tx_info, HT72.out]) ?_)
      | (with_reducible show wpList _ _ _ (⟨_, .store 74 (.tmp 4) _, _, _, _, _⟩ :: _) _ _
         refine wpList_store_at rfl 74 (.tmp 4) (.tmp 51) rfl (w.heap.size + 1) 0 CT ZT _ rfl rfl (HB7.out.tl.tl.hd) (by have := HZ72.out; have := HT72.out; omega) (by rw [tx_info, HT72.out]) HT1.out ?_
         intro w9 hr hg
         rw [splice_all (HT72.out.trans HZ72.out.symm)] at hr
         have HR9 := Lib.hid hr
         have HB9 := Lib.hid (below_own HB7.out.1 hg (fun k hk => by cases hk; omega))
         clear hr hg))
      refine bodyPost_ret (results_cell_row rfl _ _ (w.heap.size + 1) 74 CT.toArray (0, 0) _ rfl HR9.out Tryd.underlying74 rfl (by rw [tx_info]; simp [HT72.out])) rfl ⟨rfl, HB9.out⟩
    · skip
      go_enter Tryd.func41, Tryd.ntmps41
      go_wp2_with (first
      | ((with_reducible show wpList _ _ _ (⟨_, .load 74 (.tmp 9), _, _, _, _⟩ :: _) _ _); refine wpList_load_tx rfl 74 (.tmp 9) rfl w.heap.size 7 rfl CT _ (H7.out) Tryd.underlying74 rfl (by rw [tx_info, HT72.out]) ?_)
      | (with_reducible show wpList _ _ _ (⟨_, .store 74 (.tmp 5) _, _, _, _, _⟩ :: _) _ _
         refine wpList_store_at rfl 74 (.tmp 5) (.tmp 10) rfl (w.heap.size + 1 + 1) 0 CT ZT _ rfl rfl (HN5.out) (by have := HZ72.out; have := HT72.out; omega) (by rw [tx_info, HT72.out]) HT1.out ?_
         intro w3 hr hg
         rw [splice_all (HT72.out.trans HZ72.out.symm)] at hr
         have hb3 := ((HB2.out.alloc (.cells ZT.toArray 74)).put hg (by omega) (fun x hx => by simp at hx; rcases hx with rfl | rfl <;> (show (_ : Nat) ≠ _; omega))).cons hr
         have HB3 := Lib.hid hb3
         have c4 := (HCa.out _ _ hb3.tl.tl.hd).1
         have c5 := (HCa.out _ _ hb3.tl.tl.hd).2.1
         have c6 := (HCa.out _ _ hb3.tl.tl.hd).2.2
         have t5 := (HCt.out _ _ hb3.hd).1
         have i6 := hb3.hd.cell 6 (by have := HT72.out; omega)
         have i7 := hb3.hd.cell 7 (by have := HT72.out; omega)
         have f6 := hb3.hd.free 6
         have f7 := hb3.hd.free 7
         clear hb3
         clear hr hg)
      | ((with_reducible show wpList _ _ _ (⟨_, .load 74 (.tmp 5), _, _, _, _⟩ :: _) _ _); refine wpList_load_tx rfl 74 (.tmp 5) rfl (w.heap.size + 1 + 1) 0 rfl CT _ (row_range HB3.out.hd) Tryd.underlying74 rfl (by rw [tx_info, HT72.out]) ?_))
      refine (HHd.out _).mono ?_
      rintro _ w6 ⟨rfl, hb6⟩
      have HB6 := Lib.hid (HB3.out.step hb6)
      have HN7 := Lib.hid (Row.new w6 74 ZT)
      clear hb6
      go_wp2_with (first
      | (with_reducible show wpList _ _ _ (⟨_, .store 74 (.tmp 7) _, _, _, _, _⟩ :: _) _ _
         refine wpList_store_at rfl 74 (.tmp 7) (.tmp 46) rfl w6.heap.size 0 D ZT _ rfl rfl (HN7.out) (by have := HZ72.out; have := HD72.out; omega) (by rw [tx_info, HD72.out]) HD1.out ?_
         intro w7 hr hg
         rw [splice_all (HD72.out.trans HZ72.out.symm)] at hr
         have hb7 := ((HB6.out.alloc (.cells ZT.toArray 74)).put hg HB6.out.size HB6.out.fresh).cons hr
         have HB7 := Lib.hid hb7
         have hne7 : w6.heap.size ≠ (w.heap.size + 1 + 1) := fun e => HB6.out.fresh _ List.mem_cons_self e.symm
         have Hne7 := Lib.hid hne7
         clear hb7 hne7
         clear hr hg)
      | ((with_reducible show wpList _ _ _ (⟨_, .load 74 (.tmp 5), _, _, _, _⟩ :: _) _ _); refine wpList_load_tx rfl 74 (.tmp 5) rfl (w.heap.size + 1 + 1) 0 rfl CT _ (row_range HB7.out.tl.hd) Tryd.underlying74 rfl (by rw [tx_info, HT72.out]) ?_)
      | (with_reducible show wpList _ _ _ (⟨_, .store 74 (.tmp 4) _, _, _, _, _⟩ :: _) _ _
         refine wpList_store_at rfl 74 (.tmp 4) (.tmp 51) rfl (w.heap.size + 1) 0 CT ZT _ rfl rfl (HB7.out.tl.tl.hd) (by have := HZ72.out; have := HT72.out; omega) (by rw [tx_info, HT72.out]) HT1.out ?_
         intro w9 hr hg
         rw [splice_all (HT72.out.trans HZ72.out.symm)] at hr
         have HR9 := Lib.hid hr
         have HB9 := Lib.hid (below_own HB7.out.1 hg (fun k hk => by cases hk; omega))
         clear hr hg))
      refine bodyPost_ret (results_cell_row rfl _ _ (w.heap.size + 1) 74 CT.toArray (0, 0) _ rfl HR9.out Tryd.underlying74 rfl (by rw [tx_info]; simp [HT72.out])) rfl ⟨rfl, HB9.out⟩
  · cases tf
    · skip
      go_enter Tryd.func41, Tryd.ntmps41
      go_wp2_with (first
      | ((with_reducible show wpList _ _ _ (⟨_, .load 74 (.tmp 9), _, _, _, _⟩ :: _) _ _); refine wpList_load_tx rfl 74 (.tmp 9) rfl w.heap.size 7 rfl CT _ (H7.out) Tryd.underlying74 rfl (by rw [tx_info, HT72.out]) ?_)
      | (with_reducible show wpList _ _ _ (⟨_, .store 74 (.tmp 5) _, _, _, _, _⟩ :: _) _ _
         refine wpList_store_at rfl 74 (.tmp 5) (.tmp 10) rfl (w.heap.size + 1 + 1) 0 CT ZT _ rfl rfl (HN5.out) (by have := HZ72.out; have := HT72.out; omega) (by rw [tx_info, HT72.out]) HT1.out ?_
         intro w3 hr hg
         rw [splice_all (HT72.out.trans HZ72.out.symm)] at hr
         have hb3 := ((HB2.out.alloc (.cells ZT.toArray 74)).put hg (by omega) (fun x hx => by simp at hx; rcases hx with rfl | rfl <;> (show (_ : Nat) ≠ _; omega))).cons hr
         have HB3 := Lib.hid hb3
         have c4 := (HCa.out _ _ hb3.tl.tl.hd).1
         have c5 := (HCa.out _ _ hb3.tl.tl.hd).2.1
         have c6 := (HCa.out _ _ hb3.tl.tl.hd).2.2
         have t5 := (HCt.out _ _ hb3.hd).1
         have i6 := hb3.hd.cell 6 (by have := HT72.out; omega)
         have i7 := hb3.hd.cell 7 (by have := HT72.out; omega)
         have f6 := hb3.hd.free 6
         have f7 := hb3.hd.free 7
         clear hb3
         clear hr hg)
      | ((with_reducible show wpList _ _ _ (⟨_, .load 74 (.tmp 5), _, _, _, _⟩ :: _) _ _); refine wpList_load_tx rfl 74 (.tmp 5) rfl (w.heap.size + 1 + 1) 0 rfl CT _ (row_range HB3.out.hd) Tryd.underlying74 rfl (by rw [tx_info, HT72.out]) ?_))
      refine (HHd.out _).mono ?_
      rintro _ w6 ⟨rfl, hb6⟩
      have HB6 := Lib.hid (HB3.out.step hb6)
      have HN7 := Lib.hid (Row.new w6 74 ZT)
      clear hb6
      go_wp2_with (first
      | (with_reducible show wpList _ _ _ (⟨_, .store 74 (.tmp 7) _, _, _, _, _⟩ :: _) _ _
         refine wpList_store_at rfl 74 (.tmp 7) (.tmp 46) rfl w6.heap.size 0 D ZT _ rfl rfl (HN7.out) (by have := HZ72.out; have := HD72.out; omega) (by rw [tx_info, HD72.out]) HD1.out ?_
         intro w7 hr hg
         rw [splice_all (HD72.out.trans HZ72.out.symm)] at hr
         have hb7 := ((HB6.out.alloc (.cells ZT.toArray 74)).put hg HB6.out.size HB6.out.fresh).cons hr
         have HB7 := Lib.hid hb7
         have hne7 : w6.heap.size ≠ (w.heap.size + 1 + 1) := fun e => HB6.out.fresh _ List.mem_cons_self e.symm
         have Hne7 := Lib.hid hne7
         clear hb7 hne7
         clear hr hg)
      | ((with_reducible show wpList _ _ _ (⟨_, .load 74 (.tmp 5), _, _, _, _⟩ :: _) _ _); refine wpList_load_tx rfl 74 (.tmp 5) rfl (w.heap.size + 1 + 1) 0 rfl CT _ (row_range HB7.out.tl.hd) Tryd.underlying74 rfl (by rw [tx_info, HT72.out]) ?_)
      | (with_reducible show wpList _ _ _ (⟨_, .store 74 (.tmp 4) _, _, _, _, _⟩ :: _) _ _
         refine wpList_store_at rfl 74 (.tmp 4) (.tmp 51) rfl (w.heap.size + 1) 0 CT ZT _ rfl rfl (HB7.out.tl.tl.hd) (by have := HZ72.out; have := HT72.out; omega) (by rw [tx_info, HT72.out]) HT1.out ?_
         intro w9 hr hg
         rw [splice_all (HT72.out.trans HZ72.out.symm)] at hr
         have HR9 := Lib.hid hr
         have HB9 := Lib.hid (below_own HB7.out.1 hg (fun k hk => by cases hk; omega))
         clear hr hg))
      refine bodyPost_ret (results_cell_row rfl _ _ (w.heap.size + 1) 74 CT.toArray (0, 0) _ rfl HR9.out Tryd.underlying74 rfl (by rw [tx_info]; simp [HT72.out])) rfl ⟨rfl, HB9.out⟩
    · skip
      go_enter Tryd.func41, Tryd.ntmps41
      go_wp2_with (first
      | ((with_reducible show wpList _ _ _ (⟨_, .load 74 (.tmp 9), _, _, _, _⟩ :: _) _ _); refine wpList_load_tx rfl 74 (.tmp 9) rfl w.heap.size 7 rfl CT _ (H7.out) Tryd.underlying74 rfl (by rw [tx_info, HT72.out]) ?_)
      | (with_reducible show wpList _ _ _ (⟨_, .store 74 (.tmp 5) _, _, _, _, _⟩ :: _) _ _
         refine wpList_store_at rfl 74 (.tmp 5) (.tmp 10) rfl (w.heap.size + 1 + 1) 0 CT ZT _ rfl rfl (HN5.out) (by have := HZ72.out; have := HT72.out; omega) (by rw [tx_info, HT72.out]) HT1.out ?_
         intro w3 hr hg
         rw [splice_all (HT72.out.trans HZ72.out.symm)] at hr
         have hb3 := ((HB2.out.alloc (.cells ZT.toArray 74)).put hg (by omega) (fun x hx => by simp at hx; rcases hx with rfl | rfl <;> (show (_ : Nat) ≠ _; omega))).cons hr
         have HB3 := Lib.hid hb3
         have c4 := (HCa.out _ _ hb3.tl.tl.hd).1
         have c5 := (HCa.out _ _ hb3.tl.tl.hd).2.1
         have c6 := (HCa.out _ _ hb3.tl.tl.hd).2.2
         have t5 := (HCt.out _ _ hb3.hd).1
         have i6 := hb3.hd.cell 6 (by have := HT72.out; omega)
         have i7 := hb3.hd.cell 7 (by have := HT72.out; omega)
         have f6 := hb3.hd.free 6
         have f7 := hb3.hd.free 7
         clear hb3
         clear hr hg)
      | ((with_reducible show wpList _ _ _ (⟨_, .load 74 (.tmp 5), _, _, _, _⟩ :: _) _ _); refine wpList_load_tx rfl 74 (.tmp 5) rfl (w.heap.size + 1 + 1) 0 rfl CT _ (row_range HB3.out.hd) Tryd.underlying74 rfl (by rw [tx_info, HT72.out]) ?_))
      refine (HHd.out _).mono ?_
      rintro _ w6 ⟨rfl, hb6⟩
      have HB6 := Lib.hid (HB3.out.step hb6)
      have HN7 := Lib.hid (Row.new w6 74 ZT)
      clear hb6
      go_wp2_with (first
      | (with_reducible show wpList _ _ _ (⟨_, .store 74 (.tmp 7) _, _, _, _, _⟩ :: _) _ _
         refine wpList_store_at rfl 74 (.tmp 7) (.tmp 46) rfl w6.heap.size 0 D ZT _ rfl rfl (HN7.out) (by have := HZ72.out; have := HD72.out; omega) (by rw [tx_info, HD72.out]) HD1.out ?_
         intro w7 hr hg
         rw [splice_all (HD72.out.trans HZ72.out.symm)] at hr
         have hb7 := ((HB6.out.alloc (.cells ZT.toArray 74)).put hg HB6.out.size HB6.out.fresh).cons hr
         have HB7 := Lib.hid hb7
         have hne7 : w6.heap.size ≠ (w.heap.size + 1 + 1) := fun e => HB6.out.fresh _ List.mem_cons_self e.symm
         have Hne7 := Lib.hid hne7
         clear hb7 hne7
         clear hr hg)
      | ((with_reducible show wpList _ _ _ (⟨_, .load 74 (.tmp 5), _, _, _, _⟩ :: _) _ _); refine wpList_load_tx rfl 74 (.tmp 5) rfl (w.heap.size + 1 + 1) 0 rfl CT _ (row_range HB7.out.tl.hd) Tryd.underlying74 rfl (by rw [tx_info, HT72.out]) ?_)
      | (with_reducible show wpList _ _ _ (⟨_, .store 74 (.tmp 4) _, _, _, _, _⟩ :: _) _ _
         refine wpList_store_at rfl 74 (.tmp 4) (.tmp 51) rfl (w.heap.size + 1) 0 CT ZT _ rfl rfl (HB7.out.tl.tl.hd) (by have := HZ72.out; have := HT72.out; omega) (by rw [tx_info, HT72.out]) HT1.out ?_
         intro w9 hr hg
         rw [splice_all (HT72.out.trans HZ72.out.symm)] at hr
         have HR9 := Lib.hid hr
         have HB9 := Lib.hid (below_own HB7.out.1 hg (fun k hk => by cases hk; omega))
         clear hr hg))
      refine bodyPost_ret (results_cell_row rfl _ _ (w.heap.size + 1) 74 CT.toArray (0, 0) _ rfl HR9.out Tryd.underlying74 rfl (by rw [tx_info]; simp [HT72.out])) rfl ⟨rfl, HB9.out⟩
set_option maxHeartbeats 1600000 in
theorem tx16_nneg {w : World} {base RB n : Nat} {v : Value} {len : Int} {L : List Ln.H} (a : Act16) (ha : a.Fits) (h : RLaneAt w base RB v len L n) (hn9 : n ≤ 900) (hc1 : a.turn = true) (hc2 : a.tx.lane = true) (hk : Ln.look L (Ln.rnd len a.now) = none) (hh : a.hand < 0) :
    Calls Tryd.prog 41 #[.pointer (some ⟨RB, 0, none⟩), .agg a.cells.toArray] w fun e w' => e = .returned (.agg ({ a.tx with round := Ln.rnd len a.now, turn := 0 }).cells.toArray) ∧ Below w.heap.size w w' := by
  have e1 : (w.alloc (.cells a.cells.toArray 76)).heap.size = w.heap.size + 1 := by simp
  have e2 : ((w.alloc (.cells a.cells.toArray 76)).alloc (.cells Tx.none.cells.toArray 74)).heap.size = w.heap.size + 1 + 1 := by simp
  have b1 : Blocks w (w.alloc (.cells a.cells.toArray 76)) [(w.heap.size, 76, a.cells)] := (Blocks.nil ((Below.refl w.heap.size w).alloc (Nat.le_refl _) _)).cons (Row.new w _ _)
  have r2 := Row.new (w.alloc (.cells a.cells.toArray 76)) 74 Tx.none.cells
  rw [e1] at r2
  have b2 := (b1.alloc (.cells Tx.none.cells.toArray 74)).cons r2
  have n5 := Row.new ((w.alloc (.cells a.cells.toArray 76)).alloc (.cells Tx.none.cells.toArray 74)) 74 Tx.none.cells
  rw [e2] at n5
  have HB2 := Lib.hid b2
  have HN5 := Lib.hid n5
  have HT72 := Lib.hid (Tx.cells_length ha.tx)
  have HT1 := Lib.hid (Tx.cells_one ha.tx)
  have HZ72 := Lib.hid (Tx.cells_length Tx.none_ok)
  have hzv : ∀ W : World, (zeroValue 74).run Tryd.prog W = .ok (.agg Tx.none.cells.toArray) W := tx_zv
  have HCa : Hid (∀ (W : World) (g : Nat), Row W g 76 a.cells → W.cell? ⟨g, 4, none⟩ = some (.int .i64 a.now) ∧ W.cell? ⟨g, 5, none⟩ = some (.int .i64 a.hand) ∧ W.cell? ⟨g, 6, none⟩ = some (.bool a.turn)) := Lib.hid (fun W g h => ⟨by have := row_range h 4 (.int .i64 a.now) rfl; simpa using this, by have := row_range h 5 (.int .i64 a.hand) rfl; simpa using this, by have := row_range h 6 (.bool a.turn) rfl; simpa using this⟩)
  have HCt : Hid (∀ (W : World) (g : Nat), Row W g 74 a.tx.cells → W.cell? ⟨g, 5, none⟩ = some (.bool a.tx.lane) ∧ W.cell? ⟨g, 6, none⟩ = some (.int .i64 a.tx.round)) := Lib.hid (fun W g h => ⟨(tx_box ha.tx h).2.2.2.2.2.1, (tx_box ha.tx h).2.2.2.2.2.2.1⟩)
  have H7 : Hid (((w.alloc (.cells a.cells.toArray 76)).alloc (.cells Tx.none.cells.toArray 74)).rangeAt w.heap.size 7 a.tx.cells) := Lib.hid (fun j v hv => by
    have hr := row_range b2.tl.hd (7 + j) v (by
      have e : a.cells = [.int .i64 a.kind, .int .i64 a.round, .int .i64 a.a, .int .i64 a.b, .int .i64 a.now, .int .i64 a.hand, .bool a.turn] ++ (a.tx.cells ++ []) := rfl
      rw [e, List.getElem?_append_right (by simp), List.append_nil]
      simpa using hv)
    rw [Nat.zero_add] at hr
    exact hr)
  have hrb := Ln.rnd_bounds h.len ha.now
  have htb : ∀ x, Ln.look L (Ln.rnd len a.now) = some x → 0 ≤ x.turn ∧ x.turn ≤ 1000 := fun x hx => by have := h.ok.2 x (Ln.look_mem hx); omega
  have HX72 := Lib.hid (Tx.cells_length (mid_ok ha.tx (r := Ln.rnd len a.now) (u := 0) (by omega) (by omega) (by omega) (by omega)))
  have HX1 := Lib.hid (Tx.cells_one (mid_ok ha.tx (r := Ln.rnd len a.now) (u := 0) (by omega) (by omega) (by omega) (by omega)))
  have HSet0 : Hid ((a.tx.cells.set 6 (.int .i64 (Ln.rnd len a.now))).set 7 (.int .i64 0) = Tx.cells { a.tx with round := Ln.rnd len a.now, turn := 0 }) := Lib.hid rfl
  have HRd : Hid (∀ W, Below w.heap.size w W → Calls Tryd.prog 37 #[.pointer (some ⟨RB, 0, none⟩), .int .i64 a.now] W fun e w' => e = .returned (.int .i64 (Ln.rnd len a.now)) ∧ ∃ k, w' = W.drewN k) := Lib.hid (fun W hW => rround_any a.now (h.below hW) ha.now.2)
  have hA : Hid (∀ W, Below w.heap.size w W → Calls Tryd.prog 39 #[.pointer (some ⟨RB, 0, none⟩), .int .i64 (Ln.rnd len a.now)] W fun e w' => e = .returned (.int .i64 (Ln.atI L (Ln.rnd len a.now))) ∧ W = w') := Lib.hid (fun W hW => rat_any _ (h.below hW) (by omega))
  rw [Ln.atI_neg hk] at hA
  have hdn : decide (0 ≤ a.hand) = false := by simp; omega
  have hdn2 : ¬ 0 ≤ a.hand := by omega
  have hw1 : w.heap.size ≤ w.heap.size + 1 := by omega
  obtain ⟨CX, hCX⟩ : ∃ CX, Tx.cells { a.tx with round := Ln.rnd len a.now, turn := 0 } = CX := ⟨_, rfl⟩
  rw [hCX] at HX72 HX1 HSet0 ⊢
  generalize Ln.rnd len a.now = q at *
  generalize a.tx.cells = CT at *
  generalize a.cells = C at *
  generalize a.now = now at *
  generalize a.hand = hand at *
  generalize a.turn = tf at *
  generalize a.tx.lane = lf at *
  generalize Tx.none.cells = ZT at *
  clear b1 b2 r2 n5 e1 e2 h hrb htb hCX hk
  subst hc1 hc2
  go_enter Tryd.func41, Tryd.ntmps41
  go_wp2_with (first
  | ((with_reducible show wpList _ _ _ (⟨_, .load 74 (.tmp 9), _, _, _, _⟩ :: _) _ _); refine wpList_load_tx rfl 74 (.tmp 9) rfl w.heap.size 7 rfl CT _ (H7.out) Tryd.underlying74 rfl (by rw [tx_info, HT72.out]) ?_)
  | (with_reducible show wpList _ _ _ (⟨_, .store 74 (.tmp 5) _, _, _, _, _⟩ :: _) _ _
     refine wpList_store_at rfl 74 (.tmp 5) (.tmp 10) rfl (w.heap.size + 1 + 1) 0 CT ZT _ rfl rfl (HN5.out) (by have := HZ72.out; have := HT72.out; omega) (by rw [tx_info, HT72.out]) HT1.out ?_
     intro w3 hr hg
     rw [splice_all (HT72.out.trans HZ72.out.symm)] at hr
     have hb3 := ((HB2.out.alloc (.cells ZT.toArray 74)).put hg (by omega) (fun x hx => by simp at hx; rcases hx with rfl | rfl <;> (show (_ : Nat) ≠ _; omega))).cons hr
     have HB3 := Lib.hid hb3
     have c4 := (HCa.out _ _ hb3.tl.tl.hd).1
     have c5 := (HCa.out _ _ hb3.tl.tl.hd).2.1
     have c6 := (HCa.out _ _ hb3.tl.tl.hd).2.2
     have t5 := (HCt.out _ _ hb3.hd).1
     have i6 := hb3.hd.cell 6 (by have := HT72.out; omega)
     have i7 := hb3.hd.cell 7 (by have := HT72.out; omega)
     have f6 := hb3.hd.free 6
     have f7 := hb3.hd.free 7
     clear hb3
     clear hr hg))
  refine (HRd.out _ HB3.out.1).mono ?_
  rintro _ w4 ⟨rfl, k4, hw4⟩
  have hb4 : Blocks w w4 [(w.heap.size + 1 + 1, 74, CT), (w.heap.size + 1, 74, ZT), (w.heap.size, 76, C)] := by rw [hw4]; exact HB3.out.step (below_drewN' (Below.refl _ _) k4)
  have i6 := hb4.hd.cell 6 (by have := HT72.out; omega)
  have i7 := hb4.hd.cell 7 (by have := HT72.out; omega)
  have f6 := hb4.hd.free 6
  have f7 := hb4.hd.free 7
  have c5 := (HCa.out _ _ hb4.tl.tl.hd).2.1
  have hr5 := (hb4.hd.set 6 (.int .i64 q) (by have := HT72.out; omega)).set 7 (.int .i64 0) (by rw [List.length_set]; have := HT72.out; omega)
  rw [HSet0.out] at hr5
  have hg5 := (grownBy_set w4 (w.heap.size + 1 + 1) 6 (.int .i64 q)).trans (grownBy_set (w4.setCell ⟨w.heap.size + 1 + 1, 6, none⟩ (.int .i64 q)) (w.heap.size + 1 + 1) 7 (.int .i64 0))
  have hb5 := (hb4.tl.put hg5 (by omega) (fun x hx => by simp at hx; rcases hx with rfl | rfl <;> (show (_ : Nat) ≠ _; omega))).cons hr5
  have HB4 := Lib.hid hb4
  have HB5 := Lib.hid hb5
  clear hw4 hb4 hr5 hg5 hb5
  go_wp2_with fail
  refine (hA.out _ HB5.out.1).mono ?_
  rintro _ w5 ⟨rfl, hw5⟩
  rw [hw5] at HB5
  have c5 := (HCa.out _ _ HB5.out.tl.tl.hd).2.1
  clear hw5 i6 i7 f6 f7
  go_wp2_with (first
  | ((with_reducible show wpList _ _ _ (⟨_, .load 74 (.tmp 5), _, _, _, _⟩ :: _) _ _); refine wpList_load_tx rfl 74 (.tmp 5) rfl (w.heap.size + 1 + 1) 0 rfl CX _ (row_range HB5.out.hd) Tryd.underlying74 rfl (by rw [tx_info, HX72.out]) ?_)
  | (with_reducible show wpList _ _ _ (⟨_, .store 74 (.tmp 4) _, _, _, _, _⟩ :: _) _ _
     refine wpList_store_at rfl 74 (.tmp 4) (.tmp 51) rfl (w.heap.size + 1) 0 CX ZT _ rfl rfl (HB5.out.tl.hd) (by have := HZ72.out; have := HX72.out; omega) (by rw [tx_info, HX72.out]) HX1.out ?_
     intro w9 hr hg
     rw [splice_all (HX72.out.trans HZ72.out.symm)] at hr
     have HR9 := Lib.hid hr
     have HB9 := Lib.hid (below_own HB5.out.1 hg (fun k hk => by cases hk; omega))
     clear hr hg))
  refine bodyPost_ret (results_cell_row rfl _ _ (w.heap.size + 1) 74 CX.toArray (0, 0) _ rfl HR9.out Tryd.underlying74 rfl (by rw [tx_info]; simp [HX72.out])) rfl ⟨rfl, HB9.out⟩
set_option maxHeartbeats 1600000 in
theorem tx16_nok {w : World} {base RB n : Nat} {v : Value} {len : Int} {L : List Ln.H} (a : Act16) (ha : a.Fits) (h : RLaneAt w base RB v len L n) (hn9 : n ≤ 900) (hc1 : a.turn = true) (hc2 : a.tx.lane = true) (hk : Ln.look L (Ln.rnd len a.now) = none) (hRS : RefSum) (hh : 0 ≤ a.hand) (hhe : (({ a.tx with round := Ln.rnd len a.now, turn := 0 }).handE a.hand).2 = 0) :
    Calls Tryd.prog 41 #[.pointer (some ⟨RB, 0, none⟩), .agg a.cells.toArray] w fun e w' => e = .returned (.agg ((({ a.tx with round := Ln.rnd len a.now, turn := 0 }).handE a.hand).1).cells.toArray) ∧ Below w.heap.size w w' := by
  have e1 : (w.alloc (.cells a.cells.toArray 76)).heap.size = w.heap.size + 1 := by simp
  have e2 : ((w.alloc (.cells a.cells.toArray 76)).alloc (.cells Tx.none.cells.toArray 74)).heap.size = w.heap.size + 1 + 1 := by simp
  have b1 : Blocks w (w.alloc (.cells a.cells.toArray 76)) [(w.heap.size, 76, a.cells)] := (Blocks.nil ((Below.refl w.heap.size w).alloc (Nat.le_refl _) _)).cons (Row.new w _ _)
  have r2 := Row.new (w.alloc (.cells a.cells.toArray 76)) 74 Tx.none.cells
  rw [e1] at r2
  have b2 := (b1.alloc (.cells Tx.none.cells.toArray 74)).cons r2
  have n5 := Row.new ((w.alloc (.cells a.cells.toArray 76)).alloc (.cells Tx.none.cells.toArray 74)) 74 Tx.none.cells
  rw [e2] at n5
  have HB2 := Lib.hid b2
  have HN5 := Lib.hid n5
  have HT72 := Lib.hid (Tx.cells_length ha.tx)
  have HT1 := Lib.hid (Tx.cells_one ha.tx)
  have HZ72 := Lib.hid (Tx.cells_length Tx.none_ok)
  have hzv : ∀ W : World, (zeroValue 74).run Tryd.prog W = .ok (.agg Tx.none.cells.toArray) W := tx_zv
  have HCa : Hid (∀ (W : World) (g : Nat), Row W g 76 a.cells → W.cell? ⟨g, 4, none⟩ = some (.int .i64 a.now) ∧ W.cell? ⟨g, 5, none⟩ = some (.int .i64 a.hand) ∧ W.cell? ⟨g, 6, none⟩ = some (.bool a.turn)) := Lib.hid (fun W g h => ⟨by have := row_range h 4 (.int .i64 a.now) rfl; simpa using this, by have := row_range h 5 (.int .i64 a.hand) rfl; simpa using this, by have := row_range h 6 (.bool a.turn) rfl; simpa using this⟩)
  have HCt : Hid (∀ (W : World) (g : Nat), Row W g 74 a.tx.cells → W.cell? ⟨g, 5, none⟩ = some (.bool a.tx.lane) ∧ W.cell? ⟨g, 6, none⟩ = some (.int .i64 a.tx.round)) := Lib.hid (fun W g h => ⟨(tx_box ha.tx h).2.2.2.2.2.1, (tx_box ha.tx h).2.2.2.2.2.2.1⟩)
  have H7 : Hid (((w.alloc (.cells a.cells.toArray 76)).alloc (.cells Tx.none.cells.toArray 74)).rangeAt w.heap.size 7 a.tx.cells) := Lib.hid (fun j v hv => by
    have hr := row_range b2.tl.hd (7 + j) v (by
      have e : a.cells = [.int .i64 a.kind, .int .i64 a.round, .int .i64 a.a, .int .i64 a.b, .int .i64 a.now, .int .i64 a.hand, .bool a.turn] ++ (a.tx.cells ++ []) := rfl
      rw [e, List.getElem?_append_right (by simp), List.append_nil]
      simpa using hv)
    rw [Nat.zero_add] at hr
    exact hr)
  have hrb := Ln.rnd_bounds h.len ha.now
  have htb : ∀ x, Ln.look L (Ln.rnd len a.now) = some x → 0 ≤ x.turn ∧ x.turn ≤ 1000 := fun x hx => by have := h.ok.2 x (Ln.look_mem hx); omega
  have HX72 := Lib.hid (Tx.cells_length (mid_ok ha.tx (r := Ln.rnd len a.now) (u := 0) (by omega) (by omega) (by omega) (by omega)))
  have HX1 := Lib.hid (Tx.cells_one (mid_ok ha.tx (r := Ln.rnd len a.now) (u := 0) (by omega) (by omega) (by omega) (by omega)))
  have HSet0 : Hid ((a.tx.cells.set 6 (.int .i64 (Ln.rnd len a.now))).set 7 (.int .i64 0) = Tx.cells { a.tx with round := Ln.rnd len a.now, turn := 0 }) := Lib.hid rfl
  have HRd : Hid (∀ W, Below w.heap.size w W → Calls Tryd.prog 37 #[.pointer (some ⟨RB, 0, none⟩), .int .i64 a.now] W fun e w' => e = .returned (.int .i64 (Ln.rnd len a.now)) ∧ ∃ k, w' = W.drewN k) := Lib.hid (fun W hW => rround_any a.now (h.below hW) ha.now.2)
  have hA : Hid (∀ W, Below w.heap.size w W → Calls Tryd.prog 39 #[.pointer (some ⟨RB, 0, none⟩), .int .i64 (Ln.rnd len a.now)] W fun e w' => e = .returned (.int .i64 (Ln.atI L (Ln.rnd len a.now))) ∧ W = w') := Lib.hid (fun W hW => rat_any _ (h.below hW) (by omega))
  rw [Ln.atI_neg hk] at hA
  have HHd : Hid (∀ W, Calls Tryd.prog 62 #[.agg ({ a.tx with round := Ln.rnd len a.now, turn := 0 }).cells.toArray, .int .i64 a.hand] W fun e w' => e = .returned (.tuple #[.agg (({ a.tx with round := Ln.rnd len a.now, turn := 0 }).handE a.hand).1.cells.toArray, .int .i64 (({ a.tx with round := Ln.rnd len a.now, turn := 0 }).handE a.hand).2]) ∧ Below W.heap.size W w') := Lib.hid (fun W => rhand4_any hRS ({ a.tx with round := Ln.rnd len a.now, turn := 0 }) (mid_ok ha.tx (by omega) (by omega) (by omega) (by omega)) a.hand W)
  have hdok : (({ a.tx with round := Ln.rnd len a.now, turn := 0 }).handE a.hand).1.Ok := handE_ok (mid_ok ha.tx (by omega) (by omega) (by omega) (by omega)) a.hand
  have HD72 := Lib.hid (Tx.cells_length hdok)
  have HD1 := Lib.hid (Tx.cells_one hdok)
  obtain ⟨R, hR⟩ : ∃ R, ({ a.tx with round := Ln.rnd len a.now, turn := 0 }).handE a.hand = R := ⟨_, rfl⟩
  rw [hR] at hhe HHd HD72 HD1 ⊢
  obtain ⟨d, de⟩ := R
  simp only at hhe HHd HD72 HD1 ⊢
  have hdn : decide (0 ≤ a.hand) = true := by simp; omega
  subst hhe
  have hw1 : w.heap.size ≤ w.heap.size + 1 := by omega
  obtain ⟨CX, hCX⟩ : ∃ CX, Tx.cells { a.tx with round := Ln.rnd len a.now, turn := 0 } = CX := ⟨_, rfl⟩
  rw [hCX] at HX72 HX1 HSet0 HHd
  generalize Ln.rnd len a.now = q at *
  generalize a.tx.cells = CT at *
  generalize d.cells = D at *
  generalize a.cells = C at *
  generalize a.now = now at *
  generalize a.hand = hand at *
  generalize a.turn = tf at *
  generalize a.tx.lane = lf at *
  generalize Tx.none.cells = ZT at *
  clear b1 b2 r2 n5 e1 e2 h hrb htb hCX hk hR hdok
  subst hc1 hc2
  go_enter Tryd.func41, Tryd.ntmps41
  go_wp2_with (first
  | ((with_reducible show wpList _ _ _ (⟨_, .load 74 (.tmp 9), _, _, _, _⟩ :: _) _ _); refine wpList_load_tx rfl 74 (.tmp 9) rfl w.heap.size 7 rfl CT _ (H7.out) Tryd.underlying74 rfl (by rw [tx_info, HT72.out]) ?_)
  | (with_reducible show wpList _ _ _ (⟨_, .store 74 (.tmp 5) _, _, _, _, _⟩ :: _) _ _
     refine wpList_store_at rfl 74 (.tmp 5) (.tmp 10) rfl (w.heap.size + 1 + 1) 0 CT ZT _ rfl rfl (HN5.out) (by have := HZ72.out; have := HT72.out; omega) (by rw [tx_info, HT72.out]) HT1.out ?_
     intro w3 hr hg
     rw [splice_all (HT72.out.trans HZ72.out.symm)] at hr
     have hb3 := ((HB2.out.alloc (.cells ZT.toArray 74)).put hg (by omega) (fun x hx => by simp at hx; rcases hx with rfl | rfl <;> (show (_ : Nat) ≠ _; omega))).cons hr
     have HB3 := Lib.hid hb3
     have c4 := (HCa.out _ _ hb3.tl.tl.hd).1
     have c5 := (HCa.out _ _ hb3.tl.tl.hd).2.1
     have c6 := (HCa.out _ _ hb3.tl.tl.hd).2.2
     have t5 := (HCt.out _ _ hb3.hd).1
     have i6 := hb3.hd.cell 6 (by have := HT72.out; omega)
     have i7 := hb3.hd.cell 7 (by have := HT72.out; omega)
     have f6 := hb3.hd.free 6
     have f7 := hb3.hd.free 7
     clear hb3
     clear hr hg))
  refine (HRd.out _ HB3.out.1).mono ?_
  rintro _ w4 ⟨rfl, k4, hw4⟩
  have hb4 : Blocks w w4 [(w.heap.size + 1 + 1, 74, CT), (w.heap.size + 1, 74, ZT), (w.heap.size, 76, C)] := by rw [hw4]; exact HB3.out.step (below_drewN' (Below.refl _ _) k4)
  have i6 := hb4.hd.cell 6 (by have := HT72.out; omega)
  have i7 := hb4.hd.cell 7 (by have := HT72.out; omega)
  have f6 := hb4.hd.free 6
  have f7 := hb4.hd.free 7
  have c5 := (HCa.out _ _ hb4.tl.tl.hd).2.1
  have hr5 := (hb4.hd.set 6 (.int .i64 q) (by have := HT72.out; omega)).set 7 (.int .i64 0) (by rw [List.length_set]; have := HT72.out; omega)
  rw [HSet0.out] at hr5
  have hg5 := (grownBy_set w4 (w.heap.size + 1 + 1) 6 (.int .i64 q)).trans (grownBy_set (w4.setCell ⟨w.heap.size + 1 + 1, 6, none⟩ (.int .i64 q)) (w.heap.size + 1 + 1) 7 (.int .i64 0))
  have hb5 := (hb4.tl.put hg5 (by omega) (fun x hx => by simp at hx; rcases hx with rfl | rfl <;> (show (_ : Nat) ≠ _; omega))).cons hr5
  have HB4 := Lib.hid hb4
  have HB5 := Lib.hid hb5
  clear hw4 hb4 hr5 hg5 hb5
  go_wp2_with fail
  refine (hA.out _ HB5.out.1).mono ?_
  rintro _ w5 ⟨rfl, hw5⟩
  rw [hw5] at HB5
  have c5 := (HCa.out _ _ HB5.out.tl.tl.hd).2.1
  clear hw5 i6 i7 f6 f7
  go_wp2_with (first
  | ((with_reducible show wpList _ _ _ (⟨_, .load 74 (.tmp 5), _, _, _, _⟩ :: _) _ _); refine wpList_load_tx rfl 74 (.tmp 5) rfl (w.heap.size + 1 + 1) 0 rfl CX _ (row_range HB5.out.hd) Tryd.underlying74 rfl (by rw [tx_info, HX72.out]) ?_))
  refine (HHd.out _).mono ?_
  rintro _ w6 ⟨rfl, hb6⟩
  have HB6 := Lib.hid (HB5.out.step hb6)
  have HN7 := Lib.hid (Row.new w6 74 ZT)
  clear hb6
  go_wp2_with (first
  | (with_reducible show wpList _ _ _ (⟨_, .store 74 (.tmp 7) _, _, _, _, _⟩ :: _) _ _
     refine wpList_store_at rfl 74 (.tmp 7) (.tmp 46) rfl w6.heap.size 0 D ZT _ rfl rfl (HN7.out) (by have := HZ72.out; have := HD72.out; omega) (by rw [tx_info, HD72.out]) HD1.out ?_
     intro w7 hr hg
     rw [splice_all (HD72.out.trans HZ72.out.symm)] at hr
     have hb7 := ((HB6.out.alloc (.cells ZT.toArray 74)).put hg HB6.out.size HB6.out.fresh).cons hr
     have HB7 := Lib.hid hb7
     have hne7 : w6.heap.size ≠ (w.heap.size + 1 + 1) := fun e => HB6.out.fresh _ List.mem_cons_self e.symm
     have Hne7 := Lib.hid hne7
     clear hb7 hne7
     clear hr hg)
  | ((with_reducible show wpList _ _ _ (⟨_, .load 74 (.tmp 7), _, _, _, _⟩ :: _) _ _); refine wpList_load_tx rfl 74 (.tmp 7) rfl w6.heap.size 0 rfl D _ (row_range HB7.out.hd) Tryd.underlying74 rfl (by rw [tx_info, HD72.out]) ?_)
  | (with_reducible show wpList _ _ _ (⟨_, .store 74 (.tmp 5) _, _, _, _, _⟩ :: _) _ _
     refine wpList_store_at rfl 74 (.tmp 5) (.tmp 50) rfl (w.heap.size + 1 + 1) 0 D CX _ rfl rfl (HB7.out.tl.hd) (by have := HX72.out; have := HD72.out; omega) (by rw [tx_info, HD72.out]) HD1.out ?_
     intro w8 hr hg
     rw [splice_all (HD72.out.trans HX72.out.symm)] at hr
     have HR8 := Lib.hid hr
     have HZ8 := Lib.hid (HB7.out.tl.tl.hd.kept hg (by simp))
     have HB8 := Lib.hid (below_own HB7.out.1 hg (fun k hk => by cases hk; omega))
     clear hr hg)
  | ((with_reducible show wpList _ _ _ (⟨_, .load 74 (.tmp 5), _, _, _, _⟩ :: _) _ _); refine wpList_load_tx rfl 74 (.tmp 5) rfl (w.heap.size + 1 + 1) 0 rfl D _ (row_range HR8.out) Tryd.underlying74 rfl (by rw [tx_info, HD72.out]) ?_)
  | (with_reducible show wpList _ _ _ (⟨_, .store 74 (.tmp 4) _, _, _, _, _⟩ :: _) _ _
     refine wpList_store_at rfl 74 (.tmp 4) (.tmp 51) rfl (w.heap.size + 1) 0 D ZT _ rfl rfl (HZ8.out) (by have := HZ72.out; have := HD72.out; omega) (by rw [tx_info, HD72.out]) HD1.out ?_
     intro w9 hr hg
     rw [splice_all (HD72.out.trans HZ72.out.symm)] at hr
     have HR9 := Lib.hid hr
     have HB9 := Lib.hid (below_own HB8.out hg (fun k hk => by cases hk; omega))
     clear hr hg))
  refine bodyPost_ret (results_cell_row rfl _ _ (w.heap.size + 1) 74 D.toArray (0, 0) _ rfl HR9.out Tryd.underlying74 rfl (by rw [tx_info]; simp [HD72.out])) rfl ⟨rfl, HB9.out⟩
set_option maxHeartbeats 1600000 in
theorem tx16_nbad {w : World} {base RB n : Nat} {v : Value} {len : Int} {L : List Ln.H} (a : Act16) (ha : a.Fits) (h : RLaneAt w base RB v len L n) (hn9 : n ≤ 900) (hc1 : a.turn = true) (hc2 : a.tx.lane = true) (hk : Ln.look L (Ln.rnd len a.now) = none) (hRS : RefSum) (hh : 0 ≤ a.hand) (hhe : (({ a.tx with round := Ln.rnd len a.now, turn := 0 }).handE a.hand).2 ≠ 0) :
    Calls Tryd.prog 41 #[.pointer (some ⟨RB, 0, none⟩), .agg a.cells.toArray] w fun e w' => e = .returned (.agg ({ a.tx with round := Ln.rnd len a.now, turn := 0 }).cells.toArray) ∧ Below w.heap.size w w' := by
  have e1 : (w.alloc (.cells a.cells.toArray 76)).heap.size = w.heap.size + 1 := by simp
  have e2 : ((w.alloc (.cells a.cells.toArray 76)).alloc (.cells Tx.none.cells.toArray 74)).heap.size = w.heap.size + 1 + 1 := by simp
  have b1 : Blocks w (w.alloc (.cells a.cells.toArray 76)) [(w.heap.size, 76, a.cells)] := (Blocks.nil ((Below.refl w.heap.size w).alloc (Nat.le_refl _) _)).cons (Row.new w _ _)
  have r2 := Row.new (w.alloc (.cells a.cells.toArray 76)) 74 Tx.none.cells
  rw [e1] at r2
  have b2 := (b1.alloc (.cells Tx.none.cells.toArray 74)).cons r2
  have n5 := Row.new ((w.alloc (.cells a.cells.toArray 76)).alloc (.cells Tx.none.cells.toArray 74)) 74 Tx.none.cells
  rw [e2] at n5
  have HB2 := Lib.hid b2
  have HN5 := Lib.hid n5
  have HT72 := Lib.hid (Tx.cells_length ha.tx)
  have HT1 := Lib.hid (Tx.cells_one ha.tx)
  have HZ72 := Lib.hid (Tx.cells_length Tx.none_ok)
  have hzv : ∀ W : World, (zeroValue 74).run Tryd.prog W = .ok (.agg Tx.none.cells.toArray) W := tx_zv
  have HCa : Hid (∀ (W : World) (g : Nat), Row W g 76 a.cells → W.cell? ⟨g, 4, none⟩ = some (.int .i64 a.now) ∧ W.cell? ⟨g, 5, none⟩ = some (.int .i64 a.hand) ∧ W.cell? ⟨g, 6, none⟩ = some (.bool a.turn)) := Lib.hid (fun W g h => ⟨by have := row_range h 4 (.int .i64 a.now) rfl; simpa using this, by have := row_range h 5 (.int .i64 a.hand) rfl; simpa using this, by have := row_range h 6 (.bool a.turn) rfl; simpa using this⟩)
  have HCt : Hid (∀ (W : World) (g : Nat), Row W g 74 a.tx.cells → W.cell? ⟨g, 5, none⟩ = some (.bool a.tx.lane) ∧ W.cell? ⟨g, 6, none⟩ = some (.int .i64 a.tx.round)) := Lib.hid (fun W g h => ⟨(tx_box ha.tx h).2.2.2.2.2.1, (tx_box ha.tx h).2.2.2.2.2.2.1⟩)
  have H7 : Hid (((w.alloc (.cells a.cells.toArray 76)).alloc (.cells Tx.none.cells.toArray 74)).rangeAt w.heap.size 7 a.tx.cells) := Lib.hid (fun j v hv => by
    have hr := row_range b2.tl.hd (7 + j) v (by
      have e : a.cells = [.int .i64 a.kind, .int .i64 a.round, .int .i64 a.a, .int .i64 a.b, .int .i64 a.now, .int .i64 a.hand, .bool a.turn] ++ (a.tx.cells ++ []) := rfl
      rw [e, List.getElem?_append_right (by simp), List.append_nil]
      simpa using hv)
    rw [Nat.zero_add] at hr
    exact hr)
  have hrb := Ln.rnd_bounds h.len ha.now
  have htb : ∀ x, Ln.look L (Ln.rnd len a.now) = some x → 0 ≤ x.turn ∧ x.turn ≤ 1000 := fun x hx => by have := h.ok.2 x (Ln.look_mem hx); omega
  have HX72 := Lib.hid (Tx.cells_length (mid_ok ha.tx (r := Ln.rnd len a.now) (u := 0) (by omega) (by omega) (by omega) (by omega)))
  have HX1 := Lib.hid (Tx.cells_one (mid_ok ha.tx (r := Ln.rnd len a.now) (u := 0) (by omega) (by omega) (by omega) (by omega)))
  have HSet0 : Hid ((a.tx.cells.set 6 (.int .i64 (Ln.rnd len a.now))).set 7 (.int .i64 0) = Tx.cells { a.tx with round := Ln.rnd len a.now, turn := 0 }) := Lib.hid rfl
  have HRd : Hid (∀ W, Below w.heap.size w W → Calls Tryd.prog 37 #[.pointer (some ⟨RB, 0, none⟩), .int .i64 a.now] W fun e w' => e = .returned (.int .i64 (Ln.rnd len a.now)) ∧ ∃ k, w' = W.drewN k) := Lib.hid (fun W hW => rround_any a.now (h.below hW) ha.now.2)
  have hA : Hid (∀ W, Below w.heap.size w W → Calls Tryd.prog 39 #[.pointer (some ⟨RB, 0, none⟩), .int .i64 (Ln.rnd len a.now)] W fun e w' => e = .returned (.int .i64 (Ln.atI L (Ln.rnd len a.now))) ∧ W = w') := Lib.hid (fun W hW => rat_any _ (h.below hW) (by omega))
  rw [Ln.atI_neg hk] at hA
  have HHd : Hid (∀ W, Calls Tryd.prog 62 #[.agg ({ a.tx with round := Ln.rnd len a.now, turn := 0 }).cells.toArray, .int .i64 a.hand] W fun e w' => e = .returned (.tuple #[.agg (({ a.tx with round := Ln.rnd len a.now, turn := 0 }).handE a.hand).1.cells.toArray, .int .i64 (({ a.tx with round := Ln.rnd len a.now, turn := 0 }).handE a.hand).2]) ∧ Below W.heap.size W w') := Lib.hid (fun W => rhand4_any hRS ({ a.tx with round := Ln.rnd len a.now, turn := 0 }) (mid_ok ha.tx (by omega) (by omega) (by omega) (by omega)) a.hand W)
  have hdok : (({ a.tx with round := Ln.rnd len a.now, turn := 0 }).handE a.hand).1.Ok := handE_ok (mid_ok ha.tx (by omega) (by omega) (by omega) (by omega)) a.hand
  have HD72 := Lib.hid (Tx.cells_length hdok)
  have HD1 := Lib.hid (Tx.cells_one hdok)
  obtain ⟨R, hR⟩ : ∃ R, ({ a.tx with round := Ln.rnd len a.now, turn := 0 }).handE a.hand = R := ⟨_, rfl⟩
  rw [hR] at hhe HHd HD72 HD1
  obtain ⟨d, de⟩ := R
  simp only at hhe HHd HD72 HD1
  have hdn : decide (0 ≤ a.hand) = true := by simp; omega
  have heb : (de == 0) = false := by simpa using hhe
  have hw1 : w.heap.size ≤ w.heap.size + 1 := by omega
  obtain ⟨CX, hCX⟩ : ∃ CX, Tx.cells { a.tx with round := Ln.rnd len a.now, turn := 0 } = CX := ⟨_, rfl⟩
  rw [hCX] at HX72 HX1 HSet0 HHd ⊢
  generalize Ln.rnd len a.now = q at *
  generalize a.tx.cells = CT at *
  generalize d.cells = D at *
  generalize a.cells = C at *
  generalize a.now = now at *
  generalize a.hand = hand at *
  generalize a.turn = tf at *
  generalize a.tx.lane = lf at *
  generalize Tx.none.cells = ZT at *
  clear b1 b2 r2 n5 e1 e2 h hrb htb hCX hk hR hdok hhe
  subst hc1 hc2
  go_enter Tryd.func41, Tryd.ntmps41
  go_wp2_with (first
  | ((with_reducible show wpList _ _ _ (⟨_, .load 74 (.tmp 9), _, _, _, _⟩ :: _) _ _); refine wpList_load_tx rfl 74 (.tmp 9) rfl w.heap.size 7 rfl CT _ (H7.out) Tryd.underlying74 rfl (by rw [tx_info, HT72.out]) ?_)
  | (with_reducible show wpList _ _ _ (⟨_, .store 74 (.tmp 5) _, _, _, _, _⟩ :: _) _ _
     refine wpList_store_at rfl 74 (.tmp 5) (.tmp 10) rfl (w.heap.size + 1 + 1) 0 CT ZT _ rfl rfl (HN5.out) (by have := HZ72.out; have := HT72.out; omega) (by rw [tx_info, HT72.out]) HT1.out ?_
     intro w3 hr hg
     rw [splice_all (HT72.out.trans HZ72.out.symm)] at hr
     have hb3 := ((HB2.out.alloc (.cells ZT.toArray 74)).put hg (by omega) (fun x hx => by simp at hx; rcases hx with rfl | rfl <;> (show (_ : Nat) ≠ _; omega))).cons hr
     have HB3 := Lib.hid hb3
     have c4 := (HCa.out _ _ hb3.tl.tl.hd).1
     have c5 := (HCa.out _ _ hb3.tl.tl.hd).2.1
     have c6 := (HCa.out _ _ hb3.tl.tl.hd).2.2
     have t5 := (HCt.out _ _ hb3.hd).1
     have i6 := hb3.hd.cell 6 (by have := HT72.out; omega)
     have i7 := hb3.hd.cell 7 (by have := HT72.out; omega)
     have f6 := hb3.hd.free 6
     have f7 := hb3.hd.free 7
     clear hb3
     clear hr hg))
  refine (HRd.out _ HB3.out.1).mono ?_
  rintro _ w4 ⟨rfl, k4, hw4⟩
  have hb4 : Blocks w w4 [(w.heap.size + 1 + 1, 74, CT), (w.heap.size + 1, 74, ZT), (w.heap.size, 76, C)] := by rw [hw4]; exact HB3.out.step (below_drewN' (Below.refl _ _) k4)
  have i6 := hb4.hd.cell 6 (by have := HT72.out; omega)
  have i7 := hb4.hd.cell 7 (by have := HT72.out; omega)
  have f6 := hb4.hd.free 6
  have f7 := hb4.hd.free 7
  have c5 := (HCa.out _ _ hb4.tl.tl.hd).2.1
  have hr5 := (hb4.hd.set 6 (.int .i64 q) (by have := HT72.out; omega)).set 7 (.int .i64 0) (by rw [List.length_set]; have := HT72.out; omega)
  rw [HSet0.out] at hr5
  have hg5 := (grownBy_set w4 (w.heap.size + 1 + 1) 6 (.int .i64 q)).trans (grownBy_set (w4.setCell ⟨w.heap.size + 1 + 1, 6, none⟩ (.int .i64 q)) (w.heap.size + 1 + 1) 7 (.int .i64 0))
  have hb5 := (hb4.tl.put hg5 (by omega) (fun x hx => by simp at hx; rcases hx with rfl | rfl <;> (show (_ : Nat) ≠ _; omega))).cons hr5
  have HB4 := Lib.hid hb4
  have HB5 := Lib.hid hb5
  clear hw4 hb4 hr5 hg5 hb5
  go_wp2_with fail
  refine (hA.out _ HB5.out.1).mono ?_
  rintro _ w5 ⟨rfl, hw5⟩
  rw [hw5] at HB5
  have c5 := (HCa.out _ _ HB5.out.tl.tl.hd).2.1
  clear hw5 i6 i7 f6 f7
  go_wp2_with (first
  | ((with_reducible show wpList _ _ _ (⟨_, .load 74 (.tmp 5), _, _, _, _⟩ :: _) _ _); refine wpList_load_tx rfl 74 (.tmp 5) rfl (w.heap.size + 1 + 1) 0 rfl CX _ (row_range HB5.out.hd) Tryd.underlying74 rfl (by rw [tx_info, HX72.out]) ?_))
  refine (HHd.out _).mono ?_
  rintro _ w6 ⟨rfl, hb6⟩
  have HB6 := Lib.hid (HB5.out.step hb6)
  have HN7 := Lib.hid (Row.new w6 74 ZT)
  clear hb6
  go_wp2_with (first
  | (with_reducible show wpList _ _ _ (⟨_, .store 74 (.tmp 7) _, _, _, _, _⟩ :: _) _ _
     refine wpList_store_at rfl 74 (.tmp 7) (.tmp 46) rfl w6.heap.size 0 D ZT _ rfl rfl (HN7.out) (by have := HZ72.out; have := HD72.out; omega) (by rw [tx_info, HD72.out]) HD1.out ?_
     intro w7 hr hg
     rw [splice_all (HD72.out.trans HZ72.out.symm)] at hr
     have hb7 := ((HB6.out.alloc (.cells ZT.toArray 74)).put hg HB6.out.size HB6.out.fresh).cons hr
     have HB7 := Lib.hid hb7
     have hne7 : w6.heap.size ≠ (w.heap.size + 1 + 1) := fun e => HB6.out.fresh _ List.mem_cons_self e.symm
     have Hne7 := Lib.hid hne7
     clear hb7 hne7
     clear hr hg)
  | ((with_reducible show wpList _ _ _ (⟨_, .load 74 (.tmp 5), _, _, _, _⟩ :: _) _ _); refine wpList_load_tx rfl 74 (.tmp 5) rfl (w.heap.size + 1 + 1) 0 rfl CX _ (row_range HB7.out.tl.hd) Tryd.underlying74 rfl (by rw [tx_info, HX72.out]) ?_)
  | (with_reducible show wpList _ _ _ (⟨_, .store 74 (.tmp 4) _, _, _, _, _⟩ :: _) _ _
     refine wpList_store_at rfl 74 (.tmp 4) (.tmp 51) rfl (w.heap.size + 1) 0 CX ZT _ rfl rfl (HB7.out.tl.tl.hd) (by have := HZ72.out; have := HX72.out; omega) (by rw [tx_info, HX72.out]) HX1.out ?_
     intro w9 hr hg
     rw [splice_all (HX72.out.trans HZ72.out.symm)] at hr
     have HR9 := Lib.hid hr
     have HB9 := Lib.hid (below_own HB7.out.1 hg (fun k hk => by cases hk; omega))
     clear hr hg))
  refine bodyPost_ret (results_cell_row rfl _ _ (w.heap.size + 1) 74 CX.toArray (0, 0) _ rfl HR9.out Tryd.underlying74 rfl (by rw [tx_info]; simp [HX72.out])) rfl ⟨rfl, HB9.out⟩
set_option maxHeartbeats 1600000 in
theorem tx16_sneg {w : World} {base RB n : Nat} {v : Value} {len : Int} {L : List Ln.H} (a : Act16) (ha : a.Fits) (h : RLaneAt w base RB v len L n) (hn9 : n ≤ 900) (hc1 : a.turn = true) (hc2 : a.tx.lane = true) (x : Ln.H) (hk : Ln.look L (Ln.rnd len a.now) = some x) (hh : a.hand < 0) :
    Calls Tryd.prog 41 #[.pointer (some ⟨RB, 0, none⟩), .agg a.cells.toArray] w fun e w' => e = .returned (.agg ({ a.tx with round := Ln.rnd len a.now, turn := x.turn }).cells.toArray) ∧ Below w.heap.size w w' := by
  have e1 : (w.alloc (.cells a.cells.toArray 76)).heap.size = w.heap.size + 1 := by simp
  have e2 : ((w.alloc (.cells a.cells.toArray 76)).alloc (.cells Tx.none.cells.toArray 74)).heap.size = w.heap.size + 1 + 1 := by simp
  have b1 : Blocks w (w.alloc (.cells a.cells.toArray 76)) [(w.heap.size, 76, a.cells)] := (Blocks.nil ((Below.refl w.heap.size w).alloc (Nat.le_refl _) _)).cons (Row.new w _ _)
  have r2 := Row.new (w.alloc (.cells a.cells.toArray 76)) 74 Tx.none.cells
  rw [e1] at r2
  have b2 := (b1.alloc (.cells Tx.none.cells.toArray 74)).cons r2
  have n5 := Row.new ((w.alloc (.cells a.cells.toArray 76)).alloc (.cells Tx.none.cells.toArray 74)) 74 Tx.none.cells
  rw [e2] at n5
  have HB2 := Lib.hid b2
  have HN5 := Lib.hid n5
  have HT72 := Lib.hid (Tx.cells_length ha.tx)
  have HT1 := Lib.hid (Tx.cells_one ha.tx)
  have HZ72 := Lib.hid (Tx.cells_length Tx.none_ok)
  have hzv : ∀ W : World, (zeroValue 74).run Tryd.prog W = .ok (.agg Tx.none.cells.toArray) W := tx_zv
  have HCa : Hid (∀ (W : World) (g : Nat), Row W g 76 a.cells → W.cell? ⟨g, 4, none⟩ = some (.int .i64 a.now) ∧ W.cell? ⟨g, 5, none⟩ = some (.int .i64 a.hand) ∧ W.cell? ⟨g, 6, none⟩ = some (.bool a.turn)) := Lib.hid (fun W g h => ⟨by have := row_range h 4 (.int .i64 a.now) rfl; simpa using this, by have := row_range h 5 (.int .i64 a.hand) rfl; simpa using this, by have := row_range h 6 (.bool a.turn) rfl; simpa using this⟩)
  have HCt : Hid (∀ (W : World) (g : Nat), Row W g 74 a.tx.cells → W.cell? ⟨g, 5, none⟩ = some (.bool a.tx.lane) ∧ W.cell? ⟨g, 6, none⟩ = some (.int .i64 a.tx.round)) := Lib.hid (fun W g h => ⟨(tx_box ha.tx h).2.2.2.2.2.1, (tx_box ha.tx h).2.2.2.2.2.2.1⟩)
  have H7 : Hid (((w.alloc (.cells a.cells.toArray 76)).alloc (.cells Tx.none.cells.toArray 74)).rangeAt w.heap.size 7 a.tx.cells) := Lib.hid (fun j v hv => by
    have hr := row_range b2.tl.hd (7 + j) v (by
      have e : a.cells = [.int .i64 a.kind, .int .i64 a.round, .int .i64 a.a, .int .i64 a.b, .int .i64 a.now, .int .i64 a.hand, .bool a.turn] ++ (a.tx.cells ++ []) := rfl
      rw [e, List.getElem?_append_right (by simp), List.append_nil]
      simpa using hv)
    rw [Nat.zero_add] at hr
    exact hr)
  have hrb := Ln.rnd_bounds h.len ha.now
  have htb : ∀ x, Ln.look L (Ln.rnd len a.now) = some x → 0 ≤ x.turn ∧ x.turn ≤ 1000 := fun x hx => by have := h.ok.2 x (Ln.look_mem hx); omega
  have htx := htb x hk
  have HX72 := Lib.hid (Tx.cells_length (mid_ok ha.tx (r := Ln.rnd len a.now) (u := x.turn) (by omega) (by omega) (by omega) (by omega)))
  have HX1 := Lib.hid (Tx.cells_one (mid_ok ha.tx (r := Ln.rnd len a.now) (u := x.turn) (by omega) (by omega) (by omega) (by omega)))
  have HSet0 : Hid ((a.tx.cells.set 6 (.int .i64 (Ln.rnd len a.now))).set 7 (.int .i64 0) = Tx.cells { a.tx with round := Ln.rnd len a.now, turn := 0 }) := Lib.hid rfl
  have HY72 := Lib.hid (Tx.cells_length (mid_ok ha.tx (r := Ln.rnd len a.now) (u := 0) (by omega) (by omega) (by omega) (by omega)))
  have HSet1 : Hid ((Tx.cells { a.tx with round := Ln.rnd len a.now, turn := 0 }).set 7 (.int .i64 x.turn) = Tx.cells { a.tx with round := Ln.rnd len a.now, turn := x.turn }) := Lib.hid rfl
  have HRd : Hid (∀ W, Below w.heap.size w W → Calls Tryd.prog 37 #[.pointer (some ⟨RB, 0, none⟩), .int .i64 a.now] W fun e w' => e = .returned (.int .i64 (Ln.rnd len a.now)) ∧ ∃ k, w' = W.drewN k) := Lib.hid (fun W hW => rround_any a.now (h.below hW) ha.now.2)
  have hA : Hid (∀ W, Below w.heap.size w W → Calls Tryd.prog 39 #[.pointer (some ⟨RB, 0, none⟩), .int .i64 (Ln.rnd len a.now)] W fun e w' => e = .returned (.int .i64 (Ln.atI L (Ln.rnd len a.now))) ∧ W = w') := Lib.hid (fun W hW => rat_any _ (h.below hW) (by omega))
  obtain ⟨k, hk1, _, hkl, hkx⟩ := Ln.atI_pos hk
  rw [hk1] at hA
  obtain ⟨g, c, rfl, _, hgl⟩ := h.own.ne (by intro e; rw [e] at hkl; simp at hkl)
  have c1' := h.c1
  have e2' := h.own.cell (Ln.hc_len L) k hkl 2 (.int .i64 x.turn) (by rw [hkx]; rfl)
  obtain ⟨m, hm⟩ : ∃ m, m = L.length := ⟨_, rfl⟩
  have hki : (k : Int) < (m : Int) := by omega
  have hkn : (0 : Int) ≤ (k : Int) := by omega
  rw [← hm] at c1'
  have hBl := h.row.lt
  have HEl : Hid (∀ W, Below w.heap.size w W → W.cell? ⟨RB, 1, none⟩ = some (.slice (some ⟨g, 0, none⟩) m c) ∧ W.cell? ⟨g, k * 3 + 2, none⟩ = some (.int .i64 x.turn)) := Lib.hid (fun W hW => ⟨(hW.cell (p := ⟨RB, 1, none⟩) hBl).trans c1', (hW.cell (p := ⟨g, k * 3 + 2, none⟩) hgl).trans e2'⟩)
  have hdn : decide (0 ≤ a.hand) = false := by simp; omega
  have hdn2 : ¬ 0 ≤ a.hand := by omega
  have hw1 : w.heap.size ≤ w.heap.size + 1 := by omega
  obtain ⟨CX, hCX⟩ : ∃ CX, Tx.cells { a.tx with round := Ln.rnd len a.now, turn := x.turn } = CX := ⟨_, rfl⟩
  rw [hCX] at HX72 HX1 HSet1 ⊢
  obtain ⟨CY, hCY⟩ : ∃ CY, Tx.cells { a.tx with round := Ln.rnd len a.now, turn := 0 } = CY := ⟨_, rfl⟩
  rw [hCY] at HSet0 HSet1 HY72
  generalize Ln.rnd len a.now = q at *
  generalize a.tx.cells = CT at *
  generalize x.turn = tn at *
  generalize a.cells = C at *
  generalize a.now = now at *
  generalize a.hand = hand at *
  generalize a.turn = tf at *
  generalize a.tx.lane = lf at *
  generalize Tx.none.cells = ZT at *
  clear b1 b2 r2 n5 e1 e2 h hrb htb hCX hk htx hk1 hkl hkx c1' e2' hm hBl hgl hCY
  subst hc1 hc2
  go_enter Tryd.func41, Tryd.ntmps41
  go_wp2_with (first
  | ((with_reducible show wpList _ _ _ (⟨_, .load 74 (.tmp 9), _, _, _, _⟩ :: _) _ _); refine wpList_load_tx rfl 74 (.tmp 9) rfl w.heap.size 7 rfl CT _ (H7.out) Tryd.underlying74 rfl (by rw [tx_info, HT72.out]) ?_)
  | (with_reducible show wpList _ _ _ (⟨_, .store 74 (.tmp 5) _, _, _, _, _⟩ :: _) _ _
     refine wpList_store_at rfl 74 (.tmp 5) (.tmp 10) rfl (w.heap.size + 1 + 1) 0 CT ZT _ rfl rfl (HN5.out) (by have := HZ72.out; have := HT72.out; omega) (by rw [tx_info, HT72.out]) HT1.out ?_
     intro w3 hr hg
     rw [splice_all (HT72.out.trans HZ72.out.symm)] at hr
     have hb3 := ((HB2.out.alloc (.cells ZT.toArray 74)).put hg (by omega) (fun x hx => by simp at hx; rcases hx with rfl | rfl <;> (show (_ : Nat) ≠ _; omega))).cons hr
     have HB3 := Lib.hid hb3
     have c4 := (HCa.out _ _ hb3.tl.tl.hd).1
     have c5 := (HCa.out _ _ hb3.tl.tl.hd).2.1
     have c6 := (HCa.out _ _ hb3.tl.tl.hd).2.2
     have t5 := (HCt.out _ _ hb3.hd).1
     have i6 := hb3.hd.cell 6 (by have := HT72.out; omega)
     have i7 := hb3.hd.cell 7 (by have := HT72.out; omega)
     have f6 := hb3.hd.free 6
     have f7 := hb3.hd.free 7
     clear hb3
     clear hr hg))
  refine (HRd.out _ HB3.out.1).mono ?_
  rintro _ w4 ⟨rfl, k4, hw4⟩
  have hb4 : Blocks w w4 [(w.heap.size + 1 + 1, 74, CT), (w.heap.size + 1, 74, ZT), (w.heap.size, 76, C)] := by rw [hw4]; exact HB3.out.step (below_drewN' (Below.refl _ _) k4)
  have i6 := hb4.hd.cell 6 (by have := HT72.out; omega)
  have i7 := hb4.hd.cell 7 (by have := HT72.out; omega)
  have f6 := hb4.hd.free 6
  have f7 := hb4.hd.free 7
  have c5 := (HCa.out _ _ hb4.tl.tl.hd).2.1
  have hr5 := (hb4.hd.set 6 (.int .i64 q) (by have := HT72.out; omega)).set 7 (.int .i64 0) (by rw [List.length_set]; have := HT72.out; omega)
  rw [HSet0.out] at hr5
  have hg5 := (grownBy_set w4 (w.heap.size + 1 + 1) 6 (.int .i64 q)).trans (grownBy_set (w4.setCell ⟨w.heap.size + 1 + 1, 6, none⟩ (.int .i64 q)) (w.heap.size + 1 + 1) 7 (.int .i64 0))
  have hb5 := (hb4.tl.put hg5 (by omega) (fun x hx => by simp at hx; rcases hx with rfl | rfl <;> (show (_ : Nat) ≠ _; omega))).cons hr5
  have HB4 := Lib.hid hb4
  have HB5 := Lib.hid hb5
  clear hw4 hb4 hr5 hg5 hb5
  go_wp2_with fail
  refine (hA.out _ HB5.out.1).mono ?_
  rintro _ w5 ⟨rfl, hw5⟩
  rw [hw5] at HB5
  have c5 := (HCa.out _ _ HB5.out.tl.tl.hd).2.1
  clear hw5 i6 i7 f6 f7
  have c1 := (HEl.out _ HB5.out.1).1
  have e2 := (HEl.out _ HB5.out.1).2
  have i7 := HB5.out.hd.cell 7 (by have := HY72.out; omega)
  have f7 := HB5.out.hd.free 7
  have hr6 := HB5.out.hd.set 7 (.int .i64 tn) (by have := HY72.out; omega)
  rw [HSet1.out] at hr6
  have hg6 := grownBy_set w5 (w.heap.size + 1 + 1) 7 (.int .i64 tn)
  have hb6' := (HB5.out.tl.put hg6 (by omega) (fun x hx => by simp at hx; rcases hx with rfl | rfl <;> (show (_ : Nat) ≠ _; omega))).cons hr6
  have HB5b := Lib.hid hb6'
  have c5' := (HCa.out _ _ hb6'.tl.tl.hd).2.1
  clear hr6 hg6 hb6'
  go_wp2_with (first
  | ((with_reducible show wpList _ _ _ (⟨_, .load 74 (.tmp 5), _, _, _, _⟩ :: _) _ _); refine wpList_load_tx rfl 74 (.tmp 5) rfl (w.heap.size + 1 + 1) 0 rfl CX _ (row_range HB5b.out.hd) Tryd.underlying74 rfl (by rw [tx_info, HX72.out]) ?_)
  | (with_reducible show wpList _ _ _ (⟨_, .store 74 (.tmp 4) _, _, _, _, _⟩ :: _) _ _
     refine wpList_store_at rfl 74 (.tmp 4) (.tmp 51) rfl (w.heap.size + 1) 0 CX ZT _ rfl rfl (HB5b.out.tl.hd) (by have := HZ72.out; have := HX72.out; omega) (by rw [tx_info, HX72.out]) HX1.out ?_
     intro w9 hr hg
     rw [splice_all (HX72.out.trans HZ72.out.symm)] at hr
     have HR9 := Lib.hid hr
     have HB9 := Lib.hid (below_own HB5b.out.1 hg (fun k hk => by cases hk; omega))
     clear hr hg))
  refine bodyPost_ret (results_cell_row rfl _ _ (w.heap.size + 1) 74 CX.toArray (0, 0) _ rfl HR9.out Tryd.underlying74 rfl (by rw [tx_info]; simp [HX72.out])) rfl ⟨rfl, HB9.out⟩
set_option maxHeartbeats 1600000 in
theorem tx16_sok {w : World} {base RB n : Nat} {v : Value} {len : Int} {L : List Ln.H} (a : Act16) (ha : a.Fits) (h : RLaneAt w base RB v len L n) (hn9 : n ≤ 900) (hc1 : a.turn = true) (hc2 : a.tx.lane = true) (x : Ln.H) (hk : Ln.look L (Ln.rnd len a.now) = some x) (hRS : RefSum) (hh : 0 ≤ a.hand) (hhe : (({ a.tx with round := Ln.rnd len a.now, turn := x.turn }).handE a.hand).2 = 0) :
    Calls Tryd.prog 41 #[.pointer (some ⟨RB, 0, none⟩), .agg a.cells.toArray] w fun e w' => e = .returned (.agg ((({ a.tx with round := Ln.rnd len a.now, turn := x.turn }).handE a.hand).1).cells.toArray) ∧ Below w.heap.size w w' := by
  have e1 : (w.alloc (.cells a.cells.toArray 76)).heap.size = w.heap.size + 1 := by simp
  have e2 : ((w.alloc (.cells a.cells.toArray 76)).alloc (.cells Tx.none.cells.toArray 74)).heap.size = w.heap.size + 1 + 1 := by simp
  have b1 : Blocks w (w.alloc (.cells a.cells.toArray 76)) [(w.heap.size, 76, a.cells)] := (Blocks.nil ((Below.refl w.heap.size w).alloc (Nat.le_refl _) _)).cons (Row.new w _ _)
  have r2 := Row.new (w.alloc (.cells a.cells.toArray 76)) 74 Tx.none.cells
  rw [e1] at r2
  have b2 := (b1.alloc (.cells Tx.none.cells.toArray 74)).cons r2
  have n5 := Row.new ((w.alloc (.cells a.cells.toArray 76)).alloc (.cells Tx.none.cells.toArray 74)) 74 Tx.none.cells
  rw [e2] at n5
  have HB2 := Lib.hid b2
  have HN5 := Lib.hid n5
  have HT72 := Lib.hid (Tx.cells_length ha.tx)
  have HT1 := Lib.hid (Tx.cells_one ha.tx)
  have HZ72 := Lib.hid (Tx.cells_length Tx.none_ok)
  have hzv : ∀ W : World, (zeroValue 74).run Tryd.prog W = .ok (.agg Tx.none.cells.toArray) W := tx_zv
  have HCa : Hid (∀ (W : World) (g : Nat), Row W g 76 a.cells → W.cell? ⟨g, 4, none⟩ = some (.int .i64 a.now) ∧ W.cell? ⟨g, 5, none⟩ = some (.int .i64 a.hand) ∧ W.cell? ⟨g, 6, none⟩ = some (.bool a.turn)) := Lib.hid (fun W g h => ⟨by have := row_range h 4 (.int .i64 a.now) rfl; simpa using this, by have := row_range h 5 (.int .i64 a.hand) rfl; simpa using this, by have := row_range h 6 (.bool a.turn) rfl; simpa using this⟩)
  have HCt : Hid (∀ (W : World) (g : Nat), Row W g 74 a.tx.cells → W.cell? ⟨g, 5, none⟩ = some (.bool a.tx.lane) ∧ W.cell? ⟨g, 6, none⟩ = some (.int .i64 a.tx.round)) := Lib.hid (fun W g h => ⟨(tx_box ha.tx h).2.2.2.2.2.1, (tx_box ha.tx h).2.2.2.2.2.2.1⟩)
  have H7 : Hid (((w.alloc (.cells a.cells.toArray 76)).alloc (.cells Tx.none.cells.toArray 74)).rangeAt w.heap.size 7 a.tx.cells) := Lib.hid (fun j v hv => by
    have hr := row_range b2.tl.hd (7 + j) v (by
      have e : a.cells = [.int .i64 a.kind, .int .i64 a.round, .int .i64 a.a, .int .i64 a.b, .int .i64 a.now, .int .i64 a.hand, .bool a.turn] ++ (a.tx.cells ++ []) := rfl
      rw [e, List.getElem?_append_right (by simp), List.append_nil]
      simpa using hv)
    rw [Nat.zero_add] at hr
    exact hr)
  have hrb := Ln.rnd_bounds h.len ha.now
  have htb : ∀ x, Ln.look L (Ln.rnd len a.now) = some x → 0 ≤ x.turn ∧ x.turn ≤ 1000 := fun x hx => by have := h.ok.2 x (Ln.look_mem hx); omega
  have htx := htb x hk
  have HX72 := Lib.hid (Tx.cells_length (mid_ok ha.tx (r := Ln.rnd len a.now) (u := x.turn) (by omega) (by omega) (by omega) (by omega)))
  have HX1 := Lib.hid (Tx.cells_one (mid_ok ha.tx (r := Ln.rnd len a.now) (u := x.turn) (by omega) (by omega) (by omega) (by omega)))
  have HSet0 : Hid ((a.tx.cells.set 6 (.int .i64 (Ln.rnd len a.now))).set 7 (.int .i64 0) = Tx.cells { a.tx with round := Ln.rnd len a.now, turn := 0 }) := Lib.hid rfl
  have HY72 := Lib.hid (Tx.cells_length (mid_ok ha.tx (r := Ln.rnd len a.now) (u := 0) (by omega) (by omega) (by omega) (by omega)))
  have HSet1 : Hid ((Tx.cells { a.tx with round := Ln.rnd len a.now, turn := 0 }).set 7 (.int .i64 x.turn) = Tx.cells { a.tx with round := Ln.rnd len a.now, turn := x.turn }) := Lib.hid rfl
  have HRd : Hid (∀ W, Below w.heap.size w W → Calls Tryd.prog 37 #[.pointer (some ⟨RB, 0, none⟩), .int .i64 a.now] W fun e w' => e = .returned (.int .i64 (Ln.rnd len a.now)) ∧ ∃ k, w' = W.drewN k) := Lib.hid (fun W hW => rround_any a.now (h.below hW) ha.now.2)
  have hA : Hid (∀ W, Below w.heap.size w W → Calls Tryd.prog 39 #[.pointer (some ⟨RB, 0, none⟩), .int .i64 (Ln.rnd len a.now)] W fun e w' => e = .returned (.int .i64 (Ln.atI L (Ln.rnd len a.now))) ∧ W = w') := Lib.hid (fun W hW => rat_any _ (h.below hW) (by omega))
  obtain ⟨k, hk1, _, hkl, hkx⟩ := Ln.atI_pos hk
  rw [hk1] at hA
  obtain ⟨g, c, rfl, _, hgl⟩ := h.own.ne (by intro e; rw [e] at hkl; simp at hkl)
  have c1' := h.c1
  have e2' := h.own.cell (Ln.hc_len L) k hkl 2 (.int .i64 x.turn) (by rw [hkx]; rfl)
  obtain ⟨m, hm⟩ : ∃ m, m = L.length := ⟨_, rfl⟩
  have hki : (k : Int) < (m : Int) := by omega
  have hkn : (0 : Int) ≤ (k : Int) := by omega
  rw [← hm] at c1'
  have hBl := h.row.lt
  have HEl : Hid (∀ W, Below w.heap.size w W → W.cell? ⟨RB, 1, none⟩ = some (.slice (some ⟨g, 0, none⟩) m c) ∧ W.cell? ⟨g, k * 3 + 2, none⟩ = some (.int .i64 x.turn)) := Lib.hid (fun W hW => ⟨(hW.cell (p := ⟨RB, 1, none⟩) hBl).trans c1', (hW.cell (p := ⟨g, k * 3 + 2, none⟩) hgl).trans e2'⟩)
  have HHd : Hid (∀ W, Calls Tryd.prog 62 #[.agg ({ a.tx with round := Ln.rnd len a.now, turn := x.turn }).cells.toArray, .int .i64 a.hand] W fun e w' => e = .returned (.tuple #[.agg (({ a.tx with round := Ln.rnd len a.now, turn := x.turn }).handE a.hand).1.cells.toArray, .int .i64 (({ a.tx with round := Ln.rnd len a.now, turn := x.turn }).handE a.hand).2]) ∧ Below W.heap.size W w') := Lib.hid (fun W => rhand4_any hRS ({ a.tx with round := Ln.rnd len a.now, turn := x.turn }) (mid_ok ha.tx (by omega) (by omega) (by omega) (by omega)) a.hand W)
  have hdok : (({ a.tx with round := Ln.rnd len a.now, turn := x.turn }).handE a.hand).1.Ok := handE_ok (mid_ok ha.tx (by omega) (by omega) (by omega) (by omega)) a.hand
  have HD72 := Lib.hid (Tx.cells_length hdok)
  have HD1 := Lib.hid (Tx.cells_one hdok)
  obtain ⟨R, hR⟩ : ∃ R, ({ a.tx with round := Ln.rnd len a.now, turn := x.turn }).handE a.hand = R := ⟨_, rfl⟩
  rw [hR] at hhe HHd HD72 HD1 ⊢
  obtain ⟨d, de⟩ := R
  simp only at hhe HHd HD72 HD1 ⊢
  have hdn : decide (0 ≤ a.hand) = true := by simp; omega
  subst hhe
  have hw1 : w.heap.size ≤ w.heap.size + 1 := by omega
  obtain ⟨CX, hCX⟩ : ∃ CX, Tx.cells { a.tx with round := Ln.rnd len a.now, turn := x.turn } = CX := ⟨_, rfl⟩
  rw [hCX] at HX72 HX1 HSet1 HHd
  obtain ⟨CY, hCY⟩ : ∃ CY, Tx.cells { a.tx with round := Ln.rnd len a.now, turn := 0 } = CY := ⟨_, rfl⟩
  rw [hCY] at HSet0 HSet1 HY72
  generalize Ln.rnd len a.now = q at *
  generalize a.tx.cells = CT at *
  generalize x.turn = tn at *
  generalize d.cells = D at *
  generalize a.cells = C at *
  generalize a.now = now at *
  generalize a.hand = hand at *
  generalize a.turn = tf at *
  generalize a.tx.lane = lf at *
  generalize Tx.none.cells = ZT at *
  clear b1 b2 r2 n5 e1 e2 h hrb htb hCX hk htx hk1 hkl hkx c1' e2' hm hBl hgl hCY hR hdok
  subst hc1 hc2
  go_enter Tryd.func41, Tryd.ntmps41
  go_wp2_with (first
  | ((with_reducible show wpList _ _ _ (⟨_, .load 74 (.tmp 9), _, _, _, _⟩ :: _) _ _); refine wpList_load_tx rfl 74 (.tmp 9) rfl w.heap.size 7 rfl CT _ (H7.out) Tryd.underlying74 rfl (by rw [tx_info, HT72.out]) ?_)
  | (with_reducible show wpList _ _ _ (⟨_, .store 74 (.tmp 5) _, _, _, _, _⟩ :: _) _ _
     refine wpList_store_at rfl 74 (.tmp 5) (.tmp 10) rfl (w.heap.size + 1 + 1) 0 CT ZT _ rfl rfl (HN5.out) (by have := HZ72.out; have := HT72.out; omega) (by rw [tx_info, HT72.out]) HT1.out ?_
     intro w3 hr hg
     rw [splice_all (HT72.out.trans HZ72.out.symm)] at hr
     have hb3 := ((HB2.out.alloc (.cells ZT.toArray 74)).put hg (by omega) (fun x hx => by simp at hx; rcases hx with rfl | rfl <;> (show (_ : Nat) ≠ _; omega))).cons hr
     have HB3 := Lib.hid hb3
     have c4 := (HCa.out _ _ hb3.tl.tl.hd).1
     have c5 := (HCa.out _ _ hb3.tl.tl.hd).2.1
     have c6 := (HCa.out _ _ hb3.tl.tl.hd).2.2
     have t5 := (HCt.out _ _ hb3.hd).1
     have i6 := hb3.hd.cell 6 (by have := HT72.out; omega)
     have i7 := hb3.hd.cell 7 (by have := HT72.out; omega)
     have f6 := hb3.hd.free 6
     have f7 := hb3.hd.free 7
     clear hb3
     clear hr hg))
  refine (HRd.out _ HB3.out.1).mono ?_
  rintro _ w4 ⟨rfl, k4, hw4⟩
  have hb4 : Blocks w w4 [(w.heap.size + 1 + 1, 74, CT), (w.heap.size + 1, 74, ZT), (w.heap.size, 76, C)] := by rw [hw4]; exact HB3.out.step (below_drewN' (Below.refl _ _) k4)
  have i6 := hb4.hd.cell 6 (by have := HT72.out; omega)
  have i7 := hb4.hd.cell 7 (by have := HT72.out; omega)
  have f6 := hb4.hd.free 6
  have f7 := hb4.hd.free 7
  have c5 := (HCa.out _ _ hb4.tl.tl.hd).2.1
  have hr5 := (hb4.hd.set 6 (.int .i64 q) (by have := HT72.out; omega)).set 7 (.int .i64 0) (by rw [List.length_set]; have := HT72.out; omega)
  rw [HSet0.out] at hr5
  have hg5 := (grownBy_set w4 (w.heap.size + 1 + 1) 6 (.int .i64 q)).trans (grownBy_set (w4.setCell ⟨w.heap.size + 1 + 1, 6, none⟩ (.int .i64 q)) (w.heap.size + 1 + 1) 7 (.int .i64 0))
  have hb5 := (hb4.tl.put hg5 (by omega) (fun x hx => by simp at hx; rcases hx with rfl | rfl <;> (show (_ : Nat) ≠ _; omega))).cons hr5
  have HB4 := Lib.hid hb4
  have HB5 := Lib.hid hb5
  clear hw4 hb4 hr5 hg5 hb5
  go_wp2_with fail
  refine (hA.out _ HB5.out.1).mono ?_
  rintro _ w5 ⟨rfl, hw5⟩
  rw [hw5] at HB5
  have c5 := (HCa.out _ _ HB5.out.tl.tl.hd).2.1
  clear hw5 i6 i7 f6 f7
  have c1 := (HEl.out _ HB5.out.1).1
  have e2 := (HEl.out _ HB5.out.1).2
  have i7 := HB5.out.hd.cell 7 (by have := HY72.out; omega)
  have f7 := HB5.out.hd.free 7
  have hr6 := HB5.out.hd.set 7 (.int .i64 tn) (by have := HY72.out; omega)
  rw [HSet1.out] at hr6
  have hg6 := grownBy_set w5 (w.heap.size + 1 + 1) 7 (.int .i64 tn)
  have hb6' := (HB5.out.tl.put hg6 (by omega) (fun x hx => by simp at hx; rcases hx with rfl | rfl <;> (show (_ : Nat) ≠ _; omega))).cons hr6
  have HB5b := Lib.hid hb6'
  have c5' := (HCa.out _ _ hb6'.tl.tl.hd).2.1
  clear hr6 hg6 hb6'
  go_wp2_with (first
  | ((with_reducible show wpList _ _ _ (⟨_, .load 74 (.tmp 5), _, _, _, _⟩ :: _) _ _); refine wpList_load_tx rfl 74 (.tmp 5) rfl (w.heap.size + 1 + 1) 0 rfl CX _ (row_range HB5b.out.hd) Tryd.underlying74 rfl (by rw [tx_info, HX72.out]) ?_))
  refine (HHd.out _).mono ?_
  rintro _ w6 ⟨rfl, hb6⟩
  have HB6 := Lib.hid (HB5b.out.step hb6)
  have HN7 := Lib.hid (Row.new w6 74 ZT)
  clear hb6
  go_wp2_with (first
  | (with_reducible show wpList _ _ _ (⟨_, .store 74 (.tmp 7) _, _, _, _, _⟩ :: _) _ _
     refine wpList_store_at rfl 74 (.tmp 7) (.tmp 46) rfl w6.heap.size 0 D ZT _ rfl rfl (HN7.out) (by have := HZ72.out; have := HD72.out; omega) (by rw [tx_info, HD72.out]) HD1.out ?_
     intro w7 hr hg
     rw [splice_all (HD72.out.trans HZ72.out.symm)] at hr
     have hb7 := ((HB6.out.alloc (.cells ZT.toArray 74)).put hg HB6.out.size HB6.out.fresh).cons hr
     have HB7 := Lib.hid hb7
     have hne7 : w6.heap.size ≠ (w.heap.size + 1 + 1) := fun e => HB6.out.fresh _ List.mem_cons_self e.symm
     have Hne7 := Lib.hid hne7
     clear hb7 hne7
     clear hr hg)
  | ((with_reducible show wpList _ _ _ (⟨_, .load 74 (.tmp 7), _, _, _, _⟩ :: _) _ _); refine wpList_load_tx rfl 74 (.tmp 7) rfl w6.heap.size 0 rfl D _ (row_range HB7.out.hd) Tryd.underlying74 rfl (by rw [tx_info, HD72.out]) ?_)
  | (with_reducible show wpList _ _ _ (⟨_, .store 74 (.tmp 5) _, _, _, _, _⟩ :: _) _ _
     refine wpList_store_at rfl 74 (.tmp 5) (.tmp 50) rfl (w.heap.size + 1 + 1) 0 D CX _ rfl rfl (HB7.out.tl.hd) (by have := HX72.out; have := HD72.out; omega) (by rw [tx_info, HD72.out]) HD1.out ?_
     intro w8 hr hg
     rw [splice_all (HD72.out.trans HX72.out.symm)] at hr
     have HR8 := Lib.hid hr
     have HZ8 := Lib.hid (HB7.out.tl.tl.hd.kept hg (by simp))
     have HB8 := Lib.hid (below_own HB7.out.1 hg (fun k hk => by cases hk; omega))
     clear hr hg)
  | ((with_reducible show wpList _ _ _ (⟨_, .load 74 (.tmp 5), _, _, _, _⟩ :: _) _ _); refine wpList_load_tx rfl 74 (.tmp 5) rfl (w.heap.size + 1 + 1) 0 rfl D _ (row_range HR8.out) Tryd.underlying74 rfl (by rw [tx_info, HD72.out]) ?_)
  | (with_reducible show wpList _ _ _ (⟨_, .store 74 (.tmp 4) _, _, _, _, _⟩ :: _) _ _
     refine wpList_store_at rfl 74 (.tmp 4) (.tmp 51) rfl (w.heap.size + 1) 0 D ZT _ rfl rfl (HZ8.out) (by have := HZ72.out; have := HD72.out; omega) (by rw [tx_info, HD72.out]) HD1.out ?_
     intro w9 hr hg
     rw [splice_all (HD72.out.trans HZ72.out.symm)] at hr
     have HR9 := Lib.hid hr
     have HB9 := Lib.hid (below_own HB8.out hg (fun k hk => by cases hk; omega))
     clear hr hg))
  refine bodyPost_ret (results_cell_row rfl _ _ (w.heap.size + 1) 74 D.toArray (0, 0) _ rfl HR9.out Tryd.underlying74 rfl (by rw [tx_info]; simp [HD72.out])) rfl ⟨rfl, HB9.out⟩
set_option maxHeartbeats 1600000 in
theorem tx16_sbad {w : World} {base RB n : Nat} {v : Value} {len : Int} {L : List Ln.H} (a : Act16) (ha : a.Fits) (h : RLaneAt w base RB v len L n) (hn9 : n ≤ 900) (hc1 : a.turn = true) (hc2 : a.tx.lane = true) (x : Ln.H) (hk : Ln.look L (Ln.rnd len a.now) = some x) (hRS : RefSum) (hh : 0 ≤ a.hand) (hhe : (({ a.tx with round := Ln.rnd len a.now, turn := x.turn }).handE a.hand).2 ≠ 0) :
    Calls Tryd.prog 41 #[.pointer (some ⟨RB, 0, none⟩), .agg a.cells.toArray] w fun e w' => e = .returned (.agg ({ a.tx with round := Ln.rnd len a.now, turn := x.turn }).cells.toArray) ∧ Below w.heap.size w w' := by
  have e1 : (w.alloc (.cells a.cells.toArray 76)).heap.size = w.heap.size + 1 := by simp
  have e2 : ((w.alloc (.cells a.cells.toArray 76)).alloc (.cells Tx.none.cells.toArray 74)).heap.size = w.heap.size + 1 + 1 := by simp
  have b1 : Blocks w (w.alloc (.cells a.cells.toArray 76)) [(w.heap.size, 76, a.cells)] := (Blocks.nil ((Below.refl w.heap.size w).alloc (Nat.le_refl _) _)).cons (Row.new w _ _)
  have r2 := Row.new (w.alloc (.cells a.cells.toArray 76)) 74 Tx.none.cells
  rw [e1] at r2
  have b2 := (b1.alloc (.cells Tx.none.cells.toArray 74)).cons r2
  have n5 := Row.new ((w.alloc (.cells a.cells.toArray 76)).alloc (.cells Tx.none.cells.toArray 74)) 74 Tx.none.cells
  rw [e2] at n5
  have HB2 := Lib.hid b2
  have HN5 := Lib.hid n5
  have HT72 := Lib.hid (Tx.cells_length ha.tx)
  have HT1 := Lib.hid (Tx.cells_one ha.tx)
  have HZ72 := Lib.hid (Tx.cells_length Tx.none_ok)
  have hzv : ∀ W : World, (zeroValue 74).run Tryd.prog W = .ok (.agg Tx.none.cells.toArray) W := tx_zv
  have HCa : Hid (∀ (W : World) (g : Nat), Row W g 76 a.cells → W.cell? ⟨g, 4, none⟩ = some (.int .i64 a.now) ∧ W.cell? ⟨g, 5, none⟩ = some (.int .i64 a.hand) ∧ W.cell? ⟨g, 6, none⟩ = some (.bool a.turn)) := Lib.hid (fun W g h => ⟨by have := row_range h 4 (.int .i64 a.now) rfl; simpa using this, by have := row_range h 5 (.int .i64 a.hand) rfl; simpa using this, by have := row_range h 6 (.bool a.turn) rfl; simpa using this⟩)
  have HCt : Hid (∀ (W : World) (g : Nat), Row W g 74 a.tx.cells → W.cell? ⟨g, 5, none⟩ = some (.bool a.tx.lane) ∧ W.cell? ⟨g, 6, none⟩ = some (.int .i64 a.tx.round)) := Lib.hid (fun W g h => ⟨(tx_box ha.tx h).2.2.2.2.2.1, (tx_box ha.tx h).2.2.2.2.2.2.1⟩)
  have H7 : Hid (((w.alloc (.cells a.cells.toArray 76)).alloc (.cells Tx.none.cells.toArray 74)).rangeAt w.heap.size 7 a.tx.cells) := Lib.hid (fun j v hv => by
    have hr := row_range b2.tl.hd (7 + j) v (by
      have e : a.cells = [.int .i64 a.kind, .int .i64 a.round, .int .i64 a.a, .int .i64 a.b, .int .i64 a.now, .int .i64 a.hand, .bool a.turn] ++ (a.tx.cells ++ []) := rfl
      rw [e, List.getElem?_append_right (by simp), List.append_nil]
      simpa using hv)
    rw [Nat.zero_add] at hr
    exact hr)
  have hrb := Ln.rnd_bounds h.len ha.now
  have htb : ∀ x, Ln.look L (Ln.rnd len a.now) = some x → 0 ≤ x.turn ∧ x.turn ≤ 1000 := fun x hx => by have := h.ok.2 x (Ln.look_mem hx); omega
  have htx := htb x hk
  have HX72 := Lib.hid (Tx.cells_length (mid_ok ha.tx (r := Ln.rnd len a.now) (u := x.turn) (by omega) (by omega) (by omega) (by omega)))
  have HX1 := Lib.hid (Tx.cells_one (mid_ok ha.tx (r := Ln.rnd len a.now) (u := x.turn) (by omega) (by omega) (by omega) (by omega)))
  have HSet0 : Hid ((a.tx.cells.set 6 (.int .i64 (Ln.rnd len a.now))).set 7 (.int .i64 0) = Tx.cells { a.tx with round := Ln.rnd len a.now, turn := 0 }) := Lib.hid rfl
  have HY72 := Lib.hid (Tx.cells_length (mid_ok ha.tx (r := Ln.rnd len a.now) (u := 0) (by omega) (by omega) (by omega) (by omega)))
  have HSet1 : Hid ((Tx.cells { a.tx with round := Ln.rnd len a.now, turn := 0 }).set 7 (.int .i64 x.turn) = Tx.cells { a.tx with round := Ln.rnd len a.now, turn := x.turn }) := Lib.hid rfl
  have HRd : Hid (∀ W, Below w.heap.size w W → Calls Tryd.prog 37 #[.pointer (some ⟨RB, 0, none⟩), .int .i64 a.now] W fun e w' => e = .returned (.int .i64 (Ln.rnd len a.now)) ∧ ∃ k, w' = W.drewN k) := Lib.hid (fun W hW => rround_any a.now (h.below hW) ha.now.2)
  have hA : Hid (∀ W, Below w.heap.size w W → Calls Tryd.prog 39 #[.pointer (some ⟨RB, 0, none⟩), .int .i64 (Ln.rnd len a.now)] W fun e w' => e = .returned (.int .i64 (Ln.atI L (Ln.rnd len a.now))) ∧ W = w') := Lib.hid (fun W hW => rat_any _ (h.below hW) (by omega))
  obtain ⟨k, hk1, _, hkl, hkx⟩ := Ln.atI_pos hk
  rw [hk1] at hA
  obtain ⟨g, c, rfl, _, hgl⟩ := h.own.ne (by intro e; rw [e] at hkl; simp at hkl)
  have c1' := h.c1
  have e2' := h.own.cell (Ln.hc_len L) k hkl 2 (.int .i64 x.turn) (by rw [hkx]; rfl)
  obtain ⟨m, hm⟩ : ∃ m, m = L.length := ⟨_, rfl⟩
  have hki : (k : Int) < (m : Int) := by omega
  have hkn : (0 : Int) ≤ (k : Int) := by omega
  rw [← hm] at c1'
  have hBl := h.row.lt
  have HEl : Hid (∀ W, Below w.heap.size w W → W.cell? ⟨RB, 1, none⟩ = some (.slice (some ⟨g, 0, none⟩) m c) ∧ W.cell? ⟨g, k * 3 + 2, none⟩ = some (.int .i64 x.turn)) := Lib.hid (fun W hW => ⟨(hW.cell (p := ⟨RB, 1, none⟩) hBl).trans c1', (hW.cell (p := ⟨g, k * 3 + 2, none⟩) hgl).trans e2'⟩)
  have HHd : Hid (∀ W, Calls Tryd.prog 62 #[.agg ({ a.tx with round := Ln.rnd len a.now, turn := x.turn }).cells.toArray, .int .i64 a.hand] W fun e w' => e = .returned (.tuple #[.agg (({ a.tx with round := Ln.rnd len a.now, turn := x.turn }).handE a.hand).1.cells.toArray, .int .i64 (({ a.tx with round := Ln.rnd len a.now, turn := x.turn }).handE a.hand).2]) ∧ Below W.heap.size W w') := Lib.hid (fun W => rhand4_any hRS ({ a.tx with round := Ln.rnd len a.now, turn := x.turn }) (mid_ok ha.tx (by omega) (by omega) (by omega) (by omega)) a.hand W)
  have hdok : (({ a.tx with round := Ln.rnd len a.now, turn := x.turn }).handE a.hand).1.Ok := handE_ok (mid_ok ha.tx (by omega) (by omega) (by omega) (by omega)) a.hand
  have HD72 := Lib.hid (Tx.cells_length hdok)
  have HD1 := Lib.hid (Tx.cells_one hdok)
  obtain ⟨R, hR⟩ : ∃ R, ({ a.tx with round := Ln.rnd len a.now, turn := x.turn }).handE a.hand = R := ⟨_, rfl⟩
  rw [hR] at hhe HHd HD72 HD1
  obtain ⟨d, de⟩ := R
  simp only at hhe HHd HD72 HD1
  have hdn : decide (0 ≤ a.hand) = true := by simp; omega
  have heb : (de == 0) = false := by simpa using hhe
  have hw1 : w.heap.size ≤ w.heap.size + 1 := by omega
  obtain ⟨CX, hCX⟩ : ∃ CX, Tx.cells { a.tx with round := Ln.rnd len a.now, turn := x.turn } = CX := ⟨_, rfl⟩
  rw [hCX] at HX72 HX1 HSet1 HHd ⊢
  obtain ⟨CY, hCY⟩ : ∃ CY, Tx.cells { a.tx with round := Ln.rnd len a.now, turn := 0 } = CY := ⟨_, rfl⟩
  rw [hCY] at HSet0 HSet1 HY72
  generalize Ln.rnd len a.now = q at *
  generalize a.tx.cells = CT at *
  generalize x.turn = tn at *
  generalize d.cells = D at *
  generalize a.cells = C at *
  generalize a.now = now at *
  generalize a.hand = hand at *
  generalize a.turn = tf at *
  generalize a.tx.lane = lf at *
  generalize Tx.none.cells = ZT at *
  clear b1 b2 r2 n5 e1 e2 h hrb htb hCX hk htx hk1 hkl hkx c1' e2' hm hBl hgl hCY hR hdok hhe
  subst hc1 hc2
  go_enter Tryd.func41, Tryd.ntmps41
  go_wp2_with (first
  | ((with_reducible show wpList _ _ _ (⟨_, .load 74 (.tmp 9), _, _, _, _⟩ :: _) _ _); refine wpList_load_tx rfl 74 (.tmp 9) rfl w.heap.size 7 rfl CT _ (H7.out) Tryd.underlying74 rfl (by rw [tx_info, HT72.out]) ?_)
  | (with_reducible show wpList _ _ _ (⟨_, .store 74 (.tmp 5) _, _, _, _, _⟩ :: _) _ _
     refine wpList_store_at rfl 74 (.tmp 5) (.tmp 10) rfl (w.heap.size + 1 + 1) 0 CT ZT _ rfl rfl (HN5.out) (by have := HZ72.out; have := HT72.out; omega) (by rw [tx_info, HT72.out]) HT1.out ?_
     intro w3 hr hg
     rw [splice_all (HT72.out.trans HZ72.out.symm)] at hr
     have hb3 := ((HB2.out.alloc (.cells ZT.toArray 74)).put hg (by omega) (fun x hx => by simp at hx; rcases hx with rfl | rfl <;> (show (_ : Nat) ≠ _; omega))).cons hr
     have HB3 := Lib.hid hb3
     have c4 := (HCa.out _ _ hb3.tl.tl.hd).1
     have c5 := (HCa.out _ _ hb3.tl.tl.hd).2.1
     have c6 := (HCa.out _ _ hb3.tl.tl.hd).2.2
     have t5 := (HCt.out _ _ hb3.hd).1
     have i6 := hb3.hd.cell 6 (by have := HT72.out; omega)
     have i7 := hb3.hd.cell 7 (by have := HT72.out; omega)
     have f6 := hb3.hd.free 6
     have f7 := hb3.hd.free 7
     clear hb3
     clear hr hg))
  refine (HRd.out _ HB3.out.1).mono ?_
  rintro _ w4 ⟨rfl, k4, hw4⟩
  have hb4 : Blocks w w4 [(w.heap.size + 1 + 1, 74, CT), (w.heap.size + 1, 74, ZT), (w.heap.size, 76, C)] := by rw [hw4]; exact HB3.out.step (below_drewN' (Below.refl _ _) k4)
  have i6 := hb4.hd.cell 6 (by have := HT72.out; omega)
  have i7 := hb4.hd.cell 7 (by have := HT72.out; omega)
  have f6 := hb4.hd.free 6
  have f7 := hb4.hd.free 7
  have c5 := (HCa.out _ _ hb4.tl.tl.hd).2.1
  have hr5 := (hb4.hd.set 6 (.int .i64 q) (by have := HT72.out; omega)).set 7 (.int .i64 0) (by rw [List.length_set]; have := HT72.out; omega)
  rw [HSet0.out] at hr5
  have hg5 := (grownBy_set w4 (w.heap.size + 1 + 1) 6 (.int .i64 q)).trans (grownBy_set (w4.setCell ⟨w.heap.size + 1 + 1, 6, none⟩ (.int .i64 q)) (w.heap.size + 1 + 1) 7 (.int .i64 0))
  have hb5 := (hb4.tl.put hg5 (by omega) (fun x hx => by simp at hx; rcases hx with rfl | rfl <;> (show (_ : Nat) ≠ _; omega))).cons hr5
  have HB4 := Lib.hid hb4
  have HB5 := Lib.hid hb5
  clear hw4 hb4 hr5 hg5 hb5
  go_wp2_with fail
  refine (hA.out _ HB5.out.1).mono ?_
  rintro _ w5 ⟨rfl, hw5⟩
  rw [hw5] at HB5
  have c5 := (HCa.out _ _ HB5.out.tl.tl.hd).2.1
  clear hw5 i6 i7 f6 f7
  have c1 := (HEl.out _ HB5.out.1).1
  have e2 := (HEl.out _ HB5.out.1).2
  have i7 := HB5.out.hd.cell 7 (by have := HY72.out; omega)
  have f7 := HB5.out.hd.free 7
  have hr6 := HB5.out.hd.set 7 (.int .i64 tn) (by have := HY72.out; omega)
  rw [HSet1.out] at hr6
  have hg6 := grownBy_set w5 (w.heap.size + 1 + 1) 7 (.int .i64 tn)
  have hb6' := (HB5.out.tl.put hg6 (by omega) (fun x hx => by simp at hx; rcases hx with rfl | rfl <;> (show (_ : Nat) ≠ _; omega))).cons hr6
  have HB5b := Lib.hid hb6'
  have c5' := (HCa.out _ _ hb6'.tl.tl.hd).2.1
  clear hr6 hg6 hb6'
  go_wp2_with (first
  | ((with_reducible show wpList _ _ _ (⟨_, .load 74 (.tmp 5), _, _, _, _⟩ :: _) _ _); refine wpList_load_tx rfl 74 (.tmp 5) rfl (w.heap.size + 1 + 1) 0 rfl CX _ (row_range HB5b.out.hd) Tryd.underlying74 rfl (by rw [tx_info, HX72.out]) ?_))
  refine (HHd.out _).mono ?_
  rintro _ w6 ⟨rfl, hb6⟩
  have HB6 := Lib.hid (HB5b.out.step hb6)
  have HN7 := Lib.hid (Row.new w6 74 ZT)
  clear hb6
  go_wp2_with (first
  | (with_reducible show wpList _ _ _ (⟨_, .store 74 (.tmp 7) _, _, _, _, _⟩ :: _) _ _
     refine wpList_store_at rfl 74 (.tmp 7) (.tmp 46) rfl w6.heap.size 0 D ZT _ rfl rfl (HN7.out) (by have := HZ72.out; have := HD72.out; omega) (by rw [tx_info, HD72.out]) HD1.out ?_
     intro w7 hr hg
     rw [splice_all (HD72.out.trans HZ72.out.symm)] at hr
     have hb7 := ((HB6.out.alloc (.cells ZT.toArray 74)).put hg HB6.out.size HB6.out.fresh).cons hr
     have HB7 := Lib.hid hb7
     have hne7 : w6.heap.size ≠ (w.heap.size + 1 + 1) := fun e => HB6.out.fresh _ List.mem_cons_self e.symm
     have Hne7 := Lib.hid hne7
     clear hb7 hne7
     clear hr hg)
  | ((with_reducible show wpList _ _ _ (⟨_, .load 74 (.tmp 5), _, _, _, _⟩ :: _) _ _); refine wpList_load_tx rfl 74 (.tmp 5) rfl (w.heap.size + 1 + 1) 0 rfl CX _ (row_range HB7.out.tl.hd) Tryd.underlying74 rfl (by rw [tx_info, HX72.out]) ?_)
  | (with_reducible show wpList _ _ _ (⟨_, .store 74 (.tmp 4) _, _, _, _, _⟩ :: _) _ _
     refine wpList_store_at rfl 74 (.tmp 4) (.tmp 51) rfl (w.heap.size + 1) 0 CX ZT _ rfl rfl (HB7.out.tl.tl.hd) (by have := HZ72.out; have := HX72.out; omega) (by rw [tx_info, HX72.out]) HX1.out ?_
     intro w9 hr hg
     rw [splice_all (HX72.out.trans HZ72.out.symm)] at hr
     have HR9 := Lib.hid hr
     have HB9 := Lib.hid (below_own HB7.out.1 hg (fun k hk => by cases hk; omega))
     clear hr hg))
  refine bodyPost_ret (results_cell_row rfl _ _ (w.heap.size + 1) 74 CX.toArray (0, 0) _ rfl HR9.out Tryd.underlying74 rfl (by rw [tx_info]; simp [HX72.out])) rfl ⟨rfl, HB9.out⟩
/-- the law's transaction, ahead of who hands it in -/
def Ln.midE (len : Int) (L : List Ln.H) (a : Act16) : Tx := if a.turn = true ∧ a.tx.lane = true then { a.tx with round := Ln.rnd len a.now, turn := Ln.turnOf L (Ln.rnd len a.now) } else a.tx
def Ln.txE (len : Int) (L : List Ln.H) (a : Act16) : Tx := if 0 ≤ a.hand ∧ ((Ln.midE len L a).handE a.hand).2 = 0 then ((Ln.midE len L a).handE a.hand).1 else Ln.midE len L a
theorem Ln.turn_bounds {n : Nat} {L : List Ln.H} (h : Ln.Ok n L) (hn : n ≤ 1000) (r : Int) : 0 ≤ Ln.turnOf L r ∧ Ln.turnOf L r ≤ 1000 := by
  unfold Ln.turnOf
  split
  · omega
  · next x hx => have := h.2 x (Ln.look_mem hx); omega
theorem Ln.midE_ok {n : Nat} {len : Int} {L : List Ln.H} (h : Ln.Ok n L) (hn : n ≤ 1000) (hl : 1 ≤ len ∧ len ≤ 1099511627776) {a : Act16} (ha : a.Fits) : (Ln.midE len L a).Ok := by
  unfold Ln.midE
  split
  · have h1 := Ln.rnd_bounds hl ha.now
    have h2 := Ln.turn_bounds h hn (Ln.rnd len a.now)
    exact mid_ok ha.tx h1.1 h1.2 h2.1 h2.2
  · exact ha.tx
theorem Ln.txE_ok {n : Nat} {len : Int} {L : List Ln.H} (h : Ln.Ok n L) (hn : n ≤ 1000) (hl : 1 ≤ len ∧ len ≤ 1099511627776) {a : Act16} (ha : a.Fits) : (Ln.txE len L a).Ok := by
  unfold Ln.txE
  split
  · exact handE_ok (Ln.midE_ok h hn hl ha) _
  · exact Ln.midE_ok h hn hl ha
theorem tx16_any (hRS : RefSum) {w : World} {base RB n : Nat} {v : Value} {len : Int} {L : List Ln.H} (a : Act16) (ha : a.Fits) (h : RLaneAt w base RB v len L n) (hn9 : n ≤ 900) :
    Calls Tryd.prog 41 #[.pointer (some ⟨RB, 0, none⟩), .agg a.cells.toArray] w fun e w' => e = .returned (.agg (Ln.txE len L a).cells.toArray) ∧ Below w.heap.size w w' := by
  unfold Ln.txE
  by_cases hm : a.turn = true ∧ a.tx.lane = true
  · have em : Ln.midE len L a = { a.tx with round := Ln.rnd len a.now, turn := Ln.turnOf L (Ln.rnd len a.now) } := if_pos hm
    rw [em]
    rcases hk : Ln.look L (Ln.rnd len a.now) with _ | x
    · have eu : Ln.turnOf L (Ln.rnd len a.now) = 0 := by unfold Ln.turnOf; rw [hk]
      rw [eu]
      by_cases hh : 0 ≤ a.hand
      · by_cases hhe : (Tx.handE { a.tx with round := Ln.rnd len a.now, turn := 0 } a.hand).2 = 0
        · rw [if_pos ⟨hh, hhe⟩]; exact tx16_nok a ha h hn9 hm.1 hm.2 hk hRS hh hhe
        · rw [if_neg (fun q => hhe q.2)]; exact tx16_nbad a ha h hn9 hm.1 hm.2 hk hRS hh hhe
      · rw [if_neg (fun q => hh q.1)]; exact tx16_nneg a ha h hn9 hm.1 hm.2 hk (by omega)
    · have eu : Ln.turnOf L (Ln.rnd len a.now) = x.turn := by unfold Ln.turnOf; rw [hk]
      rw [eu]
      by_cases hh : 0 ≤ a.hand
      · by_cases hhe : (Tx.handE { a.tx with round := Ln.rnd len a.now, turn := x.turn } a.hand).2 = 0
        · rw [if_pos ⟨hh, hhe⟩]; exact tx16_sok a ha h hn9 hm.1 hm.2 x hk hRS hh hhe
        · rw [if_neg (fun q => hhe q.2)]; exact tx16_sbad a ha h hn9 hm.1 hm.2 x hk hRS hh hhe
      · rw [if_neg (fun q => hh q.1)]; exact tx16_sneg a ha h hn9 hm.1 hm.2 x hk (by omega)
  · have em : Ln.midE len L a = a.tx := if_neg hm
    rw [em]
    have hc : a.turn = false ∨ a.tx.lane = false := by
      cases h1 : a.turn
      · exact .inl rfl
      · cases h2 : a.tx.lane
        · exact .inr rfl
        · exact absurd ⟨h1, h2⟩ hm
    by_cases hh : 0 ≤ a.hand
    · by_cases hhe : (a.tx.handE a.hand).2 = 0
      · rw [if_pos ⟨hh, hhe⟩]; exact tx16_bok a ha h hn9 hc hRS hh hhe
      · rw [if_neg (fun q => hhe q.2)]; exact tx16_bbad a ha h hn9 hc hRS hh hhe
    · rw [if_neg (fun q => hh q.1)]; exact tx16_bneg a ha h hn9 hc (by omega)
end Go.Proofs.YtlapmdgkcidhnaaDoor
