/- The laws NotesItems, NotesReceipts, NotesBids: what their functions return. -/
import Derived.Test.YtdekcicgiflnbaaDoorNoAwk
namespace Go.Proofs.YtdekcicgiflnbaaDoor
open Go.RowKit
set_option linter.unusedVariables false
set_option linter.unusedSimpArgs false

set_option maxRecDepth 20000 in
theorem notesItems_any (i : It) (w : World) (hT : Tab w) :
    Calls Tryd.prog 10 #[i.v] w fun e w' => e = .returned (.bool true) ∧ Below w.heap.size w w' := by
  have WI : Hid (∀ W, Calls Tryd.prog 43 #[.agg i.cells.toArray] W fun e w' => e = .returned (.tuple #[S i.textE.1, .int .i64 i.textE.2]) ∧ Below W.heap.size W w') := fun W => writeItem_any i W
  have RI : Hid (∀ W, Calls Tryd.prog 44 #[.agg i.cells.toArray] W fun e w' => e = .returned (.tuple #[S i.textE.1, .int .i64 i.textE.2]) ∧ Below W.heap.size W w') := fun W => rwriteItem_any i W
  have Hrow0 := Lib.hid (Row.new w 59 i.cells)
  have HL := Lib.hid (It.cells_len i)
  have HTab := Lib.hid hT
  have Hp := Lib.hid hT.pos
  show Calls _ _ #[.agg i.cells.toArray] _ _
  generalize i.textE.1 = s at *
  generalize i.textE.2 = n at *
  generalize i.cells = C at *
  clear hT
  go_enter Tryd.func10, Tryd.ntmps10
  go_wp2_with (with_reducible show wpList _ _ _ (⟨_, .load 59 _, _, _, _, _⟩ :: _) _ _; refine wpList_load_tx rfl 59 (.tmp 1) rfl w.heap.size 0 rfl C _ (row_range Hrow0.out) Tryd.underlying59 rfl (by rw [item_info, HL.out]) ?_)
  refine (WI.out _).mono ?_
  rintro _ w1 ⟨rfl, hb1⟩
  have Hr1 := Lib.hid (Hrow0.out.kept (grownBy_of_below hb1 none) (by simp))
  have Hb1 := Lib.hid (tx_below (grownBy_of_below hb1 none))
  clear hb1
  go_wp2_with (with_reducible show wpList _ _ _ (⟨_, .load 59 _, _, _, _, _⟩ :: _) _ _; refine wpList_load_tx rfl 59 (.tmp 1) rfl w.heap.size 0 rfl C _ (row_range Hr1.out) Tryd.underlying59 rfl (by rw [item_info, HL.out]) ?_)
  refine (RI.out _).mono ?_
  rintro _ w2 ⟨rfl, hb2⟩
  have Hb2 := Lib.hid (two_below' Hb1.out hb2)
  clear hb2
  go_wp2_with fail
  refine (awake5_any _ (HTab.out.below Hb2.out Hp.out)).mono ?_
  rintro _ w3 ⟨rfl, hb3⟩
  have Hb3 := Lib.hid (two_below' Hb2.out hb3)
  clear hb3
  go_wp2_with fail
  go_ret
  exact ⟨rfl, Hb3.out⟩
set_option maxRecDepth 20000 in
set_option maxHeartbeats 1600000 in
theorem notesReceipts_any (hRS : RefSum) (r : Rp) (hf : r.Fits) (w : World) (hT : Tab w) :
    Calls Tryd.prog 8 #[r.v] w fun e w' => e = .returned (.bool true) ∧ Below w.heap.size w w' := by
  have WR : Hid (∀ W, Tab W → Calls Tryd.prog 37 #[.agg r.cells.toArray] W fun e w' => e = .returned (.tuple #[S r.textE.1, .int .i64 r.textE.2]) ∧ Below W.heap.size W w') := fun W hW => writeReceipt_any r hf.prev hf.hash W hW
  have RR : Hid (∀ W, Calls Tryd.prog 38 #[.agg r.cells.toArray] W fun e w' => e = .returned (.tuple #[S r.textE.1, .int .i64 r.textE.2]) ∧ Below W.heap.size W w') := fun W => rwriteReceipt_any hRS r hf W
  have hlk : Rp.linkE ⟨r.index, r.kind, r.time, r.body, r.prev, Tx.zero⟩ = r.linkE := rfl
  obtain ⟨k, hk⟩ : ∃ k : Rp, k = r.linkE.1 := ⟨_, rfl⟩
  obtain ⟨m, hm⟩ : ∃ m : Int, m = r.linkE.2 := ⟨_, rfl⟩
  have hpv : Rp.pairV r.linkE = .tuple #[.agg k.cells.toArray, .int .i64 m] := by rw [hk, hm]; rfl
  have hkf : k.Fits := by
    rw [hk]
    unfold Rp.linkE
    split
    · exact Rp.linked_fits hf
    · exact ⟨rfl, rfl, by decide, fits0, fits0, fits0⟩
  have LK : Hid (∀ W, Tab W → Calls Tryd.prog 39 #[.agg (bRow r.prev), .int .i64 r.index, .int .i64 r.kind, .int .i64 r.time, .string r.body] W fun e w' => e = .returned (.tuple #[.agg k.cells.toArray, .int .i64 m]) ∧ Below W.heap.size W w') := fun W hW => by have := link5_any r.index r.kind r.time r.body r.prev hf.prev W hW; rw [hlk, hpv] at this; exact this
  have RL : Hid (∀ W, Calls Tryd.prog 40 #[.agg (bRow r.prev), .int .i64 r.index, .int .i64 r.kind, .int .i64 r.time, .string r.body] W fun e w' => e = .returned (.tuple #[.agg k.cells.toArray, .int .i64 m]) ∧ Below W.heap.size W w') := fun W => by have := rlink5_any hRS r.index r.kind r.time r.body r.prev hf.prev W; rw [hlk, hpv] at this; exact this
  have heq := fun W => rp_eqD W k k hkf hkf (v := true) (by simp)
  have HKL := Lib.hid (Rp.cells_len hkf.prev hkf.hash)
  have HK1 := Lib.hid (Rp.cells_one hkf.prev hkf.hash)
  have HL := Lib.hid (Rp.cells_len hf.prev hf.hash)
  have Hrow0 := Lib.hid (Row.new w 48 r.cells)
  have HPL := Lib.hid (Tx.bRow_len _ hf.prev)
  have BX : Hid (∀ (W : World) (g : Nat) (T : TypeId), Row W g T r.cells → W.cell? ⟨g, 0, none⟩ = some (.int .i64 r.index) ∧ W.cell? ⟨g, 1, none⟩ = some (.int .i64 r.kind) ∧ W.cell? ⟨g, 2, none⟩ = some (.int .i64 r.time) ∧ W.cell? ⟨g, 3, none⟩ = some (.string r.body)) := fun W g T h => rp_box h
  have BT : Hid (∀ (W : World) (g : Nat) (T : TypeId), Row W g T r.cells → W.rangeAt g 4 (bRow r.prev).toList) := fun W g T h => rp_prev hf.prev h
  have HRZ := Lib.hid (Rp.cells_len (r := Rp.zero) rfl rfl)
  have hz48 : ∀ W : World, (zeroValue 48).run Tryd.prog W = .ok (.agg Rp.zero.cells.toArray) W := fun W => by kernel_rfl
  have HTab := Lib.hid hT
  have Hp := Lib.hid hT.pos
  show Calls _ _ #[.agg r.cells.toArray] _ _
  generalize k.cells = KC at *
  generalize Rp.zero.cells = RZ at *
  generalize r.textE.1 = s at *
  generalize r.textE.2 = n at *
  generalize r.cells = C at *
  clear hT hf hlk hk hm hpv hkf hRS
  go_enter Tryd.func8, Tryd.ntmps8
  go_wp2_with (with_reducible show wpList _ _ _ (⟨_, .load 48 _, _, _, _, _⟩ :: _) _ _; refine wpList_load_tx rfl 48 (.tmp 1) rfl w.heap.size 0 rfl C _ (row_range Hrow0.out) Tryd.underlying48 rfl (by rw [rp_info, HL.out]) ?_)
  refine (WR.out _ (HTab.out.below ((Below.refl w.heap.size w).alloc (Nat.le_refl _) _) Hp.out)).mono ?_
  rintro _ w1 ⟨rfl, hb1⟩
  have Hr1 := Lib.hid (Hrow0.out.kept (grownBy_of_below hb1 none) (by simp))
  have Hb1 := Lib.hid (tx_below (grownBy_of_below hb1 none))
  clear hb1
  go_wp2_with (with_reducible show wpList _ _ _ (⟨_, .load 48 _, _, _, _, _⟩ :: _) _ _; refine wpList_load_tx rfl 48 (.tmp 1) rfl w.heap.size 0 rfl C _ (row_range Hr1.out) Tryd.underlying48 rfl (by rw [rp_info, HL.out]) ?_)
  refine (RR.out _).mono ?_
  rintro _ w2 ⟨rfl, hb2⟩
  have hr2 := Hr1.out.kept (grownBy_of_below hb2 none) (by simp)
  have Hb2 := Lib.hid (two_below' Hb1.out hb2)
  obtain ⟨c0, c1, c2, c3⟩ := BX.out _ _ _ hr2
  have Hp2 := Lib.hid (BT.out _ _ _ hr2)
  have Hr2 := Lib.hid hr2
  clear hb2 hr2
  go_wp2_with (with_reducible show wpList _ _ _ (⟨_, .load 23 _, _, _, _, _⟩ :: _) _ _; refine wpList_load_tx rfl 23 (.tmp 22) rfl w.heap.size 4 rfl (bRow r.prev).toList _ Hp2.out Tryd.underlying23 rfl (by rw [hash_info, HPL.out]) ?_)
  refine (LK.out _ (HTab.out.below Hb2.out Hp.out)).mono ?_
  rintro _ w3 ⟨rfl, hb3⟩
  have Hr3 := Lib.hid (Hr2.out.kept (grownBy_of_below hb3 none) (by simp))
  have Hb3 := Lib.hid (two_below' Hb2.out hb3)
  have hn3 : w.heap.size ≠ w3.heap.size := by have := Hr3.out.lt; omega
  have Hn3 := Lib.hid hn3
  have Hz3 := Lib.hid (Row.new w3 48 RZ)
  have hrA := Hr3.out.kept (grownBy_alloc w3 (.cells RZ.toArray 48) none) (by simp)
  clear hb3 hn3 c0 c1 c2 c3
  go_wp2_with (first
  | (with_reducible show wpList _ _ _ (⟨_, .store 48 (.tmp 7) _, _, _, _, _⟩ :: _) _ _
     refine wpList_store_at rfl 48 (.tmp 7) (.tmp 33) rfl w3.heap.size 0 KC _ _ rfl rfl Hz3.out (by have := HRZ.out; have := HKL.out; omega) (by rw [rp_info, HKL.out]) HK1.out ?_
     intro w4 hrw4 hgw4
     rw [splice_all (HKL.out.trans HRZ.out.symm)] at hrw4
     have Hrw4 := Lib.hid hrw4
     have HrB := Lib.hid ((Hr3.out.kept (grownBy_alloc w3 _ none) (by simp)).kept hgw4 (by simpa using Hn3.out))
     have Hbw4 := Lib.hid (below_own (Hb3.out.alloc Hb3.out.size _) hgw4 (fun k hk => by cases hk; exact Hb3.out.size))
     obtain ⟨c0, c1, c2, c3⟩ := BX.out _ _ _ HrB.out
     have Hp4 := Lib.hid (BT.out _ _ _ HrB.out)
     clear hrw4 hgw4)
  | (with_reducible show wpList _ _ _ (⟨_, .load 23 _, _, _, _, _⟩ :: _) _ _; refine wpList_load_tx rfl 23 (.tmp 36) rfl w.heap.size 4 rfl (bRow r.prev).toList _ Hp4.out Tryd.underlying23 rfl (by rw [hash_info, HPL.out]) ?_))
  refine (RL.out _).mono ?_
  rintro _ w5 ⟨rfl, hb5⟩
  have hg5 := grownBy_of_below hb5 none
  have Hk5 := Lib.hid (Hrw4.out.kept hg5 (by simp))
  have Hb5 := Lib.hid (two_below' Hbw4.out hb5)
  have hn5 : w3.heap.size ≠ w5.heap.size := by have := Hk5.out.lt; omega
  have Hn5 := Lib.hid hn5
  have Hz5 := Lib.hid (Row.new w5 48 RZ)
  clear hb5 hn5 hg5
  go_wp2_with (first
  | (with_reducible show wpList _ _ _ (⟨_, .store 48 (.tmp 9) _, _, _, _, _⟩ :: _) _ _
     refine wpList_store_at rfl 48 (.tmp 9) (.tmp 47) rfl w5.heap.size 0 KC _ _ rfl rfl Hz5.out (by have := HRZ.out; have := HKL.out; omega) (by rw [rp_info, HKL.out]) HK1.out ?_
     intro w6 hrw6 hgw6
     rw [splice_all (HKL.out.trans HRZ.out.symm)] at hrw6
     have Hrw6 := Lib.hid hrw6
     have HkC := Lib.hid ((Hk5.out.kept (grownBy_alloc w5 _ none) (by simp)).kept hgw6 (by simpa using Hn5.out))
     have Hbw6 := Lib.hid (below_own (Hb5.out.alloc Hb5.out.size _) hgw6 (fun k hk => by cases hk; exact Hb5.out.size))
     clear hrw6 hgw6))
  refine (awake5_any _ (HTab.out.below Hbw6.out Hp.out)).mono ?_
  rintro _ w7 ⟨rfl, hb7⟩
  have hg7 := grownBy_of_below hb7 none
  have Hx7 := Lib.hid (HkC.out.kept hg7 (by simp))
  have Hy7 := Lib.hid (Hrw6.out.kept hg7 (by simp))
  have Hb7 := Lib.hid (two_below' Hbw6.out hb7)
  clear hb7 hg7
  go_wp2_with (first
  | (with_reducible show wpList _ _ _ (⟨_, .load 48 (.tmp 7), _, _, _, _⟩ :: _) _ _; refine wpList_load_tx rfl 48 (.tmp 7) rfl (w3.heap.size) 0 rfl KC _ (row_range Hx7.out) Tryd.underlying48 rfl (by rw [rp_info, HKL.out]) ?_)
  | (with_reducible show wpList _ _ _ (⟨_, .load 48 (.tmp 9), _, _, _, _⟩ :: _) _ _; refine wpList_load_tx rfl 48 (.tmp 9) rfl (w5.heap.size) 0 rfl KC _ (row_range Hy7.out) Tryd.underlying48 rfl (by rw [rp_info, HKL.out]) ?_))
  go_ret
  exact ⟨rfl, Hb7.out⟩
/-- what the drawn statement of NotesBids counts on -/
def BidsIn (w0 W : World) (g1 g2 : Nat) (C D : List Value) : Prop := (0 < w0.heap.size ∧ Tab w0) ∧ RowIn w0 W w0.heap.size 41 C ∧ Row W g1 41 D ∧ Row W g2 41 D
theorem BidsIn.step {w0 W W' : World} {g1 g2 : Nat} {C D : List Value} (h : BidsIn w0 W g1 g2 C D) (hb : Below W.heap.size W W') : BidsIn w0 W' g1 g2 C D :=
  ⟨h.1, h.2.1.step hb, h.2.2.1.kept (grownBy_of_below hb none) (by simp), h.2.2.2.kept (grownBy_of_below hb none) (by simp)⟩
theorem BidsIn.tab {w0 W : World} {g1 g2 : Nat} {C D : List Value} (h : BidsIn w0 W g1 g2 C D) : Tab W := h.1.2.below h.2.1.2 h.1.1
set_option maxRecDepth 20000 in
set_option maxHeartbeats 1600000 in
theorem notesBids_any (hRS : RefSum) (b : Bd) (hf : b.Fits) (w : World) (hT : Tab w) :
    Calls Tryd.prog 7 #[b.v] w fun e w' => e = .returned (.bool true) ∧ Below w.heap.size w w' := by
  have WR : Hid (∀ W, Calls Tryd.prog 30 #[.agg b.cells.toArray] W fun e w' => e = .returned (.tuple #[S b.textE.1, .int .i64 b.textE.2]) ∧ Below W.heap.size W w') := fun W => writeBid_any b hf.tag W
  have RR : Hid (∀ W, Calls Tryd.prog 31 #[.agg b.cells.toArray] W fun e w' => e = .returned (.tuple #[S b.textE.1, .int .i64 b.textE.2]) ∧ Below W.heap.size W w') := fun W => rwriteBid_any b hf.tag W
  obtain ⟨k, hk⟩ : ∃ k : Bd, k = b.signE.1 := ⟨_, rfl⟩
  obtain ⟨m, hm⟩ : ∃ m : Int, m = b.signE.2 := ⟨_, rfl⟩
  have hpv : Bd.pairV b.signE = .tuple #[.agg k.cells.toArray, .int .i64 m] := by rw [hk, hm]; rfl
  have hkf : k.Fits := by
    rw [hk]
    unfold Bd.signE
    split
    · exact Bd.sign_fits hf
    · exact ⟨rfl, fits0, fits0, fits0, fits0⟩
  have LK : Hid (∀ W, Tab W → Calls Tryd.prog 32 #[.agg b.cells.toArray] W fun e w' => e = .returned (.tuple #[.agg k.cells.toArray, .int .i64 m]) ∧ Below W.heap.size W w') := fun W hW => by have := signBid_any b hf.tag W hW; rw [hpv] at this; exact this
  have RL : Hid (∀ W, Calls Tryd.prog 33 #[.agg b.cells.toArray] W fun e w' => e = .returned (.tuple #[.agg k.cells.toArray, .int .i64 m]) ∧ Below W.heap.size W w') := fun W => by have := rsignBid_any hRS b hf.tag W; rw [hpv] at this; exact this
  have CK := Lib.hid (fun W (hW : Tab W) => checkBid_any b hf.tag W hW)
  have RC := Lib.hid (fun W => rcheckBid_any hRS b hf W)
  have heq := fun W => bid_eqD W k k hkf hkf (v := true) (by simp)
  have HKL := Lib.hid (Bd.cells_len hkf.tag)
  have HK1 := Lib.hid (Bd.cells_one hkf.tag)
  have HL := Lib.hid (Bd.cells_len hf.tag)
  have Hrow0 := Lib.hid (Row.new w 41 b.cells)
  have HBZ := Lib.hid (Bd.cells_len (b := Bd.zero) rfl)
  have hz41 : ∀ W : World, (zeroValue 41).run Tryd.prog W = .ok (.agg Bd.zero.cells.toArray) W := fun W => by kernel_rfl
  have HTab := Lib.hid hT
  have Hp := Lib.hid hT.pos
  show Calls _ _ #[.agg b.cells.toArray] _ _
  generalize k.cells = KC at *
  generalize Bd.zero.cells = BZ at *
  generalize b.textE.1 = s at *
  generalize b.textE.2 = n at *
  generalize b.check = ck at *
  generalize b.cells = C at *
  clear hT hf hk hm hpv hkf hRS
  go_enter Tryd.func7, Tryd.ntmps7
  go_wp2_with (with_reducible show wpList _ _ _ (⟨_, .load 41 _, _, _, _, _⟩ :: _) _ _; refine wpList_load_tx rfl 41 (.tmp 1) rfl w.heap.size 0 rfl C _ (row_range Hrow0.out) Tryd.underlying41 rfl (by rw [bid_info, HL.out]) ?_)
  refine (WR.out _).mono ?_
  rintro _ w1 ⟨rfl, hb1⟩
  have Hr1 := Lib.hid (Hrow0.out.kept (grownBy_of_below hb1 none) (by simp))
  have Hb1 := Lib.hid (tx_below (grownBy_of_below hb1 none))
  clear hb1
  go_wp2_with (with_reducible show wpList _ _ _ (⟨_, .load 41 _, _, _, _, _⟩ :: _) _ _; refine wpList_load_tx rfl 41 (.tmp 1) rfl w.heap.size 0 rfl C _ (row_range Hr1.out) Tryd.underlying41 rfl (by rw [bid_info, HL.out]) ?_)
  refine (RR.out _).mono ?_
  rintro _ w2 ⟨rfl, hb2⟩
  have Hr2 := Lib.hid (Hr1.out.kept (grownBy_of_below hb2 none) (by simp))
  have Hb2 := Lib.hid (two_below' Hb1.out hb2)
  clear hb2
  go_wp2_with (with_reducible show wpList _ _ _ (⟨_, .load 41 _, _, _, _, _⟩ :: _) _ _; refine wpList_load_tx rfl 41 (.tmp 1) rfl w.heap.size 0 rfl C _ (row_range Hr2.out) Tryd.underlying41 rfl (by rw [bid_info, HL.out]) ?_)
  refine (LK.out _ (HTab.out.below Hb2.out Hp.out)).mono ?_
  rintro _ w3 ⟨rfl, hb3⟩
  have Hr3 := Lib.hid (Hr2.out.kept (grownBy_of_below hb3 none) (by simp))
  have Hb3 := Lib.hid (two_below' Hb2.out hb3)
  have hn3 : w.heap.size ≠ w3.heap.size := by have := Hr3.out.lt; omega
  have Hn3 := Lib.hid hn3
  have Hz3 := Lib.hid (Row.new w3 41 BZ)
  clear hb3 hn3
  go_wp2_with (first
  | (with_reducible show wpList _ _ _ (⟨_, .store 41 (.tmp 7) _, _, _, _, _⟩ :: _) _ _
     refine wpList_store_at rfl 41 (.tmp 7) (.tmp 24) rfl w3.heap.size 0 KC _ _ rfl rfl Hz3.out (by have := HBZ.out; have := HKL.out; omega) (by rw [bid_info, HKL.out]) HK1.out ?_
     intro w4 hrw4 hgw4
     rw [splice_all (HKL.out.trans HBZ.out.symm)] at hrw4
     have Hrw4 := Lib.hid hrw4
     have HrB := Lib.hid ((Hr3.out.kept (grownBy_alloc w3 _ none) (by simp)).kept hgw4 (by simpa using Hn3.out))
     have Hbw4 := Lib.hid (below_own (Hb3.out.alloc Hb3.out.size _) hgw4 (fun k hk => by cases hk; exact Hb3.out.size))
     clear hrw4 hgw4)
  | (with_reducible show wpList _ _ _ (⟨_, .load 41 _, _, _, _, _⟩ :: _) _ _; refine wpList_load_tx rfl 41 (.tmp 1) rfl w.heap.size 0 rfl C _ (row_range HrB.out) Tryd.underlying41 rfl (by rw [bid_info, HL.out]) ?_))
  refine (RL.out _).mono ?_
  rintro _ w5 ⟨rfl, hb5⟩
  have hg5 := grownBy_of_below hb5 none
  have Hk5 := Lib.hid (Hrw4.out.kept hg5 (by simp))
  have Hr5 := Lib.hid (HrB.out.kept hg5 (by simp))
  have Hb5 := Lib.hid (two_below' Hbw4.out hb5)
  have hn5 : w3.heap.size ≠ w5.heap.size := by have := Hk5.out.lt; omega
  have hm5 : w.heap.size ≠ w5.heap.size := by have := Hr5.out.lt; omega
  have Hn5 := Lib.hid hn5
  have Hm5 := Lib.hid hm5
  have Hz5 := Lib.hid (Row.new w5 41 BZ)
  clear hb5 hn5 hm5 hg5
  go_wp2_with (first
  | (with_reducible show wpList _ _ _ (⟨_, .store 41 (.tmp 9) _, _, _, _, _⟩ :: _) _ _
     refine wpList_store_at rfl 41 (.tmp 9) (.tmp 29) rfl w5.heap.size 0 KC _ _ rfl rfl Hz5.out (by have := HBZ.out; have := HKL.out; omega) (by rw [bid_info, HKL.out]) HK1.out ?_
     intro w6 hrw6 hgw6
     rw [splice_all (HKL.out.trans HBZ.out.symm)] at hrw6
     have Hrw6 := Lib.hid hrw6
     have HkC := Lib.hid ((Hk5.out.kept (grownBy_alloc w5 _ none) (by simp)).kept hgw6 (by simpa using Hn5.out))
     have HrC := Lib.hid ((Hr5.out.kept (grownBy_alloc w5 _ none) (by simp)).kept hgw6 (by simpa using Hm5.out))
     have Hbw6 := Lib.hid (below_own (Hb5.out.alloc Hb5.out.size _) hgw6 (fun k hk => by cases hk; exact Hb5.out.size))
     clear hrw6 hgw6))
  have HS0 : Hid (BidsIn w w6.drew w3.heap.size w5.heap.size C KC) := BidsIn.step (W := w6) ⟨⟨Hp.out, HTab.out⟩, ⟨HrC.out, Hbw6.out⟩, HkC.out, Hrw6.out⟩ (Below.refl _ _).drew
  have hu41 := Tryd.underlying41
  have hiC : (Tryd.prog.info? 41).map (·.size) = some C.length := by rw [bid_info, HL.out]
  have hiK : (Tryd.prog.info? 41).map (·.size) = some KC.length := by rw [bid_info, HKL.out]
  refine wp_region_held_drew (S := fun w' => BidsIn w w' w3.heap.size w5.heap.size C KC) (by kernel_rfl) (HS0.out) (fun hHeld => ?_)
  generalize w6.drew = wq at *
  refine wpAnyH_ready (rs := [0]) (by kernel_rfl) (by simp) (AllReadyH.cons rfl (fun K1 hK1 => ?_) AllReadyH.nil)
  try simp only [Act.put, List.getElem_toArray, List.getElem_cons_succ, List.getElem_cons_zero, List.setIfInBounds_toArray, List.set_cons_zero, List.set_cons_succ]
  go_simp
  refine Calls.mono (awake5_any _ hHeld.tab) ?_
  rintro e wc1 ⟨rfl, hc2⟩
  refine hK1.out _ _ (hHeld.step hc2) (fun hHeld => ?_)
  clear hK1 K1
  try simp only [Act.put, List.getElem_toArray, List.getElem_cons_succ, List.getElem_cons_zero, List.setIfInBounds_toArray, List.set_cons_zero, List.set_cons_succ]
  refine wpAnyH_take (i := 1) (v := .bool true) rfl (by kernel_rfl) (by kernel_rfl) (by kernel_rfl) (fun _ _ _ h => h) (Or.inl ⟨by rfl, fun w' hSw => by go_simp⟩) hHeld ?_
  try simp only [Act.put, List.getElem_toArray, List.getElem_cons_succ, List.getElem_cons_zero, List.setIfInBounds_toArray, List.set_cons_zero, List.set_cons_succ]
  refine wpAnyH_take (i := 2) (v := S s) rfl (by kernel_rfl) (by kernel_rfl) (by kernel_rfl) (fun _ _ _ h => h) (Or.inl ⟨by rfl, fun w' hSw => by go_simp⟩) hHeld ?_
  try simp only [Act.put, List.getElem_toArray, List.getElem_cons_succ, List.getElem_cons_zero, List.setIfInBounds_toArray, List.set_cons_zero, List.set_cons_succ]
  refine wpAnyH_take (i := 3) (v := S s) rfl (by kernel_rfl) (by kernel_rfl) (by kernel_rfl) (fun _ _ _ h => h) (Or.inl ⟨by rfl, fun w' hSw => by go_simp⟩) hHeld ?_
  try simp only [Act.put, List.getElem_toArray, List.getElem_cons_succ, List.getElem_cons_zero, List.setIfInBounds_toArray, List.set_cons_zero, List.set_cons_succ]
  refine wpAnyH_take (i := 4) (v := .bool true) rfl (by kernel_rfl) (by kernel_rfl) (by kernel_rfl) (fun _ _ _ h => h) (Or.inl ⟨by rfl, fun w' hSw => by go_simp⟩) hHeld ?_
  try simp only [Act.put, List.getElem_toArray, List.getElem_cons_succ, List.getElem_cons_zero, List.setIfInBounds_toArray, List.set_cons_zero, List.set_cons_succ]
  refine wpAnyH_take (i := 5) (v := .bool true) rfl (by kernel_rfl) (by kernel_rfl) (by kernel_rfl) (fun _ _ _ h => h) (Or.inl ⟨by rfl, fun w' hSw => by go_simp⟩) hHeld ?_
  try simp only [Act.put, List.getElem_toArray, List.getElem_cons_succ, List.getElem_cons_zero, List.setIfInBounds_toArray, List.set_cons_zero, List.set_cons_succ]
  refine wpAnyH_take (i := 6) (v := .bool true) rfl (by kernel_rfl) (by kernel_rfl) (by kernel_rfl) (fun _ _ _ h => h) (Or.inl ⟨by rfl, fun w' hSw => by go_simp⟩) hHeld ?_
  try simp only [Act.put, List.getElem_toArray, List.getElem_cons_succ, List.getElem_cons_zero, List.setIfInBounds_toArray, List.set_cons_zero, List.set_cons_succ]
  refine wpAnyH_take (i := 7) (v := .int .i64 n) rfl (by kernel_rfl) (by kernel_rfl) (by kernel_rfl) (fun _ _ _ h => h) (Or.inl ⟨by rfl, fun w' hSw => by go_simp⟩) hHeld ?_
  try simp only [Act.put, List.getElem_toArray, List.getElem_cons_succ, List.getElem_cons_zero, List.setIfInBounds_toArray, List.set_cons_zero, List.set_cons_succ]
  refine wpAnyH_take (i := 8) (v := .int .i64 n) rfl (by kernel_rfl) (by kernel_rfl) (by kernel_rfl) (fun _ _ _ h => h) (Or.inl ⟨by rfl, fun w' hSw => by go_simp⟩) hHeld ?_
  try simp only [Act.put, List.getElem_toArray, List.getElem_cons_succ, List.getElem_cons_zero, List.setIfInBounds_toArray, List.set_cons_zero, List.set_cons_succ]
  refine wpAnyH_take (i := 9) (v := .bool true) rfl (by kernel_rfl) (by kernel_rfl) (by kernel_rfl) (fun _ _ _ h => h) (Or.inl ⟨by rfl, fun w' hSw => by go_simp⟩) hHeld ?_
  try simp only [Act.put, List.getElem_toArray, List.getElem_cons_succ, List.getElem_cons_zero, List.setIfInBounds_toArray, List.set_cons_zero, List.set_cons_succ]
  refine wpAnyH_take (i := 10) (v := .bool true) rfl (by kernel_rfl) (by kernel_rfl) (by kernel_rfl) (fun _ _ _ h => h) (Or.inl ⟨by rfl, fun w' hSw => by go_simp⟩) hHeld ?_
  try simp only [Act.put, List.getElem_toArray, List.getElem_cons_succ, List.getElem_cons_zero, List.setIfInBounds_toArray, List.set_cons_zero, List.set_cons_succ]
  refine wpAnyH_take (i := 11) (v := .bool true) rfl (by kernel_rfl) (by kernel_rfl) (by kernel_rfl) (fun _ _ _ h => h) (Or.inl ⟨by rfl, fun w' hSw => by go_simp⟩) hHeld ?_
  try simp only [Act.put, List.getElem_toArray, List.getElem_cons_succ, List.getElem_cons_zero, List.setIfInBounds_toArray, List.set_cons_zero, List.set_cons_succ]
  refine' wpAnyH_take (i := 12) (v := _) rfl (by kernel_rfl) (by kernel_rfl) (by kernel_rfl) (fun _ _ _ h => h) (yieldsIf_load_mid (by rfl) _ _ rfl w3.heap.size 0 rfl KC _ (fun w' hSw => (row_range hSw.2.2.1)) hu41 rfl hiK) hHeld ?_
  try simp only [Act.put, List.getElem_toArray, List.getElem_cons_succ, List.getElem_cons_zero, List.setIfInBounds_toArray, List.set_cons_zero, List.set_cons_succ]
  refine' wpAnyH_take (i := 13) (v := _) rfl (by kernel_rfl) (by kernel_rfl) (by kernel_rfl) (fun _ _ _ h => h) (yieldsIf_load_mid (by rfl) _ _ rfl w5.heap.size 0 rfl KC _ (fun w' hSw => (row_range hSw.2.2.2)) hu41 rfl hiK) hHeld ?_
  try simp only [Act.put, List.getElem_toArray, List.getElem_cons_succ, List.getElem_cons_zero, List.setIfInBounds_toArray, List.set_cons_zero, List.set_cons_succ]
  refine wpAnyH_take (i := 14) (v := .bool true) rfl (by kernel_rfl) (by kernel_rfl) (by kernel_rfl) (fun _ _ _ h => h) (Or.inl ⟨by rfl, fun w' hSw => by go_simp⟩) hHeld ?_
  try simp only [Act.put, List.getElem_toArray, List.getElem_cons_succ, List.getElem_cons_zero, List.setIfInBounds_toArray, List.set_cons_zero, List.set_cons_succ]
  refine wpAnyH_take (i := 15) (v := .bool true) rfl (by kernel_rfl) (by kernel_rfl) (by kernel_rfl) (fun _ _ _ h => h) (Or.inl ⟨by rfl, fun w' hSw => by go_simp⟩) hHeld ?_
  try simp only [Act.put, List.getElem_toArray, List.getElem_cons_succ, List.getElem_cons_zero, List.setIfInBounds_toArray, List.set_cons_zero, List.set_cons_succ]
  refine wpAnyH_take (i := 16) (v := .bool true) rfl (by kernel_rfl) (by kernel_rfl) (by kernel_rfl) (fun _ _ _ h => h) (Or.inl ⟨by rfl, fun w' hSw => by go_simp⟩) hHeld ?_
  try simp only [Act.put, List.getElem_toArray, List.getElem_cons_succ, List.getElem_cons_zero, List.setIfInBounds_toArray, List.set_cons_zero, List.set_cons_succ]
  refine wpAnyH_take (i := 17) (v := .int .i64 m) rfl (by kernel_rfl) (by kernel_rfl) (by kernel_rfl) (fun _ _ _ h => h) (Or.inl ⟨by rfl, fun w' hSw => by go_simp⟩) hHeld ?_
  try simp only [Act.put, List.getElem_toArray, List.getElem_cons_succ, List.getElem_cons_zero, List.setIfInBounds_toArray, List.set_cons_zero, List.set_cons_succ]
  refine wpAnyH_take (i := 18) (v := .int .i64 m) rfl (by kernel_rfl) (by kernel_rfl) (by kernel_rfl) (fun _ _ _ h => h) (Or.inl ⟨by rfl, fun w' hSw => by go_simp⟩) hHeld ?_
  try simp only [Act.put, List.getElem_toArray, List.getElem_cons_succ, List.getElem_cons_zero, List.setIfInBounds_toArray, List.set_cons_zero, List.set_cons_succ]
  refine wpAnyH_take (i := 19) (v := .bool true) rfl (by kernel_rfl) (by kernel_rfl) (by kernel_rfl) (fun _ _ _ h => h) (Or.inl ⟨by rfl, fun w' hSw => by go_simp⟩) hHeld ?_
  try simp only [Act.put, List.getElem_toArray, List.getElem_cons_succ, List.getElem_cons_zero, List.setIfInBounds_toArray, List.set_cons_zero, List.set_cons_succ]
  refine wpAnyH_take (i := 20) (v := .bool true) rfl (by kernel_rfl) (by kernel_rfl) (by kernel_rfl) (fun _ _ _ h => h) (Or.inl ⟨by rfl, fun w' hSw => by go_simp⟩) hHeld ?_
  try simp only [Act.put, List.getElem_toArray, List.getElem_cons_succ, List.getElem_cons_zero, List.setIfInBounds_toArray, List.set_cons_zero, List.set_cons_succ]
  refine wpAnyH_take (i := 21) (v := .bool true) rfl (by kernel_rfl) (by kernel_rfl) (by kernel_rfl) (fun _ _ _ h => h) (Or.inl ⟨by rfl, fun w' hSw => by go_simp⟩) hHeld ?_
  try simp only [Act.put, List.getElem_toArray, List.getElem_cons_succ, List.getElem_cons_zero, List.setIfInBounds_toArray, List.set_cons_zero, List.set_cons_succ]
  refine' wpAnyH_take (i := 22) (v := _) rfl (by kernel_rfl) (by kernel_rfl) (by kernel_rfl) (fun _ _ _ h => h) (yieldsIf_load_mid (by rfl) _ _ rfl w.heap.size 0 rfl C _ (fun w' hSw => (row_range hSw.2.1.1)) hu41 rfl hiC) hHeld ?_
  try simp only [Act.put, List.getElem_toArray, List.getElem_cons_succ, List.getElem_cons_zero, List.setIfInBounds_toArray, List.set_cons_zero, List.set_cons_succ]
  refine' wpAnyH_take (i := 24) (v := _) rfl (by kernel_rfl) (by kernel_rfl) (by kernel_rfl) (fun _ _ _ h => h) (yieldsIf_load_mid (by rfl) _ _ rfl w.heap.size 0 rfl C _ (fun w' hSw => (row_range hSw.2.1.1)) hu41 rfl hiC) hHeld ?_
  try simp only [Act.put, List.getElem_toArray, List.getElem_cons_succ, List.getElem_cons_zero, List.setIfInBounds_toArray, List.set_cons_zero, List.set_cons_succ]
  refine wpAnyH_ready (rs := [23]) (by kernel_rfl) (by simp) (AllReadyH.cons rfl (fun K1 hK1 => ?_) AllReadyH.nil)
  try simp only [Act.put, List.getElem_toArray, List.getElem_cons_succ, List.getElem_cons_zero, List.setIfInBounds_toArray, List.set_cons_zero, List.set_cons_succ]
  go_simp
  refine Calls.mono (CK.out _ hHeld.tab) ?_
  rintro e wc3 ⟨rfl, hc4⟩
  refine hK1.out _ _ (hHeld.step hc4) (fun hHeld => ?_)
  clear hK1 K1
  try simp only [Act.put, List.getElem_toArray, List.getElem_cons_succ, List.getElem_cons_zero, List.setIfInBounds_toArray, List.set_cons_zero, List.set_cons_succ]
  refine wpAnyH_ready (rs := [25]) (by kernel_rfl) (by simp) (AllReadyH.cons rfl (fun K1 hK1 => ?_) AllReadyH.nil)
  try simp only [Act.put, List.getElem_toArray, List.getElem_cons_succ, List.getElem_cons_zero, List.setIfInBounds_toArray, List.set_cons_zero, List.set_cons_succ]
  go_simp
  refine Calls.mono (RC.out _) ?_
  rintro e wc5 ⟨rfl, hc6⟩
  refine hK1.out _ _ (hHeld.step hc6) (fun hHeld => ?_)
  clear hK1 K1
  try simp only [Act.put, List.getElem_toArray, List.getElem_cons_succ, List.getElem_cons_zero, List.setIfInBounds_toArray, List.set_cons_zero, List.set_cons_succ]
  refine wpAnyH_take (i := 26) (v := .bool true) rfl (by kernel_rfl) (by kernel_rfl) (by kernel_rfl) (fun _ _ _ h => h) (Or.inl ⟨by rfl, fun w' hSw => by go_simp⟩) hHeld ?_
  try simp only [Act.put, List.getElem_toArray, List.getElem_cons_succ, List.getElem_cons_zero, List.setIfInBounds_toArray, List.set_cons_zero, List.set_cons_succ]
  refine wpAnyH_take (i := 27) (v := .bool true) rfl (by kernel_rfl) (by kernel_rfl) (by kernel_rfl) (fun _ _ _ h => h) (Or.inl ⟨by rfl, fun w' hSw => by go_simp⟩) hHeld ?_
  try simp only [Act.put, List.getElem_toArray, List.getElem_cons_succ, List.getElem_cons_zero, List.setIfInBounds_toArray, List.set_cons_zero, List.set_cons_succ]
  refine wpAnyH_take (i := 28) (v := .bool true) rfl (by kernel_rfl) (by kernel_rfl) (by kernel_rfl) (fun _ _ _ h => h) (Or.inl ⟨by rfl, fun w' hSw => by go_simp⟩) hHeld ?_
  try simp only [Act.put, List.getElem_toArray, List.getElem_cons_succ, List.getElem_cons_zero, List.setIfInBounds_toArray, List.set_cons_zero, List.set_cons_succ]
  refine wpAnyH_done (by kernel_rfl) ?_ _
  have Hbe := Lib.hid hHeld.2.1.2
  clear hHeld hu41 hiC hiK heq
  go_wp2_with fail
  go_ret
  exact ⟨rfl, Hbe.out⟩
end Go.Proofs.YtdekcicgiflnbaaDoor
