/- What later texts need of the earlier layers. -/
import Derived.Test.YtlapmdgkcidhnaaDoorSlO
import Derived.Test.YtlapmdgkcidhnaaDoorSlS
import Derived.Test.YtlapmdgkcidhnaaDoorSlT
import Derived.Test.YtlapmdgkcidhnaaDoorSlC
import Derived.Test.YtlapmdgkcidhnaaDoorSlA
import Derived.Laws.ResultCell
import Derived.Laws.Tables
import Derived.BigQuiet
/- ---- NoItemR ---- -/
/- notes: ReadItem. -/
namespace Go.Proofs.YtlapmdgkcidhnaaDoor
open Go.RowKit
set_option linter.unusedVariables false
set_option linter.unusedSimpArgs false

namespace It
theorem cells_len (i : It) : i.cells.length = 4 := rfl
theorem cells_one (i : It) : ∀ v ∈ i.cells, v.oneCell' = true := by
  intro v hv
  simp [cells] at hv
  rcases hv with rfl | rfl | rfl | rfl <;> rfl
end It
end Go.Proofs.YtlapmdgkcidhnaaDoor

/- ---- NoB ---- -/
/- notes: bidMayBe, bidNumbers, WriteBid. -/
/- notes: SignBid, CheckBid. -/
/- notes: ReadBid. -/
namespace Go.Proofs.YtlapmdgkcidhnaaDoor
open Go.RowKit
set_option linter.unusedVariables false
set_option linter.unusedSimpArgs false

theorem bid_info : (Tryd.prog.info? 30).map (·.size) = some 36 := by kernel_rfl
namespace Bd
theorem cells_len {b : Bd} (h : b.tag.length = 32) : b.cells.length = 36 := by
  unfold cells
  simp only [List.length_append, Tx.bRow_len _ h, List.length_cons, List.length_nil]
theorem cells_one {b : Bd} (h : b.tag.length = 32) : ∀ v ∈ b.cells, v.oneCell' = true := by
  intro v hv
  unfold cells at hv
  rcases List.mem_append.1 hv with h1 | h1
  · simp at h1
    rcases h1 with rfl | rfl | rfl | rfl <;> rfl
  · exact hash_one _ h v h1
theorem cells_tag (b : Bd) : b.cells.drop 4 = (bRow b.tag).toList := rfl
end Bd
theorem bid_tag {W : World} {g : Nat} {T : TypeId} {b : Bd} (h : Row W g T b.cells) : W.rangeAt g 4 (bRow b.tag).toList := by
  intro j v hv
  have e : b.cells[4 + j]? = some v := by rw [← hv, ← Bd.cells_tag b, List.getElem?_drop]
  obtain ⟨hlt, he⟩ := List.getElem?_eq_some_iff.1 e
  rw [h.cell _ hlt, he]
theorem bid_box {W : World} {g : Nat} {T : TypeId} {b : Bd} (h : Row W g T b.cells) : W.cell? ⟨g, 0, none⟩ = some (.int .i64 b.round) ∧ W.cell? ⟨g, 1, none⟩ = some (.int .i64 b.who) ∧ W.cell? ⟨g, 2, none⟩ = some (.int .i64 b.amount) ∧ W.cell? ⟨g, 3, none⟩ = some (.int .i64 b.salt) :=
  ⟨h.cell 0 (by simp [Bd.cells]), h.cell 1 (by simp [Bd.cells]), h.cell 2 (by simp [Bd.cells]), h.cell 3 (by simp [Bd.cells])⟩
set_option maxRecDepth 20000 in
theorem bidMayBe_0 (b : Bd) (w : World) (h0 : Tx.acct b.who = false) :
    Calls Tryd.prog 79 #[.agg b.cells.toArray] w fun e w' => e = .returned (.bool false) ∧ Below w.heap.size w w' := by
  obtain ⟨c0, c1, c2, c3⟩ := bid_box (Row.new w 30 b.cells)
  have N0 : Hid (∀ W, Calls Tryd.prog 109 #[.int .i64 b.who] W fun e w' => e = .returned (.bool false) ∧ W = w') := fun W => by have := naccount_any (b.who) W; rw [h0] at this; exact this
  generalize b.cells = C at *
  clear h0
  go_enter Tryd.func79, Tryd.ntmps79
  go_wp2_with fail
  refine (N0.out _).mono ?_
  rintro _ w1 ⟨rfl, rfl⟩
  go_wp2_with fail
  go_ret
  exact ⟨rfl, (Below.refl w.heap.size w).alloc (Nat.le_refl _) _⟩
set_option maxRecDepth 20000 in
theorem bidMayBe_1 (b : Bd) (w : World) (h0 : Tx.acct b.who = true) (h1 : Tx.num b.round = false) :
    Calls Tryd.prog 79 #[.agg b.cells.toArray] w fun e w' => e = .returned (.bool false) ∧ Below w.heap.size w w' := by
  obtain ⟨c0, c1, c2, c3⟩ := bid_box (Row.new w 30 b.cells)
  have N0 : Hid (∀ W, Calls Tryd.prog 109 #[.int .i64 b.who] W fun e w' => e = .returned (.bool true) ∧ W = w') := fun W => by have := naccount_any (b.who) W; rw [h0] at this; exact this
  have N1 : Hid (∀ W, Calls Tryd.prog 110 #[.int .i64 b.round] W fun e w' => e = .returned (.bool false) ∧ W = w') := fun W => by have := nnumber_any (b.round) W; rw [h1] at this; exact this
  generalize b.cells = C at *
  clear h0 h1
  go_enter Tryd.func79, Tryd.ntmps79
  go_wp2_with fail
  refine (N0.out _).mono ?_
  rintro _ w1 ⟨rfl, rfl⟩
  go_wp2_with fail
  refine (N1.out _).mono ?_
  rintro _ w1 ⟨rfl, rfl⟩
  go_wp2_with fail
  go_ret
  exact ⟨rfl, (Below.refl w.heap.size w).alloc (Nat.le_refl _) _⟩
set_option maxRecDepth 20000 in
theorem bidMayBe_2 (b : Bd) (w : World) (h0 : Tx.acct b.who = true) (h1 : Tx.num b.round = true) (h2 : Tx.num b.amount = false) :
    Calls Tryd.prog 79 #[.agg b.cells.toArray] w fun e w' => e = .returned (.bool false) ∧ Below w.heap.size w w' := by
  obtain ⟨c0, c1, c2, c3⟩ := bid_box (Row.new w 30 b.cells)
  have N0 : Hid (∀ W, Calls Tryd.prog 109 #[.int .i64 b.who] W fun e w' => e = .returned (.bool true) ∧ W = w') := fun W => by have := naccount_any (b.who) W; rw [h0] at this; exact this
  have N1 : Hid (∀ W, Calls Tryd.prog 110 #[.int .i64 b.round] W fun e w' => e = .returned (.bool true) ∧ W = w') := fun W => by have := nnumber_any (b.round) W; rw [h1] at this; exact this
  have N2 : Hid (∀ W, Calls Tryd.prog 110 #[.int .i64 b.amount] W fun e w' => e = .returned (.bool false) ∧ W = w') := fun W => by have := nnumber_any (b.amount) W; rw [h2] at this; exact this
  generalize b.cells = C at *
  clear h0 h1 h2
  go_enter Tryd.func79, Tryd.ntmps79
  go_wp2_with fail
  refine (N0.out _).mono ?_
  rintro _ w1 ⟨rfl, rfl⟩
  go_wp2_with fail
  refine (N1.out _).mono ?_
  rintro _ w1 ⟨rfl, rfl⟩
  go_wp2_with fail
  refine (N2.out _).mono ?_
  rintro _ w1 ⟨rfl, rfl⟩
  go_wp2_with fail
  go_ret
  exact ⟨rfl, (Below.refl w.heap.size w).alloc (Nat.le_refl _) _⟩
set_option maxRecDepth 20000 in
theorem bidMayBe_3 (b : Bd) (w : World) (h0 : Tx.acct b.who = true) (h1 : Tx.num b.round = true) (h2 : Tx.num b.amount = true) (h3 : Tx.num b.salt = false) :
    Calls Tryd.prog 79 #[.agg b.cells.toArray] w fun e w' => e = .returned (.bool false) ∧ Below w.heap.size w w' := by
  obtain ⟨c0, c1, c2, c3⟩ := bid_box (Row.new w 30 b.cells)
  have N0 : Hid (∀ W, Calls Tryd.prog 109 #[.int .i64 b.who] W fun e w' => e = .returned (.bool true) ∧ W = w') := fun W => by have := naccount_any (b.who) W; rw [h0] at this; exact this
  have N1 : Hid (∀ W, Calls Tryd.prog 110 #[.int .i64 b.round] W fun e w' => e = .returned (.bool true) ∧ W = w') := fun W => by have := nnumber_any (b.round) W; rw [h1] at this; exact this
  have N2 : Hid (∀ W, Calls Tryd.prog 110 #[.int .i64 b.amount] W fun e w' => e = .returned (.bool true) ∧ W = w') := fun W => by have := nnumber_any (b.amount) W; rw [h2] at this; exact this
  have N3 : Hid (∀ W, Calls Tryd.prog 110 #[.int .i64 b.salt] W fun e w' => e = .returned (.bool false) ∧ W = w') := fun W => by have := nnumber_any (b.salt) W; rw [h3] at this; exact this
  generalize b.cells = C at *
  clear h0 h1 h2 h3
  go_enter Tryd.func79, Tryd.ntmps79
  go_wp2_with fail
  refine (N0.out _).mono ?_
  rintro _ w1 ⟨rfl, rfl⟩
  go_wp2_with fail
  refine (N1.out _).mono ?_
  rintro _ w1 ⟨rfl, rfl⟩
  go_wp2_with fail
  refine (N2.out _).mono ?_
  rintro _ w1 ⟨rfl, rfl⟩
  go_wp2_with fail
  refine (N3.out _).mono ?_
  rintro _ w1 ⟨rfl, rfl⟩
  go_wp2_with fail
  go_ret
  exact ⟨rfl, (Below.refl w.heap.size w).alloc (Nat.le_refl _) _⟩
set_option maxRecDepth 20000 in
theorem bidMayBe_4 (b : Bd) (w : World) (h0 : Tx.acct b.who = true) (h1 : Tx.num b.round = true) (h2 : Tx.num b.amount = true) (h3 : Tx.num b.salt = true) :
    Calls Tryd.prog 79 #[.agg b.cells.toArray] w fun e w' => e = .returned (.bool true) ∧ Below w.heap.size w w' := by
  obtain ⟨c0, c1, c2, c3⟩ := bid_box (Row.new w 30 b.cells)
  have N0 : Hid (∀ W, Calls Tryd.prog 109 #[.int .i64 b.who] W fun e w' => e = .returned (.bool true) ∧ W = w') := fun W => by have := naccount_any (b.who) W; rw [h0] at this; exact this
  have N1 : Hid (∀ W, Calls Tryd.prog 110 #[.int .i64 b.round] W fun e w' => e = .returned (.bool true) ∧ W = w') := fun W => by have := nnumber_any (b.round) W; rw [h1] at this; exact this
  have N2 : Hid (∀ W, Calls Tryd.prog 110 #[.int .i64 b.amount] W fun e w' => e = .returned (.bool true) ∧ W = w') := fun W => by have := nnumber_any (b.amount) W; rw [h2] at this; exact this
  have N3 : Hid (∀ W, Calls Tryd.prog 110 #[.int .i64 b.salt] W fun e w' => e = .returned (.bool true) ∧ W = w') := fun W => by have := nnumber_any (b.salt) W; rw [h3] at this; exact this
  generalize b.cells = C at *
  clear h0 h1 h2 h3
  go_enter Tryd.func79, Tryd.ntmps79
  go_wp2_with fail
  refine (N0.out _).mono ?_
  rintro _ w1 ⟨rfl, rfl⟩
  go_wp2_with fail
  refine (N1.out _).mono ?_
  rintro _ w1 ⟨rfl, rfl⟩
  go_wp2_with fail
  refine (N2.out _).mono ?_
  rintro _ w1 ⟨rfl, rfl⟩
  go_wp2_with fail
  refine (N3.out _).mono ?_
  rintro _ w1 ⟨rfl, rfl⟩
  go_wp2_with fail
  go_ret
  exact ⟨rfl, (Below.refl w.heap.size w).alloc (Nat.le_refl _) _⟩
theorem bidMayBe_any (b : Bd) (w : World) :
    Calls Tryd.prog 79 #[.agg b.cells.toArray] w fun e w' => e = .returned (.bool b.ok) ∧ Below w.heap.size w w' := by
  unfold Bd.ok
  rcases Bool.eq_false_or_eq_true (Tx.acct b.who) with h0 | h0
  · rcases Bool.eq_false_or_eq_true (Tx.num b.round) with h1 | h1
    · rcases Bool.eq_false_or_eq_true (Tx.num b.amount) with h2 | h2
      · rcases Bool.eq_false_or_eq_true (Tx.num b.salt) with h3 | h3
        · rw [h0, h1, h2, h3]; exact bidMayBe_4 b w h0 h1 h2 h3
        · rw [h0, h1, h2, h3]; exact bidMayBe_3 b w h0 h1 h2 h3
      · rw [h0, h1, h2]; exact bidMayBe_2 b w h0 h1 h2
    · rw [h0, h1]; exact bidMayBe_1 b w h0 h1
  · rw [h0]; exact bidMayBe_0 b w h0
set_option maxRecDepth 20000 in
theorem bidNumbers_any (b : Bd) (w : World) (hk : b.ok = true) :
    Calls Tryd.prog 81 #[.agg b.cells.toArray] w fun e w' => ∃ v, e = .returned v ∧ w'.ownsRow w.heap.size 9 1 v 4 ((b.numsL.map fun x => Oct.num x.toNat).map S) ∧ Below w.heap.size w w' := by
  obtain ⟨c0, c1, c2, c3⟩ := bid_box (Row.new w 30 b.cells)
  have hB := Bd.ok_nums hk
  have NB : Hid (∀ (W : World) (nb : Nat), Row W nb 3 (Is b.numsL) → Calls Tryd.prog 113 #[.slice (some ⟨nb, 0, none⟩) 4 4] W fun e w' => ∃ v, e = .returned v ∧ w'.ownsRow W.heap.size 9 1 v 4 ((b.numsL.map fun x => Oct.num x.toNat).map S) ∧ Below W.heap.size W w') := fun W nb hN =>
    numbers_any b.numsL 4 hB W nb hN (by simp [Bd.numsL])
  have hnl : Is b.numsL = [.int .i64 b.round, .int .i64 b.who, .int .i64 b.amount, .int .i64 b.salt] := rfl
  generalize (b.numsL.map fun x => Oct.num x.toNat).map S = TS at *
  generalize b.numsL = NL at *
  generalize b.cells = C at *
  have Hnl := Lib.hid hnl
  clear hB hnl hk
  go_enter Tryd.func81, Tryd.ntmps81
  go_wp2_with fail
  refine calls_named ?_
  intro w1 hw1
  obtain ⟨r1, b1, r0⟩ := row_two w C.toArray #[Value.int .i64 b.round, .int .i64 b.who, .int .i64 b.amount, .int .i64 b.salt] 30 3
  have hr1 : Row w1 (w.heap.size + 1) 3 (Is NL) := by rw [hw1, Hnl.out]; exact r1
  have hb1 : Below w.heap.size w w1 := by rw [hw1]; exact b1
  clear hw1 r1 b1 r0
  refine (NB.out w1 _ hr1).mono ?_
  rintro _ w2 ⟨v, rfl, hown, hb2⟩
  have Hown := Lib.hid (hown.mono hb1.size)
  have Hb2 := Lib.hid (two_below' hb1 hb2)
  clear hown hb2 hb1 hr1
  go_wp2_with fail
  go_ret
  exact ⟨v, rfl, Hown.out, Hb2.out⟩
set_option maxRecDepth 20000 in
theorem writeBid_no (b : Bd) (w : World) (ht : b.tag.length = 32) (h : b.ok = false) :
    Calls Tryd.prog 70 #[.agg b.cells.toArray] w fun e w' => e = .returned (.tuple #[S [], .int .i64 2]) ∧ Below w.heap.size w w' := by
  have MB : Hid (∀ W, Calls Tryd.prog 79 #[.agg b.cells.toArray] W fun e w' => e = .returned (.bool false) ∧ Below W.heap.size W w') := fun W => by have := bidMayBe_any b W; rw [h] at this; exact this
  have HL := Lib.hid (Bd.cells_len ht)
  have Hrow0 := Lib.hid (Row.new w 30 b.cells)
  generalize b.cells = C at *
  clear h
  go_enter Tryd.func70, Tryd.ntmps70
  go_wp2_with (with_reducible show wpList _ _ _ (⟨_, .load 30 _, _, _, _, _⟩ :: _) _ _; refine wpList_load_tx rfl 30 (.tmp 1) rfl w.heap.size 0 rfl C _ (row_range Hrow0.out) Tryd.underlying30 rfl (by rw [bid_info, HL.out]) ?_)
  refine (MB.out _).mono ?_
  rintro _ w1 ⟨rfl, hb1⟩
  have Hb1 := Lib.hid (tx_below (grownBy_of_below hb1 none))
  clear hb1
  go_wp2_with fail
  go_ret2
  exact ⟨rfl, Hb1.out⟩
set_option maxRecDepth 20000 in
set_option maxHeartbeats 1600000 in
theorem writeBid_ok (b : Bd) (w : World) (ht : b.tag.length = 32) (h : b.ok = true) :
    Calls Tryd.prog 70 #[.agg b.cells.toArray] w fun e w' => e = .returned (.tuple #[S (Oct.listE b.fields).1, .int .i64 (Oct.listE b.fields).2]) ∧ Below w.heap.size w w' := by
  obtain ⟨i0, hi, hz, hs, hby⟩ := str5
  have Hi := Lib.hid hi
  have Hz := Lib.hid hz
  have Hs := Lib.hid hs
  have Hby := Lib.hid hby
  have MB : Hid (∀ W, Calls Tryd.prog 79 #[.agg b.cells.toArray] W fun e w' => e = .returned (.bool true) ∧ Below W.heap.size W w') := fun W => by have := bidMayBe_any b W; rw [h] at this; exact this
  have BN := Lib.hid (fun W => bidNumbers_any b W h)
  have HL := Lib.hid (Bd.cells_len ht)
  have Hrow0 := Lib.hid (Row.new w 30 b.cells)
  have HT := Lib.hid ht
  have BT : Hid (∀ (W : World) (g : Nat) (T : TypeId), Row W g T b.cells → W.rangeAt g 4 (bRow b.tag).toList) := fun W g T h => bid_tag h
  have hff : (b.numsL.map fun x => Oct.num x.toNat).map S ++ [S b.tag] = b.fields.map S := by unfold Bd.fields; rw [List.map_append]; rfl
  have Hff := Lib.hid hff
  have Hfl : Hid (4 + 1 = b.fields.length) := (rfl : 4 + 1 = b.fields.length)
  generalize (b.numsL.map fun x => Oct.num x.toNat).map S = NS at *
  generalize b.fields = L at *
  generalize b.cells = C at *
  clear hi hz hs hby h hff ht
  have hu := Tryd.underlying30
  have hi41 : (Tryd.prog.info? 30).map (·.size) = some C.length := by rw [bid_info, HL.out]
  go_enter Tryd.func70, Tryd.ntmps70
  go_wp2_with (with_reducible show wpList _ _ _ (⟨_, .load 30 _, _, _, _, _⟩ :: _) _ _; refine wpList_load_tx rfl 30 (.tmp 1) rfl w.heap.size 0 rfl C _ (row_range Hrow0.out) Tryd.underlying30 rfl (by rw [bid_info, HL.out]) ?_)
  refine (MB.out _).mono ?_
  rintro _ w1 ⟨rfl, hb1⟩
  have HS0 := Lib.hid ((rowIn_call hb1).drew)
  clear hb1
  go_wp2_with fail
  refine wp_region_noPanic ?_
  refine wp_region_held_drew (S := fun w' => RowIn w w' w.heap.size 30 C) (by kernel_rfl) (HS0.out) (fun hHeld => ?_)
  generalize w1.drew = w9 at *
  refine' wpAnyH_take (i := 0) (v := _) rfl (by kernel_rfl) (by kernel_rfl) (by kernel_rfl) (fun _ _ _ h => h) (yieldsIf_load_mid (by rfl) _ _ rfl w.heap.size 0 rfl C _ (fun w' hSw => (row_range hSw.1)) hu rfl hi41) hHeld ?_
  try simp only [Act.put, List.getElem_toArray, List.getElem_cons_succ, List.getElem_cons_zero, List.setIfInBounds_toArray, List.set_cons_zero, List.set_cons_succ]
  refine wpAnyH_take (i := 2) (v := .pointer (some ⟨w.heap.size, 4, none⟩)) rfl (by kernel_rfl) (by kernel_rfl) (by kernel_rfl) (fun _ _ _ h => h) (Or.inl ⟨by rfl, fun w' hSw => by go_simp⟩) hHeld ?_
  try simp only [Act.put, List.getElem_toArray, List.getElem_cons_succ, List.getElem_cons_zero, List.setIfInBounds_toArray, List.set_cons_zero, List.set_cons_succ]
  refine wpAnyH_take (i := 3) (v := .slice (some ⟨w.heap.size, 4, none⟩) 32 32) rfl (by kernel_rfl) (by kernel_rfl) (by kernel_rfl) (fun _ _ _ h => h) (Or.inl ⟨by rfl, fun w' hSw => by go_simp⟩) hHeld ?_
  try simp only [Act.put, List.getElem_toArray, List.getElem_cons_succ, List.getElem_cons_zero, List.setIfInBounds_toArray, List.set_cons_zero, List.set_cons_succ]
  refine wpAnyH_take (i := 4) (v := S b.tag) rfl (by kernel_rfl) (by kernel_rfl) (by kernel_rfl) (fun _ _ _ h => h) (Or.inl ⟨by rfl, fun w' hSw => by have hq := hSw; have hc := hash_str4 w' w.heap.size 4 b.tag HT.out (BT.out w' _ _ hq.1); go_simp⟩) hHeld ?_
  try simp only [Act.put, List.getElem_toArray, List.getElem_cons_succ, List.getElem_cons_zero, List.setIfInBounds_toArray, List.set_cons_zero, List.set_cons_succ]
  refine wpAnyH_ready (rs := [1, 5]) (by kernel_rfl) (by simp) (AllReadyH.cons rfl (fun K1 hK1 => ?_) (AllReadyH.cons rfl (fun K1 hK1 => ?_) AllReadyH.nil))
  · skip
    try simp only [Act.put, List.getElem_toArray, List.getElem_cons_succ, List.getElem_cons_zero, List.setIfInBounds_toArray, List.set_cons_zero, List.set_cons_succ]
    go_simp
    refine Calls.mono (BN.out _) ?_
    rintro e wn1 ⟨vN, rfl, hown, hn2⟩
    have hown := hown.mono hHeld.size
    refine hK1.out _ _ (hHeld.step hn2) (fun hHeld => ?_)
    clear hK1 K1
    try simp only [Act.put, List.getElem_toArray, List.getElem_cons_succ, List.getElem_cons_zero, List.setIfInBounds_toArray, List.set_cons_zero, List.set_cons_succ]
    refine wpAnyH_ready (rs := [5]) (by kernel_rfl) (by simp) (AllReadyH.cons rfl (fun K1 hK1 => ?_) AllReadyH.nil)
    try simp only [Act.put, List.getElem_toArray, List.getElem_cons_succ, List.getElem_cons_zero, List.setIfInBounds_toArray, List.set_cons_zero, List.set_cons_succ]
    go_simp
    have hd4 := (Below.refl wn1.heap.size wn1).alloc (Nat.le_refl _) (.cells #[S b.tag] 9)
    have r2 : Row (wn1.alloc (.cells #[S b.tag] 9)) wn1.heap.size 9 ([S b.tag]) := Row.new wn1 9 ([S b.tag])
    have hown := own_below hown hd4
    have hHeld2 := hHeld.step hd4
    generalize wn1.alloc (.cells #[S b.tag] 9) = wb3 at *
    obtain ⟨gb5, gb5e⟩ : ∃ gb5, gb5 = wn1.heap.size := ⟨_, rfl⟩
    rw [← gb5e] at r2 ⊢
    refine hK1.out _ _ (hHeld2) (fun hHeld => ?_)
    clear hK1 K1
    try simp only [Act.put, List.getElem_toArray, List.getElem_cons_succ, List.getElem_cons_zero, List.setIfInBounds_toArray, List.set_cons_zero, List.set_cons_succ]
    clear hHeld2 gb5e
    refine wpAnyH_ready (rs := [6]) (by kernel_rfl) (by simp) (AllReadyH.cons rfl (fun K1 hK1 => ?_) AllReadyH.nil)
    try simp only [Act.put, List.getElem_toArray, List.getElem_cons_succ, List.getElem_cons_zero, List.setIfInBounds_toArray, List.set_cons_zero, List.set_cons_succ]
    rw [if_pos (by rfl)]
    refine wp_append_own_wide wb3 _ _ 133 rfl w.heap.size 9 i0 (.string ByteArray.empty) 1 16 Tryd.underlying133 Hi.out Hz.out Hs.out Hby.out rfl (by decide) vN 4 NS rfl hown ⟨gb5, 0, none⟩ 1 1 [S b.tag] rfl rfl (row_news r2) (by intro u hu; simp at hu; first | (subst hu; rfl) | (rcases hu with rfl | rfl <;> rfl)) (by unfold maxLen; omega) (by omega) hHeld.size fun vP wp6 hownP hgrow _ => ?_
    have hHeld2 := own_keeps hHeld (by decide) hown (Nat.le_refl _) hgrow
    clear hown r2 hgrow
    refine hK1.out _ _ (hHeld2) (fun hHeld => ?_)
    clear hK1 K1
    try simp only [Act.put, List.getElem_toArray, List.getElem_cons_succ, List.getElem_cons_zero, List.setIfInBounds_toArray, List.set_cons_zero, List.set_cons_succ]
    refine wpAnyH_ready (rs := [7]) (by kernel_rfl) (by simp) (AllReadyH.cons rfl (fun K1 hK1 => ?_) AllReadyH.nil)
    try simp only [Act.put, List.getElem_toArray, List.getElem_cons_succ, List.getElem_cons_zero, List.setIfInBounds_toArray, List.set_cons_zero, List.set_cons_succ]
    go_simp
    refine Calls.mono (list_owned L Hff.out hownP Hfl.out) ?_
    rintro e wl7 ⟨rfl, hl8⟩
    refine hK1.out _ _ (hHeld.step hl8) (fun hHeld => ?_)
    clear hK1 K1
    try simp only [Act.put, List.getElem_toArray, List.getElem_cons_succ, List.getElem_cons_zero, List.setIfInBounds_toArray, List.set_cons_zero, List.set_cons_succ]
    refine wpAnyH_take (i := 8) (v := S (Oct.listE L).1) rfl (by kernel_rfl) (by kernel_rfl) (by kernel_rfl) (fun _ _ _ h => h) (Or.inl ⟨by rfl, fun w' hSw => by go_simp⟩) hHeld ?_
    try simp only [Act.put, List.getElem_toArray, List.getElem_cons_succ, List.getElem_cons_zero, List.setIfInBounds_toArray, List.set_cons_zero, List.set_cons_succ]
    refine wpAnyH_take (i := 9) (v := .int .i64 (Oct.listE L).2) rfl (by kernel_rfl) (by kernel_rfl) (by kernel_rfl) (fun _ _ _ h => h) (Or.inl ⟨by rfl, fun w' hSw => by go_simp⟩) hHeld ?_
    try simp only [Act.put, List.getElem_toArray, List.getElem_cons_succ, List.getElem_cons_zero, List.setIfInBounds_toArray, List.set_cons_zero, List.set_cons_succ]
    refine wpAnyH_take (i := 10) (v := S (Oct.listE L).1) rfl (by kernel_rfl) (by kernel_rfl) (by kernel_rfl) (fun _ _ _ h => h) (Or.inl ⟨by rfl, fun w' hSw => by go_simp⟩) hHeld ?_
    try simp only [Act.put, List.getElem_toArray, List.getElem_cons_succ, List.getElem_cons_zero, List.setIfInBounds_toArray, List.set_cons_zero, List.set_cons_succ]
    refine wpAnyH_take (i := 11) (v := .int .i64 (Oct.listE L).2) rfl (by kernel_rfl) (by kernel_rfl) (by kernel_rfl) (fun _ _ _ h => h) (Or.inl ⟨by rfl, fun w' hSw => by go_simp⟩) hHeld ?_
    try simp only [Act.put, List.getElem_toArray, List.getElem_cons_succ, List.getElem_cons_zero, List.setIfInBounds_toArray, List.set_cons_zero, List.set_cons_succ]
    refine wpAnyH_done (by kernel_rfl) ?_ _
    refine NoPanic.normal ?_
    have Hbe := Lib.hid hHeld.2
    clear hHeld hu hi41
    go_wp2_with fail
    go_ret2
    exact ⟨rfl, Hbe.out⟩
  · skip
    try simp only [Act.put, List.getElem_toArray, List.getElem_cons_succ, List.getElem_cons_zero, List.setIfInBounds_toArray, List.set_cons_zero, List.set_cons_succ]
    go_simp
    have hd10 := (Below.refl w9.heap.size w9).alloc (Nat.le_refl _) (.cells #[S b.tag] 9)
    have r2 : Row (w9.alloc (.cells #[S b.tag] 9)) w9.heap.size 9 ([S b.tag]) := Row.new w9 9 ([S b.tag])
    have hHeld2 := hHeld.step hd10
    generalize w9.alloc (.cells #[S b.tag] 9) = wb9 at *
    obtain ⟨gb11, gb11e⟩ : ∃ gb11, gb11 = w9.heap.size := ⟨_, rfl⟩
    rw [← gb11e] at r2 ⊢
    refine hK1.out _ _ (hHeld2) (fun hHeld => ?_)
    clear hK1 K1
    try simp only [Act.put, List.getElem_toArray, List.getElem_cons_succ, List.getElem_cons_zero, List.setIfInBounds_toArray, List.set_cons_zero, List.set_cons_succ]
    clear hHeld2 gb11e
    refine wpAnyH_ready (rs := [1]) (by kernel_rfl) (by simp) (AllReadyH.cons rfl (fun K1 hK1 => ?_) AllReadyH.nil)
    try simp only [Act.put, List.getElem_toArray, List.getElem_cons_succ, List.getElem_cons_zero, List.setIfInBounds_toArray, List.set_cons_zero, List.set_cons_succ]
    go_simp
    refine Calls.mono (BN.out _) ?_
    rintro e wn12 ⟨vN, rfl, hown, hn13⟩
    have hown := hown.mono hHeld.size
    have r2 := r2.kept (grownBy_of_below hn13 none) (by simp)
    refine hK1.out _ _ (hHeld.step hn13) (fun hHeld => ?_)
    clear hK1 K1
    try simp only [Act.put, List.getElem_toArray, List.getElem_cons_succ, List.getElem_cons_zero, List.setIfInBounds_toArray, List.set_cons_zero, List.set_cons_succ]
    refine wpAnyH_ready (rs := [6]) (by kernel_rfl) (by simp) (AllReadyH.cons rfl (fun K1 hK1 => ?_) AllReadyH.nil)
    try simp only [Act.put, List.getElem_toArray, List.getElem_cons_succ, List.getElem_cons_zero, List.setIfInBounds_toArray, List.set_cons_zero, List.set_cons_succ]
    rw [if_pos (by rfl)]
    refine wp_append_own_wide wn12 _ _ 133 rfl w.heap.size 9 i0 (.string ByteArray.empty) 1 16 Tryd.underlying133 Hi.out Hz.out Hs.out Hby.out rfl (by decide) vN 4 NS rfl hown ⟨gb11, 0, none⟩ 1 1 [S b.tag] rfl rfl (row_news r2) (by intro u hu; simp at hu; first | (subst hu; rfl) | (rcases hu with rfl | rfl <;> rfl)) (by unfold maxLen; omega) (by omega) hHeld.size fun vP wp14 hownP hgrow _ => ?_
    have hHeld2 := own_keeps hHeld (by decide) hown (Nat.le_refl _) hgrow
    clear hown r2 hgrow
    refine hK1.out _ _ (hHeld2) (fun hHeld => ?_)
    clear hK1 K1
    try simp only [Act.put, List.getElem_toArray, List.getElem_cons_succ, List.getElem_cons_zero, List.setIfInBounds_toArray, List.set_cons_zero, List.set_cons_succ]
    refine wpAnyH_ready (rs := [7]) (by kernel_rfl) (by simp) (AllReadyH.cons rfl (fun K1 hK1 => ?_) AllReadyH.nil)
    try simp only [Act.put, List.getElem_toArray, List.getElem_cons_succ, List.getElem_cons_zero, List.setIfInBounds_toArray, List.set_cons_zero, List.set_cons_succ]
    go_simp
    refine Calls.mono (list_owned L Hff.out hownP Hfl.out) ?_
    rintro e wl15 ⟨rfl, hl16⟩
    refine hK1.out _ _ (hHeld.step hl16) (fun hHeld => ?_)
    clear hK1 K1
    try simp only [Act.put, List.getElem_toArray, List.getElem_cons_succ, List.getElem_cons_zero, List.setIfInBounds_toArray, List.set_cons_zero, List.set_cons_succ]
    refine wpAnyH_take (i := 8) (v := S (Oct.listE L).1) rfl (by kernel_rfl) (by kernel_rfl) (by kernel_rfl) (fun _ _ _ h => h) (Or.inl ⟨by rfl, fun w' hSw => by go_simp⟩) hHeld ?_
    try simp only [Act.put, List.getElem_toArray, List.getElem_cons_succ, List.getElem_cons_zero, List.setIfInBounds_toArray, List.set_cons_zero, List.set_cons_succ]
    refine wpAnyH_take (i := 9) (v := .int .i64 (Oct.listE L).2) rfl (by kernel_rfl) (by kernel_rfl) (by kernel_rfl) (fun _ _ _ h => h) (Or.inl ⟨by rfl, fun w' hSw => by go_simp⟩) hHeld ?_
    try simp only [Act.put, List.getElem_toArray, List.getElem_cons_succ, List.getElem_cons_zero, List.setIfInBounds_toArray, List.set_cons_zero, List.set_cons_succ]
    refine wpAnyH_take (i := 10) (v := S (Oct.listE L).1) rfl (by kernel_rfl) (by kernel_rfl) (by kernel_rfl) (fun _ _ _ h => h) (Or.inl ⟨by rfl, fun w' hSw => by go_simp⟩) hHeld ?_
    try simp only [Act.put, List.getElem_toArray, List.getElem_cons_succ, List.getElem_cons_zero, List.setIfInBounds_toArray, List.set_cons_zero, List.set_cons_succ]
    refine wpAnyH_take (i := 11) (v := .int .i64 (Oct.listE L).2) rfl (by kernel_rfl) (by kernel_rfl) (by kernel_rfl) (fun _ _ _ h => h) (Or.inl ⟨by rfl, fun w' hSw => by go_simp⟩) hHeld ?_
    try simp only [Act.put, List.getElem_toArray, List.getElem_cons_succ, List.getElem_cons_zero, List.setIfInBounds_toArray, List.set_cons_zero, List.set_cons_succ]
    refine wpAnyH_done (by kernel_rfl) ?_ _
    refine NoPanic.normal ?_
    have Hbe := Lib.hid hHeld.2
    clear hHeld hu hi41
    go_wp2_with fail
    go_ret2
    exact ⟨rfl, Hbe.out⟩
theorem writeBid_any (b : Bd) (ht : b.tag.length = 32) (w : World) :
    Calls Tryd.prog 70 #[b.v] w fun e w' => e = .returned (two b.textE.1 b.textE.2) ∧ Below w.heap.size w w' := by
  unfold Bd.textE
  rcases Bool.eq_false_or_eq_true b.ok with h | h
  · rw [if_pos h]; exact writeBid_ok b w ht h
  · rw [if_neg (by rw [h]; simp)]; exact writeBid_no b w ht h
end Go.Proofs.YtlapmdgkcidhnaaDoor
namespace Go.Proofs.YtlapmdgkcidhnaaDoor
open Go.RowKit
set_option linter.unusedVariables false
set_option linter.unusedSimpArgs false

namespace Bd
theorem put_tag {b : Bd} (h : b.tag.length = 32) (R : List UInt8) (hR : R.length = 32) : b.cells.take 4 ++ ((bRow R).toList ++ b.cells.drop (4 + (bRow R).toList.length)) = Bd.cells { b with tag := R } := by
  rw [List.drop_of_length_le (by rw [cells_len h, Tx.bRow_len R hR]; omega), List.append_nil]
  rfl
theorem body_len (b : Bd) : b.body.length ≤ 100000 := listE_len _
def pairV (x : Bd × Int) : Value := .tuple #[.agg x.1.cells.toArray, .int .i64 x.2]
end Bd
theorem Bd.zero_built0 : Tryd.prog.built 30 [] = some Bd.zero.cells.toArray := by kernel_rfl
/-- the numbers' list -/
theorem bodyL {b : Bd} {W : World} {base : Nat} {v : Value} (h : W.ownsRow base 9 1 v 4 ((b.numsL.map fun x => Oct.num x.toNat).map S)) :
    Calls Tryd.prog 80 #[v] W fun e w' => ∃ n : Int, e = .returned (.tuple #[S b.body, .int .i64 n]) ∧ Below W.heap.size W w' :=
  (list_owned (k := 3) _ rfl h rfl).mono fun e w' ⟨h1, h2⟩ => ⟨_, h1, h2⟩
set_option maxRecDepth 20000 in
set_option maxHeartbeats 1600000 in
theorem checkBid_any (b : Bd) (hf : b.tag.length = 32) (w : World) (hT : Tab w) :
    Calls Tryd.prog 53 #[.agg b.cells.toArray] w fun e w' => e = .returned (.int .i64 b.check) ∧ Below w.heap.size w w' := by
  have MB := Lib.hid (fun W => bidMayBe_any b W)
  have HL := Lib.hid (Bd.cells_len hf)
  have Hrow0 := Lib.hid (Row.new w 30 b.cells)
  have HTab := Lib.hid hT
  have Hp := Lib.hid hT.pos
  have hbl := b.body_len
  have CK : Hid (∀ W, Tab W → Calls Tryd.prog 82 #[.int .i64 b.who, .int .i64 3, S b.body, .agg (bRow b.tag)] W fun e w' => e = .returned (.int .i64 (Seal.check2 b.who 3 b.body b.tag)) ∧ Below W.heap.size W w') := fun W hW => Check_any b.who 3 ⟨b.body.toArray⟩ b.tag W hW hf (by show b.body.length ≤ _; omega)
  have BX : Hid (∀ (W : World) (g : Nat) (T : TypeId), Row W g T b.cells → W.cell? ⟨g, 1, none⟩ = some (.int .i64 b.who) ∧ W.rangeAt g 4 (bRow b.tag).toList) := fun W g T h => ⟨(bid_box h).2.1, bid_tag h⟩
  have HB32 := Lib.hid (Tx.bRow_len _ hf)
  rcases Bool.eq_false_or_eq_true b.ok with hk | hk
  · have he : b.check = Seal.check2 b.who 3 b.body b.tag := by unfold Bd.check; rw [if_pos hk]
    rw [he]
    have BN := Lib.hid (fun W => bidNumbers_any b W hk)
    have BL : Hid (∀ (W : World) (base : Nat) (v : Value), W.ownsRow base 9 1 v 4 ((b.numsL.map fun x => Oct.num x.toNat).map S) → Calls Tryd.prog 80 #[v] W fun e w' => ∃ n : Int, e = .returned (.tuple #[S b.body, .int .i64 n]) ∧ Below W.heap.size W w') := fun W base v h => bodyL h
    rw [hk] at MB
    generalize (b.numsL.map fun x => Oct.num x.toNat).map S = NS at *
    generalize Seal.check2 b.who 3 b.body b.tag = tn at *
    generalize b.body = bs at *
    generalize b.cells = C at *
    clear hT hf hk he hbl
    go_enter Tryd.func53, Tryd.ntmps53
    go_wp2_with (with_reducible show wpList _ _ _ (⟨_, .load 30 _, _, _, _, _⟩ :: _) _ _; refine wpList_load_tx rfl 30 (.tmp 1) rfl w.heap.size 0 rfl C _ (row_range Hrow0.out) Tryd.underlying30 rfl (by rw [bid_info, HL.out]) ?_)
    refine (MB.out _).mono ?_
    rintro _ w2 ⟨rfl, hb2⟩
    have hg2 := grownBy_of_below hb2 none
    have Hq2 := Lib.hid (Hrow0.out.kept hg2 (by simp))
    have Hb2 := Lib.hid (tx_below hg2)
    clear hb2 hg2
    go_wp2_with (with_reducible show wpList _ _ _ (⟨_, .load 30 _, _, _, _, _⟩ :: _) _ _; refine wpList_load_tx rfl 30 (.tmp 1) rfl w.heap.size 0 rfl C _ (row_range Hq2.out) Tryd.underlying30 rfl (by rw [bid_info, HL.out]) ?_)
    refine (BN.out w2).mono ?_
    rintro _ w3 ⟨v, rfl, hown, hb3⟩
    have hg3 := grownBy_of_below hb3 none
    have Hq3 := Lib.hid (Hq2.out.kept hg3 (by simp))
    have Hb3 := Lib.hid (two_below' Hb2.out hb3)
    have Hown := Lib.hid hown
    clear hb3 hg3 hown
    go_wp2_with fail
    refine (BL.out w3 _ v Hown.out).mono ?_
    rintro _ w4 ⟨n, rfl, hb4⟩
    have hg4 := grownBy_of_below hb4 none
    obtain ⟨c1, rt⟩ := BX.out _ _ _ (Hq3.out.kept hg4 (by simp))
    have Hb4 := Lib.hid (two_below' Hb3.out hb4)
    have Hrt := Lib.hid rt
    clear hb4 hg4 rt
    go_wp2_with (with_reducible show wpList _ _ _ (⟨_, .load 28 _, _, _, _, _⟩ :: _) _ _; refine wpList_load_tx rfl 28 (.tmp 17) rfl w.heap.size 4 rfl (bRow b.tag).toList _ Hrt.out Tryd.underlying28 rfl (by rw [hash_info, HB32.out]) ?_)
    refine (CK.out w4 (HTab.out.below Hb4.out Hp.out)).mono ?_
    rintro _ w5 ⟨rfl, hb5⟩
    have Hb5 := Lib.hid (two_below' Hb4.out hb5)
    clear hb5 c1
    go_wp2_with fail
    go_ret
    exact ⟨rfl, Hb5.out⟩
  · have he : b.check = 2 := by unfold Bd.check; rw [if_neg (by rw [hk]; simp)]
    rw [he]
    rw [hk] at MB
    generalize b.cells = C at *
    clear hT hf hk he hbl CK
    go_enter Tryd.func53, Tryd.ntmps53
    go_wp2_with (with_reducible show wpList _ _ _ (⟨_, .load 30 _, _, _, _, _⟩ :: _) _ _; refine wpList_load_tx rfl 30 (.tmp 1) rfl w.heap.size 0 rfl C _ (row_range Hrow0.out) Tryd.underlying30 rfl (by rw [bid_info, HL.out]) ?_)
    refine (MB.out _).mono ?_
    rintro _ w2 ⟨rfl, hb2⟩
    have Hb2 := Lib.hid (tx_below (grownBy_of_below hb2 none))
    clear hb2
    go_wp2_with fail
    go_ret
    exact ⟨rfl, Hb2.out⟩
end Go.Proofs.YtlapmdgkcidhnaaDoor
namespace Go.Proofs.YtlapmdgkcidhnaaDoor
open Go.RowKit
set_option linter.unusedVariables false
set_option linter.unusedSimpArgs false

namespace Bd
end Bd
end Go.Proofs.YtlapmdgkcidhnaaDoor

/- ---- NoF ---- -/
/- notes: batchMayBe. -/
/- notes: WriteBatch. -/
namespace Go.Proofs.YtlapmdgkcidhnaaDoor
open Go.RowKit
set_option linter.unusedVariables false
set_option linter.unusedSimpArgs false

/-- a batch's cells -/
def Bt.cells (b : Bt) (A : Option Addr) (cap : Nat) : List Value := [.int .i64 b.seq, .int .i64 b.first, .int .i64 b.before, .slice A b.parts.length cap]
end Go.Proofs.YtlapmdgkcidhnaaDoor
namespace Go.Proofs.YtlapmdgkcidhnaaDoor
open Go.RowKit
set_option linter.unusedVariables false
set_option linter.unusedSimpArgs false

theorem Bt.cells_len (b : Bt) (A : Option Addr) (cap : Nat) : (b.cells A cap).length = 4 := rfl
end Go.Proofs.YtlapmdgkcidhnaaDoor

/- ---- NoD ---- -/
/- The reference of layer 5: within, text, list, Item, WriteItem. -/
/- The reference of layer 5: bids. -/
namespace Go.Proofs.YtlapmdgkcidhnaaDoor
open Go.RowKit
set_option linter.unusedVariables false
set_option linter.unusedSimpArgs false

theorem within5_any (n m : Int) (w : World) :
    Calls Tryd.prog 105 #[.int .i64 n, .int .i64 m] w fun e w' => e = .returned (.bool (decide (0 ≤ n) && decide (n ≤ m))) ∧ w = w' := by
  by_cases h : 0 ≤ n
  · have hd : decide (0 ≤ n) = true := by simpa using h
    have Hd := Lib.hid hd
    clear hd
    go_enter Tryd.func105, Tryd.ntmps105
    go_wp2
    go_ret
    exact ⟨by rw [Hd.out]; rfl, rfl⟩
  · have hd : decide (0 ≤ n) = false := by simpa using h
    have Hd := Lib.hid hd
    clear hd
    go_enter Tryd.func105, Tryd.ntmps105
    go_wp2
    go_ret
    exact ⟨by rw [Hd.out]; rfl, rfl⟩
theorem within5_b (n m : Int) (b : Bool) (h : (decide (0 ≤ n) && decide (n ≤ m)) = b) (w : World) :
    Calls Tryd.prog 105 #[.int .i64 n, .int .i64 m] w fun e w' => e = .returned (.bool b) ∧ w = w' := by
  have := within5_any n m w
  rw [h] at this
  exact this
theorem text5_any (n : Int) (w : World) (h0 : 0 ≤ n) (h1 : n ≤ 9223372036854775807) :
    Calls Tryd.prog 77 #[.int .i64 n] w fun e w' => e = .returned (S (Oct.num n.toNat)) ∧ Below w.heap.size w w' := by
  have RN : Hid (∀ W, Calls Tryd.prog 107 #[.int .i64 n] W fun e w' => e = .returned (.tuple #[S (Oct.num n.toNat), .int .i64 0]) ∧ Below W.heap.size W w') := fun W => by
    have := refNumber_any n W h1
    unfold Oct.numE at this
    rw [if_neg (by omega)] at this
    exact this
  go_enter Tryd.func77, Tryd.ntmps77
  go_wp2_with fail
  refine (RN.out _).mono ?_
  rintro _ w1 ⟨rfl, hb1⟩
  have Hb1 := Lib.hid hb1
  clear hb1
  go_wp2_with fail
  go_ret
  exact ⟨rfl, Hb1.out⟩
theorem list5_any (A : Option Addr) (c : Nat) (L : List (List UInt8)) (w : World) (hr : Texts w w.heap.size A L) :
    Calls Tryd.prog 76 #[.slice A L.length c] w fun e w' => e = .returned (.tuple #[S (Oct.listE L).1, .int .i64 (Oct.listE L).2]) ∧ Below w.heap.size w w' := by
  have RL : Hid (Calls Tryd.prog 106 #[.slice A L.length c] w fun e w' => e = .returned (.tuple #[S (Oct.listE L).1, .int .i64 (Oct.listE L).2]) ∧ Below w.heap.size w w') := refList_any A c L w hr
  generalize L.length = m at *
  clear hr
  go_enter Tryd.func76, Tryd.ntmps76
  go_wp2_with fail
  refine RL.out.mono ?_
  rintro _ w1 ⟨rfl, hb1⟩
  have Hb1 := Lib.hid hb1
  clear hb1
  go_wp2_with fail
  go_ret2
  exact ⟨rfl, Hb1.out⟩
theorem list5_row (L : List (List UInt8)) {W : World} {g : Nat} {xs : List Value} (h : Row W g 9 xs) (hx : xs = L.map S) (n c : Nat) (hn : n = L.length) :
    Calls Tryd.prog 76 #[.slice (some ⟨g, 0, none⟩) n c] W fun e w' => e = .returned (.tuple #[S (Oct.listE L).1, .int .i64 (Oct.listE L).2]) ∧ Below W.heap.size W w' := by
  subst hn hx
  refine list5_any _ c L W fun _ => ⟨g, 0, rfl, h.lt, fun i hi => ?_⟩
  rw [Nat.zero_add, h.cell i (by simpa using hi)]
  simp
end Go.Proofs.YtlapmdgkcidhnaaDoor
namespace Go.Proofs.YtlapmdgkcidhnaaDoor
open Go.RowKit
set_option linter.unusedVariables false
set_option linter.unusedSimpArgs false

set_option maxRecDepth 20000 in
theorem bid5_0 (b : Bd) (w : World) (h0 : Tx.num b.round = false) :
    Calls Tryd.prog 75 #[.agg b.cells.toArray] w fun e w' => e = .returned (.bool false) ∧ Below w.heap.size w w' := by
  obtain ⟨c0, c1, c2, c3⟩ := bid_box (Row.new w 30 b.cells)
  have N0 := Lib.hid (within5_b b.round 1099511627776 _ h0)
  generalize b.cells = C at *
  clear h0
  go_enter Tryd.func75, Tryd.ntmps75
  go_wp2_with fail
  refine (N0.out _).mono ?_
  rintro _ w1 ⟨rfl, rfl⟩
  go_wp2_with fail
  go_ret
  exact ⟨rfl, (Below.refl w.heap.size w).alloc (Nat.le_refl _) _⟩
set_option maxRecDepth 20000 in
theorem bid5_1 (b : Bd) (w : World) (h0 : Tx.num b.round = true) (h1 : Tx.acct b.who = false) :
    Calls Tryd.prog 75 #[.agg b.cells.toArray] w fun e w' => e = .returned (.bool false) ∧ Below w.heap.size w w' := by
  obtain ⟨c0, c1, c2, c3⟩ := bid_box (Row.new w 30 b.cells)
  have N0 := Lib.hid (within5_b b.round 1099511627776 _ h0)
  have N1 := Lib.hid (within5_b b.who 63 _ h1)
  generalize b.cells = C at *
  clear h0 h1
  go_enter Tryd.func75, Tryd.ntmps75
  go_wp2_with fail
  refine (N0.out _).mono ?_
  rintro _ w1 ⟨rfl, rfl⟩
  go_wp2_with fail
  refine (N1.out _).mono ?_
  rintro _ w1 ⟨rfl, rfl⟩
  go_wp2_with fail
  go_ret
  exact ⟨rfl, (Below.refl w.heap.size w).alloc (Nat.le_refl _) _⟩
set_option maxRecDepth 20000 in
theorem bid5_2 (b : Bd) (w : World) (h0 : Tx.num b.round = true) (h1 : Tx.acct b.who = true) (h2 : Tx.num b.amount = false) :
    Calls Tryd.prog 75 #[.agg b.cells.toArray] w fun e w' => e = .returned (.bool false) ∧ Below w.heap.size w w' := by
  obtain ⟨c0, c1, c2, c3⟩ := bid_box (Row.new w 30 b.cells)
  have N0 := Lib.hid (within5_b b.round 1099511627776 _ h0)
  have N1 := Lib.hid (within5_b b.who 63 _ h1)
  have N2 := Lib.hid (within5_b b.amount 1099511627776 _ h2)
  generalize b.cells = C at *
  clear h0 h1 h2
  go_enter Tryd.func75, Tryd.ntmps75
  go_wp2_with fail
  refine (N0.out _).mono ?_
  rintro _ w1 ⟨rfl, rfl⟩
  go_wp2_with fail
  refine (N1.out _).mono ?_
  rintro _ w1 ⟨rfl, rfl⟩
  go_wp2_with fail
  refine (N2.out _).mono ?_
  rintro _ w1 ⟨rfl, rfl⟩
  go_wp2_with fail
  go_ret
  exact ⟨rfl, (Below.refl w.heap.size w).alloc (Nat.le_refl _) _⟩
set_option maxRecDepth 20000 in
theorem bid5_3 (b : Bd) (w : World) (h0 : Tx.num b.round = true) (h1 : Tx.acct b.who = true) (h2 : Tx.num b.amount = true) (h3 : Tx.num b.salt = false) :
    Calls Tryd.prog 75 #[.agg b.cells.toArray] w fun e w' => e = .returned (.bool false) ∧ Below w.heap.size w w' := by
  obtain ⟨c0, c1, c2, c3⟩ := bid_box (Row.new w 30 b.cells)
  have N0 := Lib.hid (within5_b b.round 1099511627776 _ h0)
  have N1 := Lib.hid (within5_b b.who 63 _ h1)
  have N2 := Lib.hid (within5_b b.amount 1099511627776 _ h2)
  have N3 := Lib.hid (within5_b b.salt 1099511627776 _ h3)
  generalize b.cells = C at *
  clear h0 h1 h2 h3
  go_enter Tryd.func75, Tryd.ntmps75
  go_wp2_with fail
  refine (N0.out _).mono ?_
  rintro _ w1 ⟨rfl, rfl⟩
  go_wp2_with fail
  refine (N1.out _).mono ?_
  rintro _ w1 ⟨rfl, rfl⟩
  go_wp2_with fail
  refine (N2.out _).mono ?_
  rintro _ w1 ⟨rfl, rfl⟩
  go_wp2_with fail
  refine (N3.out _).mono ?_
  rintro _ w1 ⟨rfl, rfl⟩
  go_wp2_with fail
  go_ret
  exact ⟨rfl, (Below.refl w.heap.size w).alloc (Nat.le_refl _) _⟩
set_option maxRecDepth 20000 in
theorem bid5_4 (b : Bd) (w : World) (h0 : Tx.num b.round = true) (h1 : Tx.acct b.who = true) (h2 : Tx.num b.amount = true) (h3 : Tx.num b.salt = true) :
    Calls Tryd.prog 75 #[.agg b.cells.toArray] w fun e w' => e = .returned (.bool true) ∧ Below w.heap.size w w' := by
  obtain ⟨c0, c1, c2, c3⟩ := bid_box (Row.new w 30 b.cells)
  have N0 := Lib.hid (within5_b b.round 1099511627776 _ h0)
  have N1 := Lib.hid (within5_b b.who 63 _ h1)
  have N2 := Lib.hid (within5_b b.amount 1099511627776 _ h2)
  have N3 := Lib.hid (within5_b b.salt 1099511627776 _ h3)
  generalize b.cells = C at *
  clear h0 h1 h2 h3
  go_enter Tryd.func75, Tryd.ntmps75
  go_wp2_with fail
  refine (N0.out _).mono ?_
  rintro _ w1 ⟨rfl, rfl⟩
  go_wp2_with fail
  refine (N1.out _).mono ?_
  rintro _ w1 ⟨rfl, rfl⟩
  go_wp2_with fail
  refine (N2.out _).mono ?_
  rintro _ w1 ⟨rfl, rfl⟩
  go_wp2_with fail
  refine (N3.out _).mono ?_
  rintro _ w1 ⟨rfl, rfl⟩
  go_wp2_with fail
  go_ret
  exact ⟨rfl, (Below.refl w.heap.size w).alloc (Nat.le_refl _) _⟩
theorem bid5_any (b : Bd) (w : World) :
    Calls Tryd.prog 75 #[.agg b.cells.toArray] w fun e w' => e = .returned (.bool b.ok) ∧ Below w.heap.size w w' := by
  unfold Bd.ok
  rcases Bool.eq_false_or_eq_true (Tx.num b.round) with h0 | h0
  · rcases Bool.eq_false_or_eq_true (Tx.acct b.who) with h1 | h1
    · rcases Bool.eq_false_or_eq_true (Tx.num b.amount) with h2 | h2
      · rcases Bool.eq_false_or_eq_true (Tx.num b.salt) with h3 | h3
        · rw [h0, h1, h2, h3]; exact bid5_4 b w h0 h1 h2 h3
        · rw [h0, h1, h2, h3]; exact bid5_3 b w h0 h1 h2 h3
      · rw [h0, h1, h2]; exact bid5_2 b w h0 h1 h2
    · rw [h0, h1]; exact bid5_1 b w h0 h1
  · rw [h0, Bool.false_and, Bool.and_false]; exact bid5_0 b w h0
set_option maxRecDepth 20000 in
theorem rwriteBid_no (b : Bd) (w : World) (ht : b.tag.length = 32) (h : b.ok = false) :
    Calls Tryd.prog 72 #[.agg b.cells.toArray] w fun e w' => e = .returned (.tuple #[S [], .int .i64 2]) ∧ Below w.heap.size w w' := by
  have MB := Lib.hid (fun W => bid5_any b W)
  rw [h] at MB
  have HL := Lib.hid (Bd.cells_len ht)
  have Hrow0 := Lib.hid (Row.new w 30 b.cells)
  generalize b.cells = C at *
  clear h
  go_enter Tryd.func72, Tryd.ntmps72
  go_wp2_with (with_reducible show wpList _ _ _ (⟨_, .load 30 _, _, _, _, _⟩ :: _) _ _; refine wpList_load_tx rfl 30 (.tmp 1) rfl w.heap.size 0 rfl C _ (row_range Hrow0.out) Tryd.underlying30 rfl (by rw [bid_info, HL.out]) ?_)
  refine (MB.out _).mono ?_
  rintro _ w1 ⟨rfl, hb1⟩
  have Hb1 := Lib.hid (tx_below (grownBy_of_below hb1 none))
  clear hb1
  go_wp2_with fail
  go_ret2
  exact ⟨rfl, Hb1.out⟩
set_option maxRecDepth 20000 in
set_option maxHeartbeats 1600000 in
theorem rwriteBid_ok (b : Bd) (w : World) (ht : b.tag.length = 32) (h : b.ok = true) :
    Calls Tryd.prog 72 #[.agg b.cells.toArray] w fun e w' => e = .returned (.tuple #[S (Oct.listE b.fields).1, .int .i64 (Oct.listE b.fields).2]) ∧ Below w.heap.size w w' := by
  have hB := (Bd.ok_iff b).1 h
  have T0 := Lib.hid (fun W => text5_any b.round W hB.2.1.1 (by omega))
  have T1 := Lib.hid (fun W => text5_any b.who W hB.1.1 (by omega))
  have T2 := Lib.hid (fun W => text5_any b.amount W hB.2.2.1.1 (by omega))
  have T3 := Lib.hid (fun W => text5_any b.salt W hB.2.2.2.1 (by omega))
  have MB := Lib.hid (fun W => bid5_any b W)
  have BX : Hid (∀ (W : World) (g : Nat) (T : TypeId), Row W g T b.cells → W.cell? ⟨g, 0, none⟩ = some (.int .i64 b.round) ∧ W.cell? ⟨g, 1, none⟩ = some (.int .i64 b.who) ∧ W.cell? ⟨g, 2, none⟩ = some (.int .i64 b.amount) ∧ W.cell? ⟨g, 3, none⟩ = some (.int .i64 b.salt)) := fun W g T h => bid_box h
  have BT : Hid (∀ (W : World) (g : Nat) (T : TypeId), Row W g T b.cells → W.rangeAt g 4 (bRow b.tag).toList) := fun W g T h => bid_tag h
  have HL := Lib.hid (Bd.cells_len ht)
  have Hrow0 := Lib.hid (Row.new w 30 b.cells)
  have HB32 := Lib.hid (Tx.bRow_len _ ht)
  have HT := Lib.hid ht
  rw [h] at MB
  have BY := Lib.hid (fun W => bytes_any b.tag W ht)
  have hff : [S (Oct.num b.round.toNat), S (Oct.num b.who.toNat), S (Oct.num b.amount.toNat), S (Oct.num b.salt.toNat), S b.tag] = b.fields.map S := rfl
  have Hff := Lib.hid hff
  have Hfl : Hid (5 = b.fields.length) := (rfl : 5 = b.fields.length)
  generalize b.fields = L at *
  generalize b.cells = C at *
  generalize Oct.num b.round.toNat = t0 at *
  generalize Oct.num b.who.toNat = t1 at *
  generalize Oct.num b.amount.toNat = t2 at *
  generalize Oct.num b.salt.toNat = t3 at *
  clear h hB hff ht
  have hu23 := Tryd.underlying28
  have hi23 : (Tryd.prog.info? 28).map (·.size) = some (bRow b.tag).toList.length := by rw [hash_info, HB32.out]
  go_enter Tryd.func72, Tryd.ntmps72
  go_wp2_with (with_reducible show wpList _ _ _ (⟨_, .load 30 _, _, _, _, _⟩ :: _) _ _; refine wpList_load_tx rfl 30 (.tmp 1) rfl w.heap.size 0 rfl C _ (row_range Hrow0.out) Tryd.underlying30 rfl (by rw [bid_info, HL.out]) ?_)
  refine (MB.out _).mono ?_
  rintro _ w1 ⟨rfl, hb1⟩
  have HS0 := Lib.hid ((rowIn_call hb1).drew)
  clear hb1
  go_wp2_with fail
  refine wp_region_held_drew (S := fun w' => RowIn w w' w.heap.size 30 C) (by kernel_rfl) (HS0.out) (fun hHeld => ?_)
  generalize w1.drew = w9 at *
  refine wpAnyH_take (i := 0) (v := .pointer (some ⟨w.heap.size, 0, none⟩)) rfl (by kernel_rfl) (by kernel_rfl) (by kernel_rfl) (fun _ _ _ h => h) (Or.inl ⟨by rfl, fun w' hSw => by go_simp⟩) hHeld ?_
  try simp only [Act.put, List.getElem_toArray, List.getElem_cons_succ, List.getElem_cons_zero, List.setIfInBounds_toArray, List.set_cons_zero, List.set_cons_succ]
  refine wpAnyH_take (i := 1) (v := .int .i64 b.round) rfl (by kernel_rfl) (by kernel_rfl) (by kernel_rfl) (fun _ _ _ h => h) (Or.inl ⟨by rfl, fun w' hSw => by have hq := hSw; have hc := (BX.out _ _ _ hq.1).1; go_simp⟩) hHeld ?_
  try simp only [Act.put, List.getElem_toArray, List.getElem_cons_succ, List.getElem_cons_zero, List.setIfInBounds_toArray, List.set_cons_zero, List.set_cons_succ]
  refine wpAnyH_take (i := 3) (v := .pointer (some ⟨w.heap.size, 1, none⟩)) rfl (by kernel_rfl) (by kernel_rfl) (by kernel_rfl) (fun _ _ _ h => h) (Or.inl ⟨by rfl, fun w' hSw => by go_simp⟩) hHeld ?_
  try simp only [Act.put, List.getElem_toArray, List.getElem_cons_succ, List.getElem_cons_zero, List.setIfInBounds_toArray, List.set_cons_zero, List.set_cons_succ]
  refine wpAnyH_take (i := 4) (v := .int .i64 b.who) rfl (by kernel_rfl) (by kernel_rfl) (by kernel_rfl) (fun _ _ _ h => h) (Or.inl ⟨by rfl, fun w' hSw => by have hq := hSw; have hc := (BX.out _ _ _ hq.1).2.1; go_simp⟩) hHeld ?_
  try simp only [Act.put, List.getElem_toArray, List.getElem_cons_succ, List.getElem_cons_zero, List.setIfInBounds_toArray, List.set_cons_zero, List.set_cons_succ]
  refine wpAnyH_take (i := 6) (v := .pointer (some ⟨w.heap.size, 2, none⟩)) rfl (by kernel_rfl) (by kernel_rfl) (by kernel_rfl) (fun _ _ _ h => h) (Or.inl ⟨by rfl, fun w' hSw => by go_simp⟩) hHeld ?_
  try simp only [Act.put, List.getElem_toArray, List.getElem_cons_succ, List.getElem_cons_zero, List.setIfInBounds_toArray, List.set_cons_zero, List.set_cons_succ]
  refine wpAnyH_take (i := 7) (v := .int .i64 b.amount) rfl (by kernel_rfl) (by kernel_rfl) (by kernel_rfl) (fun _ _ _ h => h) (Or.inl ⟨by rfl, fun w' hSw => by have hq := hSw; have hc := (BX.out _ _ _ hq.1).2.2.1; go_simp⟩) hHeld ?_
  try simp only [Act.put, List.getElem_toArray, List.getElem_cons_succ, List.getElem_cons_zero, List.setIfInBounds_toArray, List.set_cons_zero, List.set_cons_succ]
  refine wpAnyH_take (i := 9) (v := .pointer (some ⟨w.heap.size, 3, none⟩)) rfl (by kernel_rfl) (by kernel_rfl) (by kernel_rfl) (fun _ _ _ h => h) (Or.inl ⟨by rfl, fun w' hSw => by go_simp⟩) hHeld ?_
  try simp only [Act.put, List.getElem_toArray, List.getElem_cons_succ, List.getElem_cons_zero, List.setIfInBounds_toArray, List.set_cons_zero, List.set_cons_succ]
  refine wpAnyH_take (i := 10) (v := .int .i64 b.salt) rfl (by kernel_rfl) (by kernel_rfl) (by kernel_rfl) (fun _ _ _ h => h) (Or.inl ⟨by rfl, fun w' hSw => by have hq := hSw; have hc := (BX.out _ _ _ hq.1).2.2.2; go_simp⟩) hHeld ?_
  try simp only [Act.put, List.getElem_toArray, List.getElem_cons_succ, List.getElem_cons_zero, List.setIfInBounds_toArray, List.set_cons_zero, List.set_cons_succ]
  refine wpAnyH_take (i := 12) (v := .pointer (some ⟨w.heap.size, 4, none⟩)) rfl (by kernel_rfl) (by kernel_rfl) (by kernel_rfl) (fun _ _ _ h => h) (Or.inl ⟨by rfl, fun w' hSw => by go_simp⟩) hHeld ?_
  try simp only [Act.put, List.getElem_toArray, List.getElem_cons_succ, List.getElem_cons_zero, List.setIfInBounds_toArray, List.set_cons_zero, List.set_cons_succ]
  refine' wpAnyH_take (i := 13) (v := _) rfl (by kernel_rfl) (by kernel_rfl) (by kernel_rfl) (fun _ _ _ h => h) (yieldsIf_load_mid (by rfl) _ _ rfl w.heap.size 4 rfl (bRow b.tag).toList _ (fun w' hSw => (BT.out _ _ _ hSw.1)) hu23 rfl hi23) hHeld ?_
  try simp only [Act.put, List.getElem_toArray, List.getElem_cons_succ, List.getElem_cons_zero, List.setIfInBounds_toArray, List.set_cons_zero, List.set_cons_succ]
  refine wpAnyH_ready (rs := [2]) (by kernel_rfl) (by simp) (AllReadyH.cons rfl (fun K1 hK1 => ?_) AllReadyH.nil)
  try simp only [Act.put, List.getElem_toArray, List.getElem_cons_succ, List.getElem_cons_zero, List.setIfInBounds_toArray, List.set_cons_zero, List.set_cons_succ]
  go_simp
  refine Calls.mono (T0.out _) ?_
  rintro e wc1 ⟨rfl, hc2⟩
  refine hK1.out _ _ (hHeld.step hc2) (fun hHeld => ?_)
  clear hK1 K1
  try simp only [Act.put, List.getElem_toArray, List.getElem_cons_succ, List.getElem_cons_zero, List.setIfInBounds_toArray, List.set_cons_zero, List.set_cons_succ]
  refine wpAnyH_ready (rs := [5]) (by kernel_rfl) (by simp) (AllReadyH.cons rfl (fun K1 hK1 => ?_) AllReadyH.nil)
  try simp only [Act.put, List.getElem_toArray, List.getElem_cons_succ, List.getElem_cons_zero, List.setIfInBounds_toArray, List.set_cons_zero, List.set_cons_succ]
  go_simp
  refine Calls.mono (T1.out _) ?_
  rintro e wc3 ⟨rfl, hc4⟩
  refine hK1.out _ _ (hHeld.step hc4) (fun hHeld => ?_)
  clear hK1 K1
  try simp only [Act.put, List.getElem_toArray, List.getElem_cons_succ, List.getElem_cons_zero, List.setIfInBounds_toArray, List.set_cons_zero, List.set_cons_succ]
  refine wpAnyH_ready (rs := [8]) (by kernel_rfl) (by simp) (AllReadyH.cons rfl (fun K1 hK1 => ?_) AllReadyH.nil)
  try simp only [Act.put, List.getElem_toArray, List.getElem_cons_succ, List.getElem_cons_zero, List.setIfInBounds_toArray, List.set_cons_zero, List.set_cons_succ]
  go_simp
  refine Calls.mono (T2.out _) ?_
  rintro e wc5 ⟨rfl, hc6⟩
  refine hK1.out _ _ (hHeld.step hc6) (fun hHeld => ?_)
  clear hK1 K1
  try simp only [Act.put, List.getElem_toArray, List.getElem_cons_succ, List.getElem_cons_zero, List.setIfInBounds_toArray, List.set_cons_zero, List.set_cons_succ]
  refine wpAnyH_ready (rs := [11]) (by kernel_rfl) (by simp) (AllReadyH.cons rfl (fun K1 hK1 => ?_) AllReadyH.nil)
  try simp only [Act.put, List.getElem_toArray, List.getElem_cons_succ, List.getElem_cons_zero, List.setIfInBounds_toArray, List.set_cons_zero, List.set_cons_succ]
  go_simp
  refine Calls.mono (T3.out _) ?_
  rintro e wc7 ⟨rfl, hc8⟩
  refine hK1.out _ _ (hHeld.step hc8) (fun hHeld => ?_)
  clear hK1 K1
  try simp only [Act.put, List.getElem_toArray, List.getElem_cons_succ, List.getElem_cons_zero, List.setIfInBounds_toArray, List.set_cons_zero, List.set_cons_succ]
  refine wpAnyH_ready (rs := [14]) (by kernel_rfl) (by simp) (AllReadyH.cons rfl (fun K1 hK1 => ?_) AllReadyH.nil)
  try simp only [Act.put, List.getElem_toArray, List.getElem_cons_succ, List.getElem_cons_zero, List.setIfInBounds_toArray, List.set_cons_zero, List.set_cons_succ]
  go_simp
  refine Calls.mono (BY.out _) ?_
  rintro e wc9 ⟨rfl, hc10⟩
  refine hK1.out _ _ (hHeld.step hc10) (fun hHeld => ?_)
  clear hK1 K1
  try simp only [Act.put, List.getElem_toArray, List.getElem_cons_succ, List.getElem_cons_zero, List.setIfInBounds_toArray, List.set_cons_zero, List.set_cons_succ]
  refine wpAnyH_ready (rs := [15]) (by kernel_rfl) (by simp) (AllReadyH.cons rfl (fun K1 hK1 => ?_) AllReadyH.nil)
  try simp only [Act.put, List.getElem_toArray, List.getElem_cons_succ, List.getElem_cons_zero, List.setIfInBounds_toArray, List.set_cons_zero, List.set_cons_succ]
  go_simp
  have hd12 := (Below.refl wc9.heap.size wc9).alloc (Nat.le_refl _) (.cells #[S t0, S t1, S t2, S t3, S b.tag] 9)
  have r2 : Row (wc9.alloc (.cells #[S t0, S t1, S t2, S t3, S b.tag] 9)) wc9.heap.size 9 ([S t0, S t1, S t2, S t3, S b.tag]) := Row.new wc9 9 ([S t0, S t1, S t2, S t3, S b.tag])
  have hHeld2 := hHeld.step hd12
  generalize wc9.alloc (.cells #[S t0, S t1, S t2, S t3, S b.tag] 9) = wb11 at *
  obtain ⟨gb13, gb13e⟩ : ∃ gb13, gb13 = wc9.heap.size := ⟨_, rfl⟩
  rw [← gb13e] at r2 ⊢
  refine hK1.out _ _ (hHeld2) (fun hHeld => ?_)
  clear hK1 K1
  try simp only [Act.put, List.getElem_toArray, List.getElem_cons_succ, List.getElem_cons_zero, List.setIfInBounds_toArray, List.set_cons_zero, List.set_cons_succ]
  clear hHeld2 gb13e
  refine wpAnyH_ready (rs := [16]) (by kernel_rfl) (by simp) (AllReadyH.cons rfl (fun K1 hK1 => ?_) AllReadyH.nil)
  try simp only [Act.put, List.getElem_toArray, List.getElem_cons_succ, List.getElem_cons_zero, List.setIfInBounds_toArray, List.set_cons_zero, List.set_cons_succ]
  go_simp
  refine Calls.mono (list5_row L r2 Hff.out 5 5 Hfl.out) ?_
  rintro e wl14 ⟨rfl, hl15⟩
  clear r2
  refine hK1.out _ _ (hHeld.step hl15) (fun hHeld => ?_)
  clear hK1 K1
  try simp only [Act.put, List.getElem_toArray, List.getElem_cons_succ, List.getElem_cons_zero, List.setIfInBounds_toArray, List.set_cons_zero, List.set_cons_succ]
  refine wpAnyH_take (i := 17) (v := S (Oct.listE L).1) rfl (by kernel_rfl) (by kernel_rfl) (by kernel_rfl) (fun _ _ _ h => h) (Or.inl ⟨by rfl, fun w' hSw => by go_simp⟩) hHeld ?_
  try simp only [Act.put, List.getElem_toArray, List.getElem_cons_succ, List.getElem_cons_zero, List.setIfInBounds_toArray, List.set_cons_zero, List.set_cons_succ]
  refine wpAnyH_take (i := 18) (v := .int .i64 (Oct.listE L).2) rfl (by kernel_rfl) (by kernel_rfl) (by kernel_rfl) (fun _ _ _ h => h) (Or.inl ⟨by rfl, fun w' hSw => by go_simp⟩) hHeld ?_
  try simp only [Act.put, List.getElem_toArray, List.getElem_cons_succ, List.getElem_cons_zero, List.setIfInBounds_toArray, List.set_cons_zero, List.set_cons_succ]
  refine wpAnyH_take (i := 19) (v := S (Oct.listE L).1) rfl (by kernel_rfl) (by kernel_rfl) (by kernel_rfl) (fun _ _ _ h => h) (Or.inl ⟨by rfl, fun w' hSw => by go_simp⟩) hHeld ?_
  try simp only [Act.put, List.getElem_toArray, List.getElem_cons_succ, List.getElem_cons_zero, List.setIfInBounds_toArray, List.set_cons_zero, List.set_cons_succ]
  refine wpAnyH_take (i := 20) (v := .int .i64 (Oct.listE L).2) rfl (by kernel_rfl) (by kernel_rfl) (by kernel_rfl) (fun _ _ _ h => h) (Or.inl ⟨by rfl, fun w' hSw => by go_simp⟩) hHeld ?_
  try simp only [Act.put, List.getElem_toArray, List.getElem_cons_succ, List.getElem_cons_zero, List.setIfInBounds_toArray, List.set_cons_zero, List.set_cons_succ]
  refine wpAnyH_done (by kernel_rfl) ?_ _
  have Hbe := Lib.hid hHeld.2
  clear hHeld hu23 hi23
  go_wp2_with fail
  go_ret2
  exact ⟨rfl, Hbe.out⟩
theorem rwriteBid_any (b : Bd) (ht : b.tag.length = 32) (w : World) :
    Calls Tryd.prog 72 #[b.v] w fun e w' => e = .returned (two b.textE.1 b.textE.2) ∧ Below w.heap.size w w' := by
  unfold Bd.textE
  rcases Bool.eq_false_or_eq_true b.ok with h | h
  · rw [if_pos h]; exact rwriteBid_ok b w ht h
  · rw [if_neg (by rw [h]; simp)]; exact rwriteBid_no b w ht h
set_option maxRecDepth 20000 in
theorem rsignBid_no (b : Bd) (ht : b.tag.length = 32) (w : World) (h : b.ok = false) :
    Calls Tryd.prog 51 #[.agg b.cells.toArray] w fun e w' => e = .returned (Bd.pairV b.signE) ∧ Below w.heap.size w w' := by
  have MB := Lib.hid (fun W => bid5_any b W)
  rw [h] at MB
  have HZL := Lib.hid (Bd.cells_len (b := Bd.zero) rfl)
  have HZ1 := Lib.hid (Bd.cells_one (b := Bd.zero) rfl)
  have HL := Lib.hid (Bd.cells_len ht)
  have Hrow0 := Lib.hid (Row.new w 30 b.cells)
  have hzv : ∀ W : World, (zeroValue 30).run Tryd.prog W = .ok (.agg Bd.zero.cells.toArray) W := fun W => by kernel_rfl
  have he : Bd.pairV b.signE = .tuple #[.agg Bd.zero.cells.toArray, .int .i64 2] := by unfold Bd.signE; rw [if_neg (by rw [h]; simp)]; rfl
  have He := Lib.hid he
  generalize Bd.pairV b.signE = NE at *
  generalize b.cells = C at *
  clear ht h he
  go_enter Tryd.func51, Tryd.ntmps51
  go_wp2_with (with_reducible show wpList _ _ _ (⟨_, .load 30 _, _, _, _, _⟩ :: _) _ _; refine wpList_load_tx rfl 30 (.tmp 1) rfl w.heap.size 0 rfl C _ (World.rangeAt_alloc (row_range Hrow0.out) _) Tryd.underlying30 rfl (by rw [bid_info, HL.out]) ?_)
  refine calls_named ?_
  intro w1 hw1
  have hb1 : Below w.heap.size w w1 := by rw [hw1]; exact (row_two w C.toArray Bd.zero.cells.toArray 30 30).2.1
  have hr1 : Row w1 (w.heap.size + 1) 30 Bd.zero.cells := by rw [hw1]; exact (row_two w C.toArray Bd.zero.cells.toArray 30 30).1
  clear hw1 hzv
  refine (MB.out w1).mono ?_
  rintro _ w2 ⟨rfl, hb2⟩
  have hg2 := grownBy_of_below hb2 none
  have Hr2 := Lib.hid (hr1.kept hg2 (by simp))
  have Hb2 := Lib.hid (two_below' hb1 hb2)
  clear hb1 hr1 hb2 hg2
  go_wp2_with (first
    | (with_reducible show wpList _ _ _ (⟨_, .build 30 _, _, _, _, _⟩ :: _) _ _; refine wpList_buildL rfl 30 [] rfl (some 11) rfl _ rfl _ Bd.zero_built0 ?_)
    | (with_reducible show wpList _ _ _ (⟨_, .store 30 _ _, _, _, _, _⟩ :: _) _ _
       refine wpList_store_at rfl 30 (.tmp 2) (.tmp 11) rfl (w.heap.size + 1) 0 Bd.zero.cells _ _ rfl rfl Hr2.out (by have := HZL.out; omega) (by rw [bid_info, HZL.out]) HZ1.out ?_
       intro wZ hrZ hgZ
       rw [splice_all rfl] at hrZ
       have HrZ := Lib.hid hrZ
       have HbZ := Lib.hid (below_own Hb2.out hgZ (fun k hk => by cases hk; omega))
       clear hrZ hgZ))
  refine bodyPost_ret (results_rowL rfl _ _ (w.heap.size + 1) 30 _ _ rfl HrZ.out Tryd.underlying30 rfl (by rw [bid_info, List.size_toArray, HZL.out]) _ rfl) rfl ⟨?_, HbZ.out⟩
  rw [He.out]
  exact rfl
/-- two blocks as they were -/
def BidIn2 (w0 W : World) (C Z : List Value) : Prop := RowIn w0 W w0.heap.size 30 C ∧ Row W (w0.heap.size + 1) 30 Z
theorem BidIn2.step {w0 W W' : World} {C Z : List Value} (h : BidIn2 w0 W C Z) (hb : Below W.heap.size W W') : BidIn2 w0 W' C Z :=
  ⟨h.1.step hb, h.2.kept (grownBy_of_below hb none) (by simp)⟩
set_option maxRecDepth 20000 in
set_option maxHeartbeats 1600000 in
theorem rsignBid_ok (hRS : RefSum) (b : Bd) (ht : b.tag.length = 32) (w : World) (h : b.ok = true) :
    Calls Tryd.prog 51 #[.agg b.cells.toArray] w fun e w' => e = .returned (Bd.pairV b.signE) ∧ Below w.heap.size w w' := by
  have hB := (Bd.ok_iff b).1 h
  have T0 := Lib.hid (fun W => text5_any b.round W hB.2.1.1 (by omega))
  have T1 := Lib.hid (fun W => text5_any b.who W hB.1.1 (by omega))
  have T2 := Lib.hid (fun W => text5_any b.amount W hB.2.2.1.1 (by omega))
  have T3 := Lib.hid (fun W => text5_any b.salt W hB.2.2.2.1 (by omega))
  have MB := Lib.hid (fun W => bid5_any b W)
  have BX : Hid (∀ (W : World) (g : Nat) (T : TypeId), Row W g T b.cells → W.cell? ⟨g, 0, none⟩ = some (.int .i64 b.round) ∧ W.cell? ⟨g, 1, none⟩ = some (.int .i64 b.who) ∧ W.cell? ⟨g, 2, none⟩ = some (.int .i64 b.amount) ∧ W.cell? ⟨g, 3, none⟩ = some (.int .i64 b.salt)) := fun W g T h => bid_box h
  have BT : Hid (∀ (W : World) (g : Nat) (T : TypeId), Row W g T b.cells → W.rangeAt g 4 (bRow b.tag).toList) := fun W g T h => bid_tag h
  have HL := Lib.hid (Bd.cells_len ht)
  have Hrow0 := Lib.hid (Row.new w 30 b.cells)
  have HB32 := Lib.hid (Tx.bRow_len _ ht)
  have HT := Lib.hid ht
  rw [h] at MB
  have HZL := Lib.hid (Bd.cells_len (b := Bd.zero) rfl)
  have HZ1 := Lib.hid (Bd.cells_one (b := Bd.zero) rfl)
  have hbl := b.body_len
  have TG : Hid (∀ W, Calls Tryd.prog 78 #[.int .i64 b.who, .int .i64 3, S b.body] W fun e w' => e = .returned (.tuple #[.agg (bRow (Seal.tag b.who 3 b.body).1), .int .i64 (Seal.tag b.who 3 b.body).2]) ∧ Below W.heap.size W w') := fun W => refTag_any hRS b.who 3 ⟨b.body.toArray⟩ W (by show b.body.length ≤ _; omega)
  have Hcl := Lib.hid (Bd.put_tag ht (Seal.tag b.who 3 b.body).1 (Seal.tag_len _ _ _))
  have hce : Bd.cells { b with tag := (Seal.tag b.who 3 b.body).1 } = b.sign.cells := rfl
  rw [hce] at Hcl
  have htl := Seal.tag_len b.who 3 b.body
  have HDL := Lib.hid (Bd.cells_len (b := b.sign) htl)
  have HD1 := Lib.hid (Bd.cells_one (b := b.sign) htl)
  have HR := Lib.hid htl
  have HR32 := Lib.hid (Tx.bRow_len _ htl)
  have HZ32 := Lib.hid (Tx.bRow_len Tx.zero rfl)
  have hzv : ∀ W : World, (zeroValue 30).run Tryd.prog W = .ok (.agg Bd.zero.cells.toArray) W := fun W => by kernel_rfl
  have he : Bd.pairV b.signE = .tuple #[.agg b.sign.cells.toArray, .int .i64 0] := by unfold Bd.signE; rw [if_pos h]; rfl
  rw [he]
  have LB : Hid (∀ (W : World) (g : Nat), Row W g 9 [S (Oct.num b.round.toNat), S (Oct.num b.who.toNat), S (Oct.num b.amount.toNat), S (Oct.num b.salt.toNat)] → Calls Tryd.prog 76 #[.slice (some ⟨g, 0, none⟩) 4 4] W fun e w' => e = .returned (.tuple #[S b.body, .int .i64 (Oct.listE (b.numsL.map fun x => Oct.num x.toNat)).2]) ∧ Below W.heap.size W w') := fun W g h => list5_row (b.numsL.map fun (x : Int) => Oct.num x.toNat) h rfl 4 4 rfl
  generalize (Oct.listE (b.numsL.map fun x => Oct.num x.toNat)).2 = en at *
  generalize b.sign.cells = D at *
  generalize (Seal.tag b.who 3 b.body).2 = tn at *
  generalize (Seal.tag b.who 3 b.body).1 = R at *
  generalize b.body = bs at *
  generalize b.cells = C at *
  generalize Oct.num b.round.toNat = t0 at *
  generalize Oct.num b.who.toNat = t1 at *
  generalize Oct.num b.amount.toNat = t2 at *
  generalize Oct.num b.salt.toNat = t3 at *
  clear h hB ht he hce htl hbl
  go_enter Tryd.func51, Tryd.ntmps51
  go_wp2_with (with_reducible show wpList _ _ _ (⟨_, .load 30 _, _, _, _, _⟩ :: _) _ _; refine wpList_load_tx rfl 30 (.tmp 1) rfl w.heap.size 0 rfl C _ (World.rangeAt_alloc (row_range Hrow0.out) _) Tryd.underlying30 rfl (by rw [bid_info, HL.out]) ?_)
  refine calls_named ?_
  intro w1 hw1
  have hb1 : Below w.heap.size w w1 := by rw [hw1]; exact (row_two w C.toArray Bd.zero.cells.toArray 30 30).2.1
  have hr1 : Row w1 (w.heap.size + 1) 30 Bd.zero.cells := by rw [hw1]; exact (row_two w C.toArray Bd.zero.cells.toArray 30 30).1
  have hq1 : Row w1 w.heap.size 30 C := by rw [hw1]; exact (row_two w C.toArray Bd.zero.cells.toArray 30 30).2.2
  clear hw1 hzv
  refine (MB.out w1).mono ?_
  rintro _ w2 ⟨rfl, hb2⟩
  have HS0 : Hid (BidIn2 w w2.drew C Bd.zero.cells) := BidIn2.step (W := w2) (BidIn2.step (W := w1) ⟨⟨hq1, hb1⟩, hr1⟩ hb2) (Below.refl _ _).drew
  clear hb1 hr1 hq1 hb2
  go_wp2_with fail
  refine wp_region_held_drew (S := fun w' => BidIn2 w w' C Bd.zero.cells) (by kernel_rfl) (HS0.out) (fun hHeld => ?_)
  generalize w2.drew = w9 at *
  refine wpAnyH_take (i := 0) (v := .pointer (some ⟨w.heap.size, 0, none⟩)) rfl (by kernel_rfl) (by kernel_rfl) (by kernel_rfl) (fun _ _ _ h => h) (Or.inl ⟨by rfl, fun w' hSw => by go_simp⟩) hHeld ?_
  try simp only [Act.put, List.getElem_toArray, List.getElem_cons_succ, List.getElem_cons_zero, List.setIfInBounds_toArray, List.set_cons_zero, List.set_cons_succ]
  refine wpAnyH_take (i := 1) (v := .int .i64 b.round) rfl (by kernel_rfl) (by kernel_rfl) (by kernel_rfl) (fun _ _ _ h => h) (Or.inl ⟨by rfl, fun w' hSw => by have hq := hSw; have hc := (BX.out _ _ _ hq.1.1).1; go_simp⟩) hHeld ?_
  try simp only [Act.put, List.getElem_toArray, List.getElem_cons_succ, List.getElem_cons_zero, List.setIfInBounds_toArray, List.set_cons_zero, List.set_cons_succ]
  refine wpAnyH_take (i := 3) (v := .pointer (some ⟨w.heap.size, 1, none⟩)) rfl (by kernel_rfl) (by kernel_rfl) (by kernel_rfl) (fun _ _ _ h => h) (Or.inl ⟨by rfl, fun w' hSw => by go_simp⟩) hHeld ?_
  try simp only [Act.put, List.getElem_toArray, List.getElem_cons_succ, List.getElem_cons_zero, List.setIfInBounds_toArray, List.set_cons_zero, List.set_cons_succ]
  refine wpAnyH_take (i := 4) (v := .int .i64 b.who) rfl (by kernel_rfl) (by kernel_rfl) (by kernel_rfl) (fun _ _ _ h => h) (Or.inl ⟨by rfl, fun w' hSw => by have hq := hSw; have hc := (BX.out _ _ _ hq.1.1).2.1; go_simp⟩) hHeld ?_
  try simp only [Act.put, List.getElem_toArray, List.getElem_cons_succ, List.getElem_cons_zero, List.setIfInBounds_toArray, List.set_cons_zero, List.set_cons_succ]
  refine wpAnyH_take (i := 6) (v := .pointer (some ⟨w.heap.size, 2, none⟩)) rfl (by kernel_rfl) (by kernel_rfl) (by kernel_rfl) (fun _ _ _ h => h) (Or.inl ⟨by rfl, fun w' hSw => by go_simp⟩) hHeld ?_
  try simp only [Act.put, List.getElem_toArray, List.getElem_cons_succ, List.getElem_cons_zero, List.setIfInBounds_toArray, List.set_cons_zero, List.set_cons_succ]
  refine wpAnyH_take (i := 7) (v := .int .i64 b.amount) rfl (by kernel_rfl) (by kernel_rfl) (by kernel_rfl) (fun _ _ _ h => h) (Or.inl ⟨by rfl, fun w' hSw => by have hq := hSw; have hc := (BX.out _ _ _ hq.1.1).2.2.1; go_simp⟩) hHeld ?_
  try simp only [Act.put, List.getElem_toArray, List.getElem_cons_succ, List.getElem_cons_zero, List.setIfInBounds_toArray, List.set_cons_zero, List.set_cons_succ]
  refine wpAnyH_take (i := 9) (v := .pointer (some ⟨w.heap.size, 3, none⟩)) rfl (by kernel_rfl) (by kernel_rfl) (by kernel_rfl) (fun _ _ _ h => h) (Or.inl ⟨by rfl, fun w' hSw => by go_simp⟩) hHeld ?_
  try simp only [Act.put, List.getElem_toArray, List.getElem_cons_succ, List.getElem_cons_zero, List.setIfInBounds_toArray, List.set_cons_zero, List.set_cons_succ]
  refine wpAnyH_take (i := 10) (v := .int .i64 b.salt) rfl (by kernel_rfl) (by kernel_rfl) (by kernel_rfl) (fun _ _ _ h => h) (Or.inl ⟨by rfl, fun w' hSw => by have hq := hSw; have hc := (BX.out _ _ _ hq.1.1).2.2.2; go_simp⟩) hHeld ?_
  try simp only [Act.put, List.getElem_toArray, List.getElem_cons_succ, List.getElem_cons_zero, List.setIfInBounds_toArray, List.set_cons_zero, List.set_cons_succ]
  refine wpAnyH_ready (rs := [2]) (by kernel_rfl) (by simp) (AllReadyH.cons rfl (fun K1 hK1 => ?_) AllReadyH.nil)
  try simp only [Act.put, List.getElem_toArray, List.getElem_cons_succ, List.getElem_cons_zero, List.setIfInBounds_toArray, List.set_cons_zero, List.set_cons_succ]
  go_simp
  refine Calls.mono (T0.out _) ?_
  rintro e wc1 ⟨rfl, hc2⟩
  refine hK1.out _ _ (hHeld.step hc2) (fun hHeld => ?_)
  clear hK1 K1
  try simp only [Act.put, List.getElem_toArray, List.getElem_cons_succ, List.getElem_cons_zero, List.setIfInBounds_toArray, List.set_cons_zero, List.set_cons_succ]
  refine wpAnyH_ready (rs := [5]) (by kernel_rfl) (by simp) (AllReadyH.cons rfl (fun K1 hK1 => ?_) AllReadyH.nil)
  try simp only [Act.put, List.getElem_toArray, List.getElem_cons_succ, List.getElem_cons_zero, List.setIfInBounds_toArray, List.set_cons_zero, List.set_cons_succ]
  go_simp
  refine Calls.mono (T1.out _) ?_
  rintro e wc3 ⟨rfl, hc4⟩
  refine hK1.out _ _ (hHeld.step hc4) (fun hHeld => ?_)
  clear hK1 K1
  try simp only [Act.put, List.getElem_toArray, List.getElem_cons_succ, List.getElem_cons_zero, List.setIfInBounds_toArray, List.set_cons_zero, List.set_cons_succ]
  refine wpAnyH_ready (rs := [8]) (by kernel_rfl) (by simp) (AllReadyH.cons rfl (fun K1 hK1 => ?_) AllReadyH.nil)
  try simp only [Act.put, List.getElem_toArray, List.getElem_cons_succ, List.getElem_cons_zero, List.setIfInBounds_toArray, List.set_cons_zero, List.set_cons_succ]
  go_simp
  refine Calls.mono (T2.out _) ?_
  rintro e wc5 ⟨rfl, hc6⟩
  refine hK1.out _ _ (hHeld.step hc6) (fun hHeld => ?_)
  clear hK1 K1
  try simp only [Act.put, List.getElem_toArray, List.getElem_cons_succ, List.getElem_cons_zero, List.setIfInBounds_toArray, List.set_cons_zero, List.set_cons_succ]
  refine wpAnyH_ready (rs := [11]) (by kernel_rfl) (by simp) (AllReadyH.cons rfl (fun K1 hK1 => ?_) AllReadyH.nil)
  try simp only [Act.put, List.getElem_toArray, List.getElem_cons_succ, List.getElem_cons_zero, List.setIfInBounds_toArray, List.set_cons_zero, List.set_cons_succ]
  go_simp
  refine Calls.mono (T3.out _) ?_
  rintro e wc7 ⟨rfl, hc8⟩
  refine hK1.out _ _ (hHeld.step hc8) (fun hHeld => ?_)
  clear hK1 K1
  try simp only [Act.put, List.getElem_toArray, List.getElem_cons_succ, List.getElem_cons_zero, List.setIfInBounds_toArray, List.set_cons_zero, List.set_cons_succ]
  refine wpAnyH_ready (rs := [12]) (by kernel_rfl) (by simp) (AllReadyH.cons rfl (fun K1 hK1 => ?_) AllReadyH.nil)
  try simp only [Act.put, List.getElem_toArray, List.getElem_cons_succ, List.getElem_cons_zero, List.setIfInBounds_toArray, List.set_cons_zero, List.set_cons_succ]
  go_simp
  have hd10 := (Below.refl wc7.heap.size wc7).alloc (Nat.le_refl _) (.cells #[S t0, S t1, S t2, S t3] 9)
  have r2 : Row (wc7.alloc (.cells #[S t0, S t1, S t2, S t3] 9)) wc7.heap.size 9 ([S t0, S t1, S t2, S t3]) := Row.new wc7 9 ([S t0, S t1, S t2, S t3])
  have hHeld2 := hHeld.step hd10
  generalize wc7.alloc (.cells #[S t0, S t1, S t2, S t3] 9) = wb9 at *
  obtain ⟨gb11, gb11e⟩ : ∃ gb11, gb11 = wc7.heap.size := ⟨_, rfl⟩
  rw [← gb11e] at r2 ⊢
  refine hK1.out _ _ (hHeld2) (fun hHeld => ?_)
  clear hK1 K1
  try simp only [Act.put, List.getElem_toArray, List.getElem_cons_succ, List.getElem_cons_zero, List.setIfInBounds_toArray, List.set_cons_zero, List.set_cons_succ]
  clear hHeld2 gb11e
  refine wpAnyH_ready (rs := [13]) (by kernel_rfl) (by simp) (AllReadyH.cons rfl (fun K1 hK1 => ?_) AllReadyH.nil)
  try simp only [Act.put, List.getElem_toArray, List.getElem_cons_succ, List.getElem_cons_zero, List.setIfInBounds_toArray, List.set_cons_zero, List.set_cons_succ]
  go_simp
  refine Calls.mono (LB.out _ _ r2) ?_
  rintro e wl12 ⟨rfl, hl13⟩
  clear r2
  refine hK1.out _ _ (hHeld.step hl13) (fun hHeld => ?_)
  clear hK1 K1
  try simp only [Act.put, List.getElem_toArray, List.getElem_cons_succ, List.getElem_cons_zero, List.setIfInBounds_toArray, List.set_cons_zero, List.set_cons_succ]
  refine wpAnyH_take (i := 14) (v := .tuple #[S bs, .int .i64 en]) rfl (by kernel_rfl) (by kernel_rfl) (by kernel_rfl) (fun _ _ _ h => h) (Or.inl ⟨by rfl, fun w' hSw => by go_simp⟩) hHeld ?_
  try simp only [Act.put, List.getElem_toArray, List.getElem_cons_succ, List.getElem_cons_zero, List.setIfInBounds_toArray, List.set_cons_zero, List.set_cons_succ]
  refine wpAnyH_take (i := 15) (v := S bs) rfl (by kernel_rfl) (by kernel_rfl) (by kernel_rfl) (fun _ _ _ h => h) (Or.inl ⟨by rfl, fun w' hSw => by go_simp⟩) hHeld ?_
  try simp only [Act.put, List.getElem_toArray, List.getElem_cons_succ, List.getElem_cons_zero, List.setIfInBounds_toArray, List.set_cons_zero, List.set_cons_succ]
  refine wpAnyH_take (i := 16) (v := .int .i64 en) rfl (by kernel_rfl) (by kernel_rfl) (by kernel_rfl) (fun _ _ _ h => h) (Or.inl ⟨by rfl, fun w' hSw => by go_simp⟩) hHeld ?_
  try simp only [Act.put, List.getElem_toArray, List.getElem_cons_succ, List.getElem_cons_zero, List.setIfInBounds_toArray, List.set_cons_zero, List.set_cons_succ]
  refine wpAnyH_take (i := 17) (v := S bs) rfl (by kernel_rfl) (by kernel_rfl) (by kernel_rfl) (fun _ _ _ h => h) (Or.inl ⟨by rfl, fun w' hSw => by go_simp⟩) hHeld ?_
  try simp only [Act.put, List.getElem_toArray, List.getElem_cons_succ, List.getElem_cons_zero, List.setIfInBounds_toArray, List.set_cons_zero, List.set_cons_succ]
  refine wpAnyH_take (i := 18) (v := .int .i64 en) rfl (by kernel_rfl) (by kernel_rfl) (by kernel_rfl) (fun _ _ _ h => h) (Or.inl ⟨by rfl, fun w' hSw => by go_simp⟩) hHeld ?_
  try simp only [Act.put, List.getElem_toArray, List.getElem_cons_succ, List.getElem_cons_zero, List.setIfInBounds_toArray, List.set_cons_zero, List.set_cons_succ]
  refine wpAnyH_done (by kernel_rfl) ?_ _
  have Hq4 := Lib.hid hHeld.1.1
  have Hb4 := Lib.hid hHeld.1.2
  have Hr4 := Lib.hid hHeld.2
  have c1 := (BX.out _ _ _ Hq4.out).2.1
  clear hHeld
  go_wp2_with fail
  refine (TG.out _).mono ?_
  rintro _ w5 ⟨rfl, hb5⟩
  have hg5 := grownBy_of_below hb5 none
  have Hr5 := Lib.hid (Hr4.out.kept hg5 (by simp))
  have Hq5 := Lib.hid (Hq4.out.kept hg5 (by simp))
  have Hb5 := Lib.hid (two_below' Hb4.out hb5)
  have hlt5 := Hr5.out.lt
  have hzh := hash_zv
  have HN5 := Lib.hid (Row.new w5 28 (bRow Tx.zero).toList)
  have hgA := grownBy_alloc w5 (.cells (bRow Tx.zero) 28) none
  have HrA := Lib.hid (Hr5.out.kept hgA (by simp))
  have HqA := Lib.hid (Hq5.out.kept hgA (by simp))
  have HbA := Lib.hid (below_own Hb5.out hgA (fun k hk => by cases hk))
  have HbS := Lib.hid Hb5.out.size
  clear hb5 hg5 c1 hgA
  go_wp2_with (first
    | (with_reducible show wpList _ _ _ (⟨_, .store 28 (.tmp 6) _, _, _, _, _⟩ :: _) _ _
       refine wpList_store_at rfl 28 (.tmp 6) (.tmp 34) rfl w5.heap.size 0 (bRow R).toList _ _ rfl rfl HN5.out (by have := HR32.out; have := HZ32.out; omega) (by rw [hash_info, HR32.out]) (hash_one R HR.out) ?_
       intro w6 hr6 hg6
       rw [splice_all (HR32.out.trans HZ32.out.symm)] at hr6
       have Hh6 := Lib.hid hr6
       have Hq6 := Lib.hid (HqA.out.kept hg6 (by simp; omega))
       have Hr6 := Lib.hid (HrA.out.kept hg6 (by simp; omega))
       have Hb6 := Lib.hid (below_own HbA.out hg6 (fun k hk => by cases hk; exact HbS.out))
       clear hr6 hg6)
    | (with_reducible show wpList _ _ _ (⟨_, .load 28 _, _, _, _, _⟩ :: _) _ _; refine wpList_load_tx rfl 28 (.tmp 6) rfl w5.heap.size 0 rfl (bRow R).toList _ (row_range Hh6.out) Tryd.underlying28 rfl (by rw [hash_info, HR32.out]) ?_)
    | (with_reducible show wpList _ _ _ (⟨_, .store 28 (.tmp 37) _, _, _, _, _⟩ :: _) _ _
       refine wpList_store_at rfl 28 (.tmp 37) (.tmp 36) rfl w.heap.size 4 (bRow R).toList _ _ rfl rfl Hq6.out (by rw [HR32.out, HL.out]; decide) (by rw [hash_info, HR32.out]) (hash_one R HR.out) ?_
       intro w7 hr7 hg7
       rw [Hcl.out] at hr7
       have Hq7 := Lib.hid hr7
       have Hr7 := Lib.hid (Hr6.out.kept hg7 (by simp))
       have Hb7 := Lib.hid (below_own Hb6.out hg7 (fun k hk => by cases hk; exact Nat.le_refl _))
       clear hr7 hg7)
    | (with_reducible show wpList _ _ _ (⟨_, .load 30 _, _, _, _, _⟩ :: _) _ _; refine wpList_load_tx rfl 30 (.tmp 1) rfl w.heap.size 0 rfl D _ (row_range Hq7.out) Tryd.underlying30 rfl (by rw [bid_info, HDL.out]) ?_)
    | (with_reducible show wpList _ _ _ (⟨_, .store 30 _ _, _, _, _, _⟩ :: _) _ _
       refine wpList_store_at rfl 30 (.tmp 2) (.tmp 38) rfl (w.heap.size + 1) 0 D _ _ rfl rfl Hr7.out (by have := HZL.out; have := HDL.out; omega) (by rw [bid_info, HDL.out]) HD1.out ?_
       intro w8 hr8 hg8
       rw [splice_all (HDL.out.trans HZL.out.symm)] at hr8
       have Hr8 := Lib.hid hr8
       have Hb8 := Lib.hid (below_own Hb7.out hg8 (fun k hk => by cases hk; omega))
       clear hr8 hg8))
  refine bodyPost_ret (results_rowL rfl _ _ (w.heap.size + 1) 30 _ _ rfl Hr8.out Tryd.underlying30 rfl (by rw [bid_info, List.size_toArray, HDL.out]) _ rfl) rfl ⟨rfl, Hb8.out⟩
theorem rsignBid_any (hRS : RefSum) (b : Bd) (ht : b.tag.length = 32) (w : World) :
    Calls Tryd.prog 51 #[.agg b.cells.toArray] w fun e w' => e = .returned (Bd.pairV b.signE) ∧ Below w.heap.size w w' := by
  rcases Bool.eq_false_or_eq_true b.ok with h | h
  · exact rsignBid_ok hRS b ht w h
  · exact rsignBid_no b ht w h
namespace Bd
def lits (b : Bd) : List Lit := [.int .i64 b.round, .int .i64 b.who, .int .i64 b.amount, .int .i64 b.salt] ++ Tx.hlits b.tag
theorem lits_inj {a b : Bd} (h : a.lits = b.lits) : a = b := by
  obtain ⟨a1, a2, a3, a4, a5⟩ := a
  obtain ⟨b1, b2, b3, b4, b5⟩ := b
  simp only [lits, List.cons_append, List.nil_append, List.cons.injEq, Lit.int.injEq, true_and] at h
  obtain ⟨rfl, rfl, rfl, rfl, h5⟩ := h
  rw [Tx.hlits_inj h5]
end Bd
theorem bid_lits {b : Bd} (h : b.Fits) : Tryd.prog.keyLits 3 30 b.cells = some b.lits := by
  have hc : Tryd.prog.cellsOf 30 = 36 := by kernel_rfl
  have hI : Tryd.prog.cellsOf 3 = 1 := by kernel_rfl
  have hH : Tryd.prog.cellsOf 28 = 32 := by kernel_rfl
  unfold Program.keyLits
  simp only [Tryd.underlying30]
  rw [if_pos ⟨by rw [hc, Bd.cells_len h.tag], by kernel_rfl⟩]
  have e0 : Tryd.prog.keyLits 2 3 ((b.cells.drop 0).take (Tryd.prog.cellsOf 3)) = some [.int .i64 b.round] := by rw [hI]; exact lit_int 1 h.round
  have e1 : Tryd.prog.keyLits 2 3 ((b.cells.drop 1).take (Tryd.prog.cellsOf 3)) = some [.int .i64 b.who] := by rw [hI]; exact lit_int 1 h.who
  have e2 : Tryd.prog.keyLits 2 3 ((b.cells.drop 2).take (Tryd.prog.cellsOf 3)) = some [.int .i64 b.amount] := by rw [hI]; exact lit_int 1 h.amount
  have e3 : Tryd.prog.keyLits 2 3 ((b.cells.drop 3).take (Tryd.prog.cellsOf 3)) = some [.int .i64 b.salt] := by rw [hI]; exact lit_int 1 h.salt
  have e4 : Tryd.prog.keyLits 2 28 ((b.cells.drop 4).take (Tryd.prog.cellsOf 28)) = some (Tx.hlits b.tag) := by rw [hH, Bd.cells_tag, List.take_of_length_le (by rw [Tx.bRow_len _ h.tag]; omega)]; exact hash_lits _ h.tag
  simp only [List.mapM_cons, List.mapM_nil, e0, e1, e2, e3, e4, Option.bind_eq_bind, Option.bind_some, Option.pure_def, Option.map_some]
  simp [Bd.lits]
/-- two bids: equal just where all is -/
theorem bid_eq (W : World) (a b : Bd) (ha : a.Fits) (hb : b.Fits) : ∃ r : Bool, (Op.equalIn 10000 30 (.agg a.cells.toArray) (.agg b.cells.toArray)).run Tryd.prog W = .ok r W ∧ (r = true ↔ a = b) := by
  have hk : Tryd.prog.keyTypeAt 3 30 = true := by kernel_rfl
  have hf : ∀ x : Bd, x.Fits → (Value.agg x.cells.toArray).formed Tryd.prog 30 = true := by
    intro x hx
    have hc : Tryd.prog.cellsOf 30 = 36 := by kernel_rfl
    have hs := Bd.cells_len hx.tag
    simp [Value.formed, Tryd.underlying30, hs, hc]
  obtain ⟨r, hr, hiff⟩ := run_equalIn_deep (P := Tryd.prog) 9997 3 30 hk W 3 3 (.agg a.cells.toArray) (.agg b.cells.toArray) _ _ (hf a ha) (hf b hb) (by show Tryd.prog.keyLits 3 _ a.cells.toArray.toList = _; exact bid_lits ha) (by show Tryd.prog.keyLits 3 _ b.cells.toArray.toList = _; exact bid_lits hb)
  exact ⟨r, hr, hiff.trans ⟨Bd.lits_inj, fun h => by rw [h]⟩⟩
theorem bid_eqD (W : World) (a b : Bd) (ha : a.Fits) (hb : b.Fits) {v : Bool} (h : v = true ↔ a = b) : (Op.equalIn 10000 30 (.agg a.cells.toArray) (.agg b.cells.toArray)).run Tryd.prog W = .ok v W := by
  obtain ⟨r, hr, hi⟩ := bid_eq W a b ha hb
  rw [hr]
  have : r = v := by rw [Bool.eq_iff_iff, hi, h]
  rw [this]
theorem Bd.sign_fits {b : Bd} (h : b.Fits) : b.sign.Fits := ⟨Seal.tag_len _ _ _, h.round, h.who, h.amount, h.salt⟩
theorem Bd.check_ok {b : Bd} (h : b.ok = true) (v : Bool) (hv : v = true ↔ b.sign = b) : b.check = if v = true then 0 else 21 := by
  have hk := (Bd.ok_iff b).1 h
  unfold Bd.check Seal.check2
  rw [if_pos h, tag_err0 b.who 3 b.body hk.1.1 hk.1.2 (by omega) (by omega), if_neg (by simp)]
  have e : b.sign = b ↔ (Seal.tag b.who 3 b.body).1 = b.tag := by
    constructor
    · intro h2
      have := congrArg Bd.tag h2
      exact this
    · intro h2
      unfold Bd.sign
      rw [h2]
  cases v
  · have h2 : (Seal.tag b.who 3 b.body).1 ≠ b.tag := fun h3 => by have := hv.2 (e.2 h3); cases this
    rw [if_pos h2, if_neg (by simp)]
  · rw [if_pos rfl, if_neg (by simpa using e.1 (hv.1 rfl))]
set_option maxRecDepth 20000 in
set_option maxHeartbeats 1600000 in
theorem rcheckBid_any (hRS : RefSum) (b : Bd) (hf : b.Fits) (w : World) :
    Calls Tryd.prog 52 #[.agg b.cells.toArray] w fun e w' => e = .returned (.int .i64 b.check) ∧ Below w.heap.size w w' := by
  have SB := Lib.hid (fun W => rsignBid_any hRS b hf.tag W)
  have HL := Lib.hid (Bd.cells_len hf.tag)
  have Hrow0 := Lib.hid (Row.new w 30 b.cells)
  have HZL := Lib.hid (Bd.cells_len (b := Bd.zero) rfl)
  have hzv : ∀ W : World, (zeroValue 30).run Tryd.prog W = .ok (.agg Bd.zero.cells.toArray) W := fun W => by kernel_rfl
  obtain ⟨s, hs⟩ : ∃ s : Bd, s = b.signE.1 := ⟨_, rfl⟩
  obtain ⟨n, hn⟩ : ∃ n : Int, n = b.signE.2 := ⟨_, rfl⟩
  have hp : Bd.pairV b.signE = .tuple #[.agg s.cells.toArray, .int .i64 n] := by rw [hs, hn]; rfl
  rw [hp] at SB
  have hsf : s.Fits := by
    rw [hs]
    unfold Bd.signE
    split
    · exact Bd.sign_fits hf
    · exact ⟨rfl, fits0, fits0, fits0, fits0⟩
  have HSL := Lib.hid (Bd.cells_len hsf.tag)
  have HS1 := Lib.hid (Bd.cells_one hsf.tag)
  rcases Bool.eq_false_or_eq_true b.ok with hk | hk
  · have hn0 : n = 0 := by rw [hn]; unfold Bd.signE; rw [if_pos hk]
    have hsb : s = b.sign := by rw [hs]; unfold Bd.signE; rw [if_pos hk]
    obtain ⟨v, _, hv⟩ := bid_eq w s b hsf hf
    have heq := fun W => bid_eqD W s b hsf hf hv
    have hce : b.check = if v = true then 0 else 21 := Bd.check_ok hk v (by rw [← hsb]; exact hv)
    rw [hce]
    subst hn0
    generalize b.cells = C at *
    generalize s.cells = D at *
    clear hs hn hp hsf hf hk hsb hv hce
    cases v
    all_goals
      go_enter Tryd.func52, Tryd.ntmps52
      go_wp2_with (with_reducible show wpList _ _ _ (⟨_, .load 30 _, _, _, _, _⟩ :: _) _ _; refine wpList_load_tx rfl 30 (.tmp 1) rfl w.heap.size 0 rfl C _ (row_range Hrow0.out) Tryd.underlying30 rfl (by rw [bid_info, HL.out]) ?_)
      refine (SB.out _).mono ?_
      rintro _ w1 ⟨rfl, hb1⟩
      have hg1 := grownBy_of_below hb1 none
      have hq1 := Hrow0.out.kept hg1 (by simp)
      have Hb1 := Lib.hid (tx_below hg1)
      have Hz1 := Lib.hid (Row.new w1 30 Bd.zero.cells)
      have HqA := Lib.hid (hq1.kept (grownBy_alloc w1 (.cells Bd.zero.cells.toArray 30) none) (by simp))
      have HbA := Lib.hid (below_own Hb1.out (grownBy_alloc w1 (.cells Bd.zero.cells.toArray 30) none) (fun k hk => by cases hk))
      have hne : w.heap.size ≠ w1.heap.size := by have := hq1.lt; omega
      have Hne := Lib.hid hne
      have HbS := Lib.hid Hb1.out.size
      clear hb1 hg1 hq1 hne
      go_wp2_with (first
        | (with_reducible show wpList _ _ _ (⟨_, .store 30 _ _, _, _, _, _⟩ :: _) _ _
           refine wpList_store_at rfl 30 (.tmp 3) (.tmp 8) rfl w1.heap.size 0 D _ _ rfl rfl Hz1.out (by have := HZL.out; have := HSL.out; omega) (by rw [bid_info, HSL.out]) HS1.out ?_
           intro w2 hr2 hg2
           rw [splice_all (HSL.out.trans HZL.out.symm)] at hr2
           have Hr2 := Lib.hid hr2
           have Hq2 := Lib.hid (HqA.out.kept hg2 (by simpa using Hne.out))
           have Hb2 := Lib.hid (below_own HbA.out hg2 (fun k hk => by cases hk; exact HbS.out))
           clear hr2 hg2)
        | (with_reducible show wpList _ _ _ (⟨_, .load 30 (.tmp 3), _, _, _, _⟩ :: _) _ _; refine wpList_load_tx rfl 30 (.tmp 3) rfl w1.heap.size 0 rfl D _ (row_range Hr2.out) Tryd.underlying30 rfl (by rw [bid_info, HSL.out]) ?_)
        | (with_reducible show wpList _ _ _ (⟨_, .load 30 (.tmp 1), _, _, _, _⟩ :: _) _ _; refine wpList_load_tx rfl 30 (.tmp 1) rfl w.heap.size 0 rfl C _ (row_range Hq2.out) Tryd.underlying30 rfl (by rw [bid_info, HL.out]) ?_))
      go_ret
      exact ⟨rfl, Hb2.out⟩
  · have hn0 : n = 2 := by rw [hn]; unfold Bd.signE; rw [if_neg (by rw [hk]; simp)]
    have hce : b.check = 2 := by unfold Bd.check; rw [if_neg (by rw [hk]; simp)]
    rw [hce]
    subst hn0
    generalize b.cells = C at *
    generalize s.cells = D at *
    clear hs hn hp hsf hf hk hce
    go_enter Tryd.func52, Tryd.ntmps52
    go_wp2_with (with_reducible show wpList _ _ _ (⟨_, .load 30 _, _, _, _, _⟩ :: _) _ _; refine wpList_load_tx rfl 30 (.tmp 1) rfl w.heap.size 0 rfl C _ (row_range Hrow0.out) Tryd.underlying30 rfl (by rw [bid_info, HL.out]) ?_)
    refine (SB.out _).mono ?_
    rintro _ w1 ⟨rfl, hb1⟩
    have hg1 := grownBy_of_below hb1 none
    have Hb1 := Lib.hid (tx_below hg1)
    have Hz1 := Lib.hid (Row.new w1 30 Bd.zero.cells)
    have HbA := Lib.hid (below_own Hb1.out (grownBy_alloc w1 (.cells Bd.zero.cells.toArray 30) none) (fun k hk => by cases hk))
    have HbS := Lib.hid Hb1.out.size
    clear hb1 hg1
    go_wp2_with (with_reducible show wpList _ _ _ (⟨_, .store 30 _ _, _, _, _, _⟩ :: _) _ _
                 refine wpList_store_at rfl 30 (.tmp 3) (.tmp 8) rfl w1.heap.size 0 D _ _ rfl rfl Hz1.out (by have := HZL.out; have := HSL.out; omega) (by rw [bid_info, HSL.out]) HS1.out ?_
                 intro w2 hr2 hg2
                 have Hb2 := Lib.hid (below_own HbA.out hg2 (fun k hk => by cases hk; exact HbS.out))
                 clear hr2 hg2)
    go_ret
    exact ⟨rfl, Hb2.out⟩
end Go.Proofs.YtlapmdgkcidhnaaDoor

/- ---- NoC ---- -/
/- notes: linked, receiptTexts, link, Link. -/
/- notes: Link, WriteReceipt. -/
/- notes: WriteReceipt. -/
namespace Go.Proofs.YtlapmdgkcidhnaaDoor
open Go.RowKit
set_option linter.unusedVariables false
set_option linter.unusedSimpArgs false

namespace Rp
theorem cells_len {r : Rp} (h : r.prev.length = 32) (h2 : r.hash.length = 32) : r.cells.length = 68 := by
  unfold cells
  simp only [List.length_append, Tx.bRow_len _ h, Tx.bRow_len _ h2, List.length_cons, List.length_nil]
def pairV (x : Rp × Int) : Value := .tuple #[.agg x.1.cells.toArray, .int .i64 x.2]
end Rp
end Go.Proofs.YtlapmdgkcidhnaaDoor
namespace Go.Proofs.YtlapmdgkcidhnaaDoor
open Go.RowKit
set_option linter.unusedVariables false
set_option linter.unusedSimpArgs false

end Go.Proofs.YtlapmdgkcidhnaaDoor
namespace Go.Proofs.YtlapmdgkcidhnaaDoor
open Go.RowKit
set_option linter.unusedVariables false
set_option linter.unusedSimpArgs false

end Go.Proofs.YtlapmdgkcidhnaaDoor

/- ---- NoReg ---- -/
/- Steps of drawn regions: a struct literal with rows; a row stored. -/
namespace Go.Proofs.YtlapmdgkcidhnaaDoor
open Go.RowKit
set_option linter.unusedVariables false
set_option linter.unusedSimpArgs false

theorem yieldsIf_buildL {P : Program} {ops : Array Oper} {S : World → Prop} {op : Oper} {a : Act} (hw : Region.wanted op (yielded ops a.tmps) = true) (t : TypeId) (parts : List (Nat × Operand)) (ho : op.op = .build t parts.toArray)
    (vs : List (Nat × Value)) (hv : parts.map (fun p => (p.1, a.eval p.2)) = vs) (cells : Array Value) (hf : P.built t vs = some cells) : YieldsIf P ops S op (.agg cells) a :=
  .inl ⟨hw, fun w _ => by
    have e : (parts.toArray.map fun (i, x) => (i, a.eval x)).toList = vs := by rw [← hv]; simp
    have h2 : P.built t ((parts.toArray.map fun (i, x) => (i, a.eval x)).toList) = some cells := by rw [e]; exact hf
    unfold execOp
    simp only [ho, Sem.run_bind, run_build w t _ cells h2, Result.andThen_ok, Sem.run_pure]⟩
theorem wp_store_at {P : Program} {op : Oper} {a : Act} {w : World} {K : Act → World → Prop} {Q : Exit → Act → World → Prop} (ty : TypeId) (x y : Operand) (ho : op.op = .store ty x y)
    (g off : Nat) (l xs : List Value) (T : TypeId) (hx : a.eval x = .pointer (some ⟨g, off, none⟩)) (hy : a.eval y = .agg l.toArray) (hg : Row w g T xs) (hoff : off + l.length ≤ xs.length)
    (hi : (P.info? ty).map (·.size) = some l.length) (h1 : ∀ v ∈ l, v.oneCell' = true)
    (h : ∀ w', Row w' g T (xs.take off ++ (l ++ xs.drop (off + l.length))) → w.grownBy w' (some g) → K (a.put op.dst undef) w') : op.wp P a w K Q := by
  obtain ⟨r1, r2⟩ := row_setCells l off w xs hg hoff
  exact wp_store_mid ty x y ho g off l.toArray hx hy (fun j hj => ⟨by
    have hj' : j < l.length := by simpa using hj
    rw [hg.cell (off + j) (by omega)]; rfl, hg.free _⟩) (by simpa using hi) (all_oneCell_toArray h1) (h _ r1 r2)
end Go.Proofs.YtlapmdgkcidhnaaDoor

/- ---- NoG ---- -/
/- The reference of layer 5: a part's text. -/
/- The reference of layer 5: WriteBatch. -/
namespace Go.Proofs.YtlapmdgkcidhnaaDoor
open Go.RowKit
set_option linter.unusedVariables false
set_option linter.unusedSimpArgs false

end Go.Proofs.YtlapmdgkcidhnaaDoor
namespace Go.Proofs.YtlapmdgkcidhnaaDoor
open Go.RowKit
set_option linter.unusedVariables false
set_option linter.unusedSimpArgs false

structure Bt.Fits (b : Bt) : Prop where
  seq : Tx.fits b.seq
  first : Tx.fits b.first
  before : Tx.fits b.before
  texts : ∀ p ∈ b.parts, p.2.length ≤ 140737488351232
end Go.Proofs.YtlapmdgkcidhnaaDoor

/- ---- NoBlocks ---- -/
/- Blocks that a walk holds: each with what it holds, all made since the call began. -/
namespace Go.Proofs.YtlapmdgkcidhnaaDoor
open Go.RowKit
set_option linter.unusedVariables false
set_option linter.unusedSimpArgs false

theorem Row.type {w : World} {B : Nat} {t u : TypeId} {xs ys : List Value} (h : Row w B t xs) (k : Row w B u ys) : t = u := by
  unfold Row at h k
  rw [h] at k
  injection k with k
  injection k
/-- what is in the blocks of a list -/
def Blocks (w0 W : World) (l : List (Nat × TypeId × List Value)) : Prop := Below w0.heap.size w0 W ∧ ∀ x ∈ l, Row W x.1 x.2.1 x.2.2
namespace Blocks
variable {w0 W W' : World} {l : List (Nat × TypeId × List Value)} {g : Nat} {T : TypeId} {C : List Value}
theorem nil (h : Below w0.heap.size w0 W) : Blocks w0 W [] := ⟨h, by simp⟩
theorem step (h : Blocks w0 W l) (hb : Below W.heap.size W W') : Blocks w0 W' l := ⟨two_below' h.1 hb, fun x hx => (h.2 x hx).kept (grownBy_of_below hb none) (by simp)⟩
theorem drew (h : Blocks w0 W l) : Blocks w0 W.drew l := h.step (Below.refl _ _).drew
theorem alloc (h : Blocks w0 W l) (o : Obj) : Blocks w0 (W.alloc o) l := h.step ((Below.refl _ _).alloc (Nat.le_refl _) o)
theorem put (h : Blocks w0 W l) (hg : W.grownBy W' (some g)) (hs : w0.heap.size ≤ g) (hn : ∀ x ∈ l, x.1 ≠ g) : Blocks w0 W' l :=
  ⟨h.1.grown hg h.1.size (fun k hk => by cases hk; exact hs), fun x hx => (h.2 x hx).kept hg (by have := hn x hx; simpa using this)⟩
theorem cons (h : Blocks w0 W l) (hr : Row W g T C) : Blocks w0 W ((g, T, C) :: l) := ⟨h.1, fun x hx => by
  rcases List.mem_cons.1 hx with rfl | hx
  · exact hr
  · exact h.2 x hx⟩
theorem size (h : Blocks w0 W l) : w0.heap.size ≤ W.heap.size := h.1.size
theorem fresh (h : Blocks w0 W l) : ∀ x ∈ l, x.1 ≠ W.heap.size := fun x hx => by have := (h.2 x hx).lt; omega
theorem hd (h : Blocks w0 W ((g, T, C) :: l)) : Row W g T C := h.2 (g, T, C) List.mem_cons_self
theorem tl (h : Blocks w0 W ((g, T, C) :: l)) : Blocks w0 W l := ⟨h.1, fun x hx => h.2 x (List.mem_cons_of_mem _ hx)⟩
/-- a block of another type is none of them -/
theorem other (h : Blocks w0 W l) (hr : Row W g T C) (ht : ∀ x ∈ l, x.2.1 ≠ T) : ∀ x ∈ l, x.1 ≠ g := fun x hx e => ht x hx ((h.2 x hx).type (e ▸ hr))
end Blocks
end Go.Proofs.YtlapmdgkcidhnaaDoor

/- ---- NoAwk ---- -/
/- The laws of layer 5: what each begins with. -/
namespace Go.Proofs.YtlapmdgkcidhnaaDoor
open Go.RowKit
set_option linter.unusedVariables false
set_option linter.unusedSimpArgs false

theorem listE_small (l : List (List UInt8)) (hl : l.length ≤ 1024) (ht : Oct.total l ≤ 65536) : ∃ b, Oct.listE l = (b, 0) := by
  unfold Oct.listE
  rw [if_neg (by omega), Oct.listGo_mk 65536 l ht]
  exact ⟨_, rfl⟩
theorem total_cons (a : List UInt8) (l : List (List UInt8)) : Oct.total (a :: l) = a.length + Oct.total l := rfl
theorem Bd.text_ok {b : Bd} (hk : b.ok = true) (ht : b.tag.length = 32) : ∃ s, b.textE = (s, 0) := by
  unfold Bd.textE
  rw [if_pos hk]
  refine listE_small _ (by simp [Bd.fields, Bd.numsL]) ?_
  have h0 := Oct.num_length_le b.round.toNat
  have h1 := Oct.num_length_le b.who.toNat
  have h2 := Oct.num_length_le b.amount.toNat
  have h3 := Oct.num_length_le b.salt.toNat
  simp only [Bd.fields, Bd.numsL, List.map_cons, List.map_nil, List.cons_append, List.nil_append, total_cons]
  have : Oct.total [] = 0 := rfl
  omega
theorem Bd.text_len (b : Bd) : b.textE.1.length ≤ 100000 := by
  unfold Bd.textE
  split
  · exact listE_len _
  · simp
def Bd.one : Bd := ⟨1, 2, 3, 0, Tx.zero⟩
def Rp.one : Rp := ⟨0, 1, 5, ⟨#[97]⟩, Tx.zero, Tx.zero⟩
theorem Bd.sign_ok (b : Bd) : b.sign.ok = b.ok := rfl
theorem Bd.signE_ok {b : Bd} (h : b.ok = true) : Bd.pairV b.signE = .tuple #[.agg b.sign.cells.toArray, .int .i64 0] := by unfold Bd.signE; rw [if_pos h]; rfl
theorem Bd.sign_check {b : Bd} (h : b.ok = true) : b.sign.check = 0 := Bd.check_ok (b := b.sign) h true (by simp; rfl)
end Go.Proofs.YtlapmdgkcidhnaaDoor

/- ---- NoRf4 ---- -/
/- The reference of layer 5: ReadItem. -/
namespace Go.Proofs.YtlapmdgkcidhnaaDoor
open Go.RowKit
set_option linter.unusedVariables false
set_option linter.unusedSimpArgs false

/-- blocks, and all that was there at a world -/
def BlocksS (w0 w1 W : World) (l : List (Nat × TypeId × List Value)) : Prop := Blocks w0 W l ∧ Below w1.heap.size w1 W
namespace BlocksS
variable {w0 w1 W W' : World} {l : List (Nat × TypeId × List Value)} {g : Nat}
theorem size (h : BlocksS w0 w1 W l) : w0.heap.size ≤ W.heap.size ∧ w1.heap.size ≤ W.heap.size := ⟨h.1.size, h.2.size⟩
end BlocksS
end Go.Proofs.YtlapmdgkcidhnaaDoor

/- ---- NoRf5 ---- -/
/- The reference of layer 5: ReadBid. -/
namespace Go.Proofs.YtlapmdgkcidhnaaDoor
open Go.RowKit
set_option linter.unusedVariables false
set_option linter.unusedSimpArgs false

theorem bd_places : (Tryd.prog.underlying 30).map (fun d => match d with | .struct fields => fields.toList.mapM (fun f => (Tryd.prog.info? f.type).map fun i => (f.offset, i.size)) | _ => Option.none) = some (some [(0, 1), (1, 1), (2, 1), (3, 1), (4, 32)]) := by kernel_rfl
theorem bd_zero : (Tryd.prog.info? 30).map (·.zero) = some (some (.agg Bd.zero.cells.toArray)) := by kernel_rfl
theorem bd_built (parts : List (Nat × Value)) : Tryd.prog.built 30 parts = Instr.fill (#[(0, 1), (1, 1), (2, 1), (3, 1), (4, 32)][·]?) Bd.zero.cells.toArray parts := by
  obtain ⟨i0, hi, hz⟩ := Option.map_eq_some_iff.1 bd_zero
  have hp := bd_places
  rw [Tryd.underlying30] at hp
  simp only [Option.map_some, Option.some.injEq] at hp
  unfold Program.built
  rw [hi, Tryd.underlying30]
  simp only [hz, hp]
  rfl
theorem bd_five (a b c d : Int) (R : List UInt8) (hR : R.length = 32) :
    Tryd.prog.built 30 [(0, .int .i64 a), (1, .int .i64 b), (2, .int .i64 c), (3, .int .i64 d), (4, .agg (bRow R))] = some (Bd.cells ⟨a, b, c, d, R⟩).toArray := by
  have hz := Tx.bRow_len Tx.zero rfl
  have hr := Tx.bRow_len R hR
  have hL := Bd.cells_len (b := Bd.zero) rfl
  rw [bd_built]
  rw [fill_step _ _ 0 _ [.int .i64 a] _ 0 1 rfl rfl rfl (by rw [hL]; omega)]
  rw [fill_step _ _ 1 _ [.int .i64 b] _ 1 1 rfl rfl rfl (by simp only [List.length_append, List.length_take, List.length_drop, List.length_cons, List.length_nil, hL]; omega)]
  rw [fill_step _ _ 2 _ [.int .i64 c] _ 2 1 rfl rfl rfl (by simp only [List.length_append, List.length_take, List.length_drop, List.length_cons, List.length_nil, hL]; omega)]
  rw [fill_step _ _ 3 _ [.int .i64 d] _ 3 1 rfl rfl rfl (by simp only [List.length_append, List.length_take, List.length_drop, List.length_cons, List.length_nil, hL]; omega)]
  rw [fill_step _ _ 4 _ (bRow R).toList _ 4 32 rfl (by simp [Value.cells]) hr (by simp only [List.length_append, List.length_take, List.length_drop, List.length_cons, List.length_nil, hL]; omega)]
  rw [fill_end]
  unfold Bd.cells Bd.zero
  simp only [List.cons_append, List.nil_append, List.take_succ_cons, List.take_zero, List.drop_succ_cons, List.drop_zero]
  rw [List.drop_of_length_le (by rw [hz]; omega), List.append_nil]
end Go.Proofs.YtlapmdgkcidhnaaDoor
