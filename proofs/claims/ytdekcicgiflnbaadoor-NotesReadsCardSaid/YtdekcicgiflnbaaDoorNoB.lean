/- notes: bidMayBe, bidNumbers, WriteBid. -/
/- notes: SignBid, CheckBid. -/
/- notes: ReadBid. -/
import Derived.Test.YtdekcicgiflnbaaDoorNoI
import Derived.Test.YtdekcicgiflnbaaDoorTxRow
import Derived.Test.YtdekcicgiflnbaaDoorNoItemR
namespace Go.Proofs.YtdekcicgiflnbaaDoor
open Go.RowKit
set_option linter.unusedVariables false
set_option linter.unusedSimpArgs false

theorem bid_info : (Tryd.prog.info? 41).map (·.size) = some 36 := by kernel_rfl
namespace Bd
theorem cells_len {b : Bd} (h : b.tag.length = 32) : b.cells.length = 36 := by
  unfold cells
  simp only [List.length_append, Tx.bRow_len _ h, List.length_cons, List.length_nil]
theorem cells_one {b : Bd} (h : b.tag.length = 32) : ∀ v ∈ b.cells, v.oneCell' = true := by
  intro v hv
  unfold cells at hv
  rcases List.mem_append.1 hv with h1 | h1
  · simp at h1
    rcases h1 with rfl | rfl | rfl | rfl <;> rfl
  · exact hash_one _ h v h1
theorem cells_tag (b : Bd) : b.cells.drop 4 = (bRow b.tag).toList := rfl
end Bd
theorem bid_tag {W : World} {g : Nat} {T : TypeId} {b : Bd} (h : Row W g T b.cells) : W.rangeAt g 4 (bRow b.tag).toList := by
  intro j v hv
  have e : b.cells[4 + j]? = some v := by rw [← hv, ← Bd.cells_tag b, List.getElem?_drop]
  obtain ⟨hlt, he⟩ := List.getElem?_eq_some_iff.1 e
  rw [h.cell _ hlt, he]
theorem bid_box {W : World} {g : Nat} {T : TypeId} {b : Bd} (h : Row W g T b.cells) : W.cell? ⟨g, 0, none⟩ = some (.int .i64 b.round) ∧ W.cell? ⟨g, 1, none⟩ = some (.int .i64 b.who) ∧ W.cell? ⟨g, 2, none⟩ = some (.int .i64 b.amount) ∧ W.cell? ⟨g, 3, none⟩ = some (.int .i64 b.salt) :=
  ⟨h.cell 0 (by simp [Bd.cells]), h.cell 1 (by simp [Bd.cells]), h.cell 2 (by simp [Bd.cells]), h.cell 3 (by simp [Bd.cells])⟩
set_option maxRecDepth 20000 in
theorem bidMayBe_0 (b : Bd) (w : World) (h0 : Tx.acct b.who = false) :
    Calls Tryd.prog 72 #[.agg b.cells.toArray] w fun e w' => e = .returned (.bool false) ∧ Below w.heap.size w w' := by
  obtain ⟨c0, c1, c2, c3⟩ := bid_box (Row.new w 41 b.cells)
  have N0 : Hid (∀ W, Calls Tryd.prog 111 #[.int .i64 b.who] W fun e w' => e = .returned (.bool false) ∧ W = w') := fun W => by have := naccount_any (b.who) W; rw [h0] at this; exact this
  generalize b.cells = C at *
  clear h0
  go_enter Tryd.func72, Tryd.ntmps72
  go_wp2_with fail
  refine (N0.out _).mono ?_
  rintro _ w1 ⟨rfl, rfl⟩
  go_wp2_with fail
  go_ret
  exact ⟨rfl, (Below.refl w.heap.size w).alloc (Nat.le_refl _) _⟩
set_option maxRecDepth 20000 in
theorem bidMayBe_1 (b : Bd) (w : World) (h0 : Tx.acct b.who = true) (h1 : Tx.num b.round = false) :
    Calls Tryd.prog 72 #[.agg b.cells.toArray] w fun e w' => e = .returned (.bool false) ∧ Below w.heap.size w w' := by
  obtain ⟨c0, c1, c2, c3⟩ := bid_box (Row.new w 41 b.cells)
  have N0 : Hid (∀ W, Calls Tryd.prog 111 #[.int .i64 b.who] W fun e w' => e = .returned (.bool true) ∧ W = w') := fun W => by have := naccount_any (b.who) W; rw [h0] at this; exact this
  have N1 : Hid (∀ W, Calls Tryd.prog 112 #[.int .i64 b.round] W fun e w' => e = .returned (.bool false) ∧ W = w') := fun W => by have := nnumber_any (b.round) W; rw [h1] at this; exact this
  generalize b.cells = C at *
  clear h0 h1
  go_enter Tryd.func72, Tryd.ntmps72
  go_wp2_with fail
  refine (N0.out _).mono ?_
  rintro _ w1 ⟨rfl, rfl⟩
  go_wp2_with fail
  refine (N1.out _).mono ?_
  rintro _ w1 ⟨rfl, rfl⟩
  go_wp2_with fail
  go_ret
  exact ⟨rfl, (Below.refl w.heap.size w).alloc (Nat.le_refl _) _⟩
set_option maxRecDepth 20000 in
theorem bidMayBe_2 (b : Bd) (w : World) (h0 : Tx.acct b.who = true) (h1 : Tx.num b.round = true) (h2 : Tx.num b.amount = false) :
    Calls Tryd.prog 72 #[.agg b.cells.toArray] w fun e w' => e = .returned (.bool false) ∧ Below w.heap.size w w' := by
  obtain ⟨c0, c1, c2, c3⟩ := bid_box (Row.new w 41 b.cells)
  have N0 : Hid (∀ W, Calls Tryd.prog 111 #[.int .i64 b.who] W fun e w' => e = .returned (.bool true) ∧ W = w') := fun W => by have := naccount_any (b.who) W; rw [h0] at this; exact this
  have N1 : Hid (∀ W, Calls Tryd.prog 112 #[.int .i64 b.round] W fun e w' => e = .returned (.bool true) ∧ W = w') := fun W => by have := nnumber_any (b.round) W; rw [h1] at this; exact this
  have N2 : Hid (∀ W, Calls Tryd.prog 112 #[.int .i64 b.amount] W fun e w' => e = .returned (.bool false) ∧ W = w') := fun W => by have := nnumber_any (b.amount) W; rw [h2] at this; exact this
  generalize b.cells = C at *
  clear h0 h1 h2
  go_enter Tryd.func72, Tryd.ntmps72
  go_wp2_with fail
  refine (N0.out _).mono ?_
  rintro _ w1 ⟨rfl, rfl⟩
  go_wp2_with fail
  refine (N1.out _).mono ?_
  rintro _ w1 ⟨rfl, rfl⟩
  go_wp2_with fail
  refine (N2.out _).mono ?_
  rintro _ w1 ⟨rfl, rfl⟩
  go_wp2_with fail
  go_ret
  exact ⟨rfl, (Below.refl w.heap.size w).alloc (Nat.le_refl _) _⟩
set_option maxRecDepth 20000 in
theorem bidMayBe_3 (b : Bd) (w : World) (h0 : Tx.acct b.who = true) (h1 : Tx.num b.round = true) (h2 : Tx.num b.amount = true) (h3 : Tx.num b.salt = false) :
    Calls Tryd.prog 72 #[.agg b.cells.toArray] w fun e w' => e = .returned (.bool false) ∧ Below w.heap.size w w' := by
  obtain ⟨c0, c1, c2, c3⟩ := bid_box (Row.new w 41 b.cells)
  have N0 : Hid (∀ W, Calls Tryd.prog 111 #[.int .i64 b.who] W fun e w' => e = .returned (.bool true) ∧ W = w') := fun W => by have := naccount_any (b.who) W; rw [h0] at this; exact this
  have N1 : Hid (∀ W, Calls Tryd.prog 112 #[.int .i64 b.round] W fun e w' => e = .returned (.bool true) ∧ W = w') := fun W => by have := nnumber_any (b.round) W; rw [h1] at this; exact this
  have N2 : Hid (∀ W, Calls Tryd.prog 112 #[.int .i64 b.amount] W fun e w' => e = .returned (.bool true) ∧ W = w') := fun W => by have := nnumber_any (b.amount) W; rw [h2] at this; exact this
  have N3 : Hid (∀ W, Calls Tryd.prog 112 #[.int .i64 b.salt] W fun e w' => e = .returned (.bool false) ∧ W = w') := fun W => by have := nnumber_any (b.salt) W; rw [h3] at this; exact this
  generalize b.cells = C at *
  clear h0 h1 h2 h3
  go_enter Tryd.func72, Tryd.ntmps72
  go_wp2_with fail
  refine (N0.out _).mono ?_
  rintro _ w1 ⟨rfl, rfl⟩
  go_wp2_with fail
  refine (N1.out _).mono ?_
  rintro _ w1 ⟨rfl, rfl⟩
  go_wp2_with fail
  refine (N2.out _).mono ?_
  rintro _ w1 ⟨rfl, rfl⟩
  go_wp2_with fail
  refine (N3.out _).mono ?_
  rintro _ w1 ⟨rfl, rfl⟩
  go_wp2_with fail
  go_ret
  exact ⟨rfl, (Below.refl w.heap.size w).alloc (Nat.le_refl _) _⟩
set_option maxRecDepth 20000 in
theorem bidMayBe_4 (b : Bd) (w : World) (h0 : Tx.acct b.who = true) (h1 : Tx.num b.round = true) (h2 : Tx.num b.amount = true) (h3 : Tx.num b.salt = true) :
    Calls Tryd.prog 72 #[.agg b.cells.toArray] w fun e w' => e = .returned (.bool true) ∧ Below w.heap.size w w' := by
  obtain ⟨c0, c1, c2, c3⟩ := bid_box (Row.new w 41 b.cells)
  have N0 : Hid (∀ W, Calls Tryd.prog 111 #[.int .i64 b.who] W fun e w' => e = .returned (.bool true) ∧ W = w') := fun W => by have := naccount_any (b.who) W; rw [h0] at this; exact this
  have N1 : Hid (∀ W, Calls Tryd.prog 112 #[.int .i64 b.round] W fun e w' => e = .returned (.bool true) ∧ W = w') := fun W => by have := nnumber_any (b.round) W; rw [h1] at this; exact this
  have N2 : Hid (∀ W, Calls Tryd.prog 112 #[.int .i64 b.amount] W fun e w' => e = .returned (.bool true) ∧ W = w') := fun W => by have := nnumber_any (b.amount) W; rw [h2] at this; exact this
  have N3 : Hid (∀ W, Calls Tryd.prog 112 #[.int .i64 b.salt] W fun e w' => e = .returned (.bool true) ∧ W = w') := fun W => by have := nnumber_any (b.salt) W; rw [h3] at this; exact this
  generalize b.cells = C at *
  clear h0 h1 h2 h3
  go_enter Tryd.func72, Tryd.ntmps72
  go_wp2_with fail
  refine (N0.out _).mono ?_
  rintro _ w1 ⟨rfl, rfl⟩
  go_wp2_with fail
  refine (N1.out _).mono ?_
  rintro _ w1 ⟨rfl, rfl⟩
  go_wp2_with fail
  refine (N2.out _).mono ?_
  rintro _ w1 ⟨rfl, rfl⟩
  go_wp2_with fail
  refine (N3.out _).mono ?_
  rintro _ w1 ⟨rfl, rfl⟩
  go_wp2_with fail
  go_ret
  exact ⟨rfl, (Below.refl w.heap.size w).alloc (Nat.le_refl _) _⟩
theorem bidMayBe_any (b : Bd) (w : World) :
    Calls Tryd.prog 72 #[.agg b.cells.toArray] w fun e w' => e = .returned (.bool b.ok) ∧ Below w.heap.size w w' := by
  unfold Bd.ok
  rcases Bool.eq_false_or_eq_true (Tx.acct b.who) with h0 | h0
  · rcases Bool.eq_false_or_eq_true (Tx.num b.round) with h1 | h1
    · rcases Bool.eq_false_or_eq_true (Tx.num b.amount) with h2 | h2
      · rcases Bool.eq_false_or_eq_true (Tx.num b.salt) with h3 | h3
        · rw [h0, h1, h2, h3]; exact bidMayBe_4 b w h0 h1 h2 h3
        · rw [h0, h1, h2, h3]; exact bidMayBe_3 b w h0 h1 h2 h3
      · rw [h0, h1, h2]; exact bidMayBe_2 b w h0 h1 h2
    · rw [h0, h1]; exact bidMayBe_1 b w h0 h1
  · rw [h0]; exact bidMayBe_0 b w h0
set_option maxRecDepth 20000 in
theorem bidNumbers_any (b : Bd) (w : World) (hk : b.ok = true) :
    Calls Tryd.prog 73 #[.agg b.cells.toArray] w fun e w' => ∃ v, e = .returned v ∧ w'.ownsRow w.heap.size 9 1 v 4 ((b.numsL.map fun x => Oct.num x.toNat).map S) ∧ Below w.heap.size w w' := by
  obtain ⟨c0, c1, c2, c3⟩ := bid_box (Row.new w 41 b.cells)
  have hB := Bd.ok_nums hk
  have NB : Hid (∀ (W : World) (nb : Nat), Row W nb 3 (Is b.numsL) → Calls Tryd.prog 83 #[.slice (some ⟨nb, 0, none⟩) 4 4] W fun e w' => ∃ v, e = .returned v ∧ w'.ownsRow W.heap.size 9 1 v 4 ((b.numsL.map fun x => Oct.num x.toNat).map S) ∧ Below W.heap.size W w') := fun W nb hN =>
    numbers_any b.numsL 4 hB W nb hN (by simp [Bd.numsL])
  have hnl : Is b.numsL = [.int .i64 b.round, .int .i64 b.who, .int .i64 b.amount, .int .i64 b.salt] := rfl
  generalize (b.numsL.map fun x => Oct.num x.toNat).map S = TS at *
  generalize b.numsL = NL at *
  generalize b.cells = C at *
  have Hnl := Lib.hid hnl
  clear hB hnl hk
  go_enter Tryd.func73, Tryd.ntmps73
  go_wp2_with fail
  refine calls_named ?_
  intro w1 hw1
  obtain ⟨r1, b1, r0⟩ := row_two w C.toArray #[Value.int .i64 b.round, .int .i64 b.who, .int .i64 b.amount, .int .i64 b.salt] 41 3
  have hr1 : Row w1 (w.heap.size + 1) 3 (Is NL) := by rw [hw1, Hnl.out]; exact r1
  have hb1 : Below w.heap.size w w1 := by rw [hw1]; exact b1
  clear hw1 r1 b1 r0
  refine (NB.out w1 _ hr1).mono ?_
  rintro _ w2 ⟨v, rfl, hown, hb2⟩
  have Hown := Lib.hid (hown.mono hb1.size)
  have Hb2 := Lib.hid (two_below' hb1 hb2)
  clear hown hb2 hb1 hr1
  go_wp2_with fail
  go_ret
  exact ⟨v, rfl, Hown.out, Hb2.out⟩
set_option maxRecDepth 20000 in
theorem writeBid_no (b : Bd) (w : World) (ht : b.tag.length = 32) (h : b.ok = false) :
    Calls Tryd.prog 30 #[.agg b.cells.toArray] w fun e w' => e = .returned (.tuple #[S [], .int .i64 2]) ∧ Below w.heap.size w w' := by
  have MB : Hid (∀ W, Calls Tryd.prog 72 #[.agg b.cells.toArray] W fun e w' => e = .returned (.bool false) ∧ Below W.heap.size W w') := fun W => by have := bidMayBe_any b W; rw [h] at this; exact this
  have HL := Lib.hid (Bd.cells_len ht)
  have Hrow0 := Lib.hid (Row.new w 41 b.cells)
  generalize b.cells = C at *
  clear h
  go_enter Tryd.func30, Tryd.ntmps30
  go_wp2_with (with_reducible show wpList _ _ _ (⟨_, .load 41 _, _, _, _, _⟩ :: _) _ _; refine wpList_load_tx rfl 41 (.tmp 1) rfl w.heap.size 0 rfl C _ (row_range Hrow0.out) Tryd.underlying41 rfl (by rw [bid_info, HL.out]) ?_)
  refine (MB.out _).mono ?_
  rintro _ w1 ⟨rfl, hb1⟩
  have Hb1 := Lib.hid (tx_below (grownBy_of_below hb1 none))
  clear hb1
  go_wp2_with fail
  go_ret2
  exact ⟨rfl, Hb1.out⟩
set_option maxRecDepth 20000 in
set_option maxHeartbeats 1600000 in
theorem writeBid_ok (b : Bd) (w : World) (ht : b.tag.length = 32) (h : b.ok = true) :
    Calls Tryd.prog 30 #[.agg b.cells.toArray] w fun e w' => e = .returned (.tuple #[S (Oct.listE b.fields).1, .int .i64 (Oct.listE b.fields).2]) ∧ Below w.heap.size w w' := by
  obtain ⟨i0, hi, hz, hs, hby⟩ := str5
  have Hi := Lib.hid hi
  have Hz := Lib.hid hz
  have Hs := Lib.hid hs
  have Hby := Lib.hid hby
  have MB : Hid (∀ W, Calls Tryd.prog 72 #[.agg b.cells.toArray] W fun e w' => e = .returned (.bool true) ∧ Below W.heap.size W w') := fun W => by have := bidMayBe_any b W; rw [h] at this; exact this
  have BN := Lib.hid (fun W => bidNumbers_any b W h)
  have HL := Lib.hid (Bd.cells_len ht)
  have Hrow0 := Lib.hid (Row.new w 41 b.cells)
  have HT := Lib.hid ht
  have BT : Hid (∀ (W : World) (g : Nat) (T : TypeId), Row W g T b.cells → W.rangeAt g 4 (bRow b.tag).toList) := fun W g T h => bid_tag h
  have hff : (b.numsL.map fun x => Oct.num x.toNat).map S ++ [S b.tag] = b.fields.map S := by unfold Bd.fields; rw [List.map_append]; rfl
  have Hff := Lib.hid hff
  have Hfl : Hid (4 + 1 = b.fields.length) := (rfl : 4 + 1 = b.fields.length)
  generalize (b.numsL.map fun x => Oct.num x.toNat).map S = NS at *
  generalize b.fields = L at *
  generalize b.cells = C at *
  clear hi hz hs hby h hff ht
  have hu := Tryd.underlying41
  have hi41 : (Tryd.prog.info? 41).map (·.size) = some C.length := by rw [bid_info, HL.out]
  go_enter Tryd.func30, Tryd.ntmps30
  go_wp2_with (with_reducible show wpList _ _ _ (⟨_, .load 41 _, _, _, _, _⟩ :: _) _ _; refine wpList_load_tx rfl 41 (.tmp 1) rfl w.heap.size 0 rfl C _ (row_range Hrow0.out) Tryd.underlying41 rfl (by rw [bid_info, HL.out]) ?_)
  refine (MB.out _).mono ?_
  rintro _ w1 ⟨rfl, hb1⟩
  have HS0 := Lib.hid ((rowIn_call hb1).drew)
  clear hb1
  go_wp2_with fail
  refine wp_region_noPanic ?_
  refine wp_region_held_drew (S := fun w' => RowIn w w' w.heap.size 41 C) (by kernel_rfl) (HS0.out) (fun hHeld => ?_)
  generalize w1.drew = w9 at *
  refine' wpAnyH_take (i := 0) (v := _) rfl (by kernel_rfl) (by kernel_rfl) (by kernel_rfl) (fun _ _ _ h => h) (yieldsIf_load_mid (by rfl) _ _ rfl w.heap.size 0 rfl C _ (fun w' hSw => (row_range hSw.1)) hu rfl hi41) hHeld ?_
  try simp only [Act.put, List.getElem_toArray, List.getElem_cons_succ, List.getElem_cons_zero, List.setIfInBounds_toArray, List.set_cons_zero, List.set_cons_succ]
  refine wpAnyH_take (i := 2) (v := .pointer (some ⟨w.heap.size, 4, none⟩)) rfl (by kernel_rfl) (by kernel_rfl) (by kernel_rfl) (fun _ _ _ h => h) (Or.inl ⟨by rfl, fun w' hSw => by go_simp⟩) hHeld ?_
  try simp only [Act.put, List.getElem_toArray, List.getElem_cons_succ, List.getElem_cons_zero, List.setIfInBounds_toArray, List.set_cons_zero, List.set_cons_succ]
  refine wpAnyH_take (i := 3) (v := .slice (some ⟨w.heap.size, 4, none⟩) 32 32) rfl (by kernel_rfl) (by kernel_rfl) (by kernel_rfl) (fun _ _ _ h => h) (Or.inl ⟨by rfl, fun w' hSw => by go_simp⟩) hHeld ?_
  try simp only [Act.put, List.getElem_toArray, List.getElem_cons_succ, List.getElem_cons_zero, List.setIfInBounds_toArray, List.set_cons_zero, List.set_cons_succ]
  refine wpAnyH_take (i := 4) (v := S b.tag) rfl (by kernel_rfl) (by kernel_rfl) (by kernel_rfl) (fun _ _ _ h => h) (Or.inl ⟨by rfl, fun w' hSw => by have hq := hSw; have hc := hash_str4 w' w.heap.size 4 b.tag HT.out (BT.out w' _ _ hq.1); go_simp⟩) hHeld ?_
  try simp only [Act.put, List.getElem_toArray, List.getElem_cons_succ, List.getElem_cons_zero, List.setIfInBounds_toArray, List.set_cons_zero, List.set_cons_succ]
  refine wpAnyH_ready (rs := [1, 5]) (by kernel_rfl) (by simp) (AllReadyH.cons rfl (fun K1 hK1 => ?_) (AllReadyH.cons rfl (fun K1 hK1 => ?_) AllReadyH.nil))
  · skip
    try simp only [Act.put, List.getElem_toArray, List.getElem_cons_succ, List.getElem_cons_zero, List.setIfInBounds_toArray, List.set_cons_zero, List.set_cons_succ]
    go_simp
    refine Calls.mono (BN.out _) ?_
    rintro e wn1 ⟨vN, rfl, hown, hn2⟩
    have hown := hown.mono hHeld.size
    refine hK1.out _ _ (hHeld.step hn2) (fun hHeld => ?_)
    clear hK1 K1
    try simp only [Act.put, List.getElem_toArray, List.getElem_cons_succ, List.getElem_cons_zero, List.setIfInBounds_toArray, List.set_cons_zero, List.set_cons_succ]
    refine wpAnyH_ready (rs := [5]) (by kernel_rfl) (by simp) (AllReadyH.cons rfl (fun K1 hK1 => ?_) AllReadyH.nil)
    try simp only [Act.put, List.getElem_toArray, List.getElem_cons_succ, List.getElem_cons_zero, List.setIfInBounds_toArray, List.set_cons_zero, List.set_cons_succ]
    go_simp
    have hd4 := (Below.refl wn1.heap.size wn1).alloc (Nat.le_refl _) (.cells #[S b.tag] 9)
    have r2 : Row (wn1.alloc (.cells #[S b.tag] 9)) wn1.heap.size 9 ([S b.tag]) := Row.new wn1 9 ([S b.tag])
    have hown := own_below hown hd4
    have hHeld2 := hHeld.step hd4
    generalize wn1.alloc (.cells #[S b.tag] 9) = wb3 at *
    obtain ⟨gb5, gb5e⟩ : ∃ gb5, gb5 = wn1.heap.size := ⟨_, rfl⟩
    rw [← gb5e] at r2 ⊢
    refine hK1.out _ _ (hHeld2) (fun hHeld => ?_)
    clear hK1 K1
    try simp only [Act.put, List.getElem_toArray, List.getElem_cons_succ, List.getElem_cons_zero, List.setIfInBounds_toArray, List.set_cons_zero, List.set_cons_succ]
    clear hHeld2 gb5e
    refine wpAnyH_ready (rs := [6]) (by kernel_rfl) (by simp) (AllReadyH.cons rfl (fun K1 hK1 => ?_) AllReadyH.nil)
    try simp only [Act.put, List.getElem_toArray, List.getElem_cons_succ, List.getElem_cons_zero, List.setIfInBounds_toArray, List.set_cons_zero, List.set_cons_succ]
    rw [if_pos (by rfl)]
    refine wp_append_own_wide wb3 _ _ 73 rfl w.heap.size 9 i0 (.string ByteArray.empty) 1 16 Tryd.underlying73 Hi.out Hz.out Hs.out Hby.out rfl (by decide) vN 4 NS rfl hown ⟨gb5, 0, none⟩ 1 1 [S b.tag] rfl rfl (row_news r2) (by intro u hu; simp at hu; first | (subst hu; rfl) | (rcases hu with rfl | rfl <;> rfl)) (by unfold maxLen; omega) (by omega) hHeld.size fun vP wp6 hownP hgrow _ => ?_
    have hHeld2 := own_keeps hHeld (by decide) hown (Nat.le_refl _) hgrow
    clear hown r2 hgrow
    refine hK1.out _ _ (hHeld2) (fun hHeld => ?_)
    clear hK1 K1
    try simp only [Act.put, List.getElem_toArray, List.getElem_cons_succ, List.getElem_cons_zero, List.setIfInBounds_toArray, List.set_cons_zero, List.set_cons_succ]
    refine wpAnyH_ready (rs := [7]) (by kernel_rfl) (by simp) (AllReadyH.cons rfl (fun K1 hK1 => ?_) AllReadyH.nil)
    try simp only [Act.put, List.getElem_toArray, List.getElem_cons_succ, List.getElem_cons_zero, List.setIfInBounds_toArray, List.set_cons_zero, List.set_cons_succ]
    go_simp
    refine Calls.mono (list_owned L Hff.out hownP Hfl.out) ?_
    rintro e wl7 ⟨rfl, hl8⟩
    refine hK1.out _ _ (hHeld.step hl8) (fun hHeld => ?_)
    clear hK1 K1
    try simp only [Act.put, List.getElem_toArray, List.getElem_cons_succ, List.getElem_cons_zero, List.setIfInBounds_toArray, List.set_cons_zero, List.set_cons_succ]
    refine wpAnyH_take (i := 8) (v := S (Oct.listE L).1) rfl (by kernel_rfl) (by kernel_rfl) (by kernel_rfl) (fun _ _ _ h => h) (Or.inl ⟨by rfl, fun w' hSw => by go_simp⟩) hHeld ?_
    try simp only [Act.put, List.getElem_toArray, List.getElem_cons_succ, List.getElem_cons_zero, List.setIfInBounds_toArray, List.set_cons_zero, List.set_cons_succ]
    refine wpAnyH_take (i := 9) (v := .int .i64 (Oct.listE L).2) rfl (by kernel_rfl) (by kernel_rfl) (by kernel_rfl) (fun _ _ _ h => h) (Or.inl ⟨by rfl, fun w' hSw => by go_simp⟩) hHeld ?_
    try simp only [Act.put, List.getElem_toArray, List.getElem_cons_succ, List.getElem_cons_zero, List.setIfInBounds_toArray, List.set_cons_zero, List.set_cons_succ]
    refine wpAnyH_take (i := 10) (v := S (Oct.listE L).1) rfl (by kernel_rfl) (by kernel_rfl) (by kernel_rfl) (fun _ _ _ h => h) (Or.inl ⟨by rfl, fun w' hSw => by go_simp⟩) hHeld ?_
    try simp only [Act.put, List.getElem_toArray, List.getElem_cons_succ, List.getElem_cons_zero, List.setIfInBounds_toArray, List.set_cons_zero, List.set_cons_succ]
    refine wpAnyH_take (i := 11) (v := .int .i64 (Oct.listE L).2) rfl (by kernel_rfl) (by kernel_rfl) (by kernel_rfl) (fun _ _ _ h => h) (Or.inl ⟨by rfl, fun w' hSw => by go_simp⟩) hHeld ?_
    try simp only [Act.put, List.getElem_toArray, List.getElem_cons_succ, List.getElem_cons_zero, List.setIfInBounds_toArray, List.set_cons_zero, List.set_cons_succ]
    refine wpAnyH_done (by kernel_rfl) ?_ _
    refine NoPanic.normal ?_
    have Hbe := Lib.hid hHeld.2
    clear hHeld hu hi41
    go_wp2_with fail
    go_ret2
    exact ⟨rfl, Hbe.out⟩
  · skip
    try simp only [Act.put, List.getElem_toArray, List.getElem_cons_succ, List.getElem_cons_zero, List.setIfInBounds_toArray, List.set_cons_zero, List.set_cons_succ]
    go_simp
    have hd10 := (Below.refl w9.heap.size w9).alloc (Nat.le_refl _) (.cells #[S b.tag] 9)
    have r2 : Row (w9.alloc (.cells #[S b.tag] 9)) w9.heap.size 9 ([S b.tag]) := Row.new w9 9 ([S b.tag])
    have hHeld2 := hHeld.step hd10
    generalize w9.alloc (.cells #[S b.tag] 9) = wb9 at *
    obtain ⟨gb11, gb11e⟩ : ∃ gb11, gb11 = w9.heap.size := ⟨_, rfl⟩
    rw [← gb11e] at r2 ⊢
    refine hK1.out _ _ (hHeld2) (fun hHeld => ?_)
    clear hK1 K1
    try simp only [Act.put, List.getElem_toArray, List.getElem_cons_succ, List.getElem_cons_zero, List.setIfInBounds_toArray, List.set_cons_zero, List.set_cons_succ]
    clear hHeld2 gb11e
    refine wpAnyH_ready (rs := [1]) (by kernel_rfl) (by simp) (AllReadyH.cons rfl (fun K1 hK1 => ?_) AllReadyH.nil)
    try simp only [Act.put, List.getElem_toArray, List.getElem_cons_succ, List.getElem_cons_zero, List.setIfInBounds_toArray, List.set_cons_zero, List.set_cons_succ]
    go_simp
    refine Calls.mono (BN.out _) ?_
    rintro e wn12 ⟨vN, rfl, hown, hn13⟩
    have hown := hown.mono hHeld.size
    have r2 := r2.kept (grownBy_of_below hn13 none) (by simp)
    refine hK1.out _ _ (hHeld.step hn13) (fun hHeld => ?_)
    clear hK1 K1
    try simp only [Act.put, List.getElem_toArray, List.getElem_cons_succ, List.getElem_cons_zero, List.setIfInBounds_toArray, List.set_cons_zero, List.set_cons_succ]
    refine wpAnyH_ready (rs := [6]) (by kernel_rfl) (by simp) (AllReadyH.cons rfl (fun K1 hK1 => ?_) AllReadyH.nil)
    try simp only [Act.put, List.getElem_toArray, List.getElem_cons_succ, List.getElem_cons_zero, List.setIfInBounds_toArray, List.set_cons_zero, List.set_cons_succ]
    rw [if_pos (by rfl)]
    refine wp_append_own_wide wn12 _ _ 73 rfl w.heap.size 9 i0 (.string ByteArray.empty) 1 16 Tryd.underlying73 Hi.out Hz.out Hs.out Hby.out rfl (by decide) vN 4 NS rfl hown ⟨gb11, 0, none⟩ 1 1 [S b.tag] rfl rfl (row_news r2) (by intro u hu; simp at hu; first | (subst hu; rfl) | (rcases hu with rfl | rfl <;> rfl)) (by unfold maxLen; omega) (by omega) hHeld.size fun vP wp14 hownP hgrow _ => ?_
    have hHeld2 := own_keeps hHeld (by decide) hown (Nat.le_refl _) hgrow
    clear hown r2 hgrow
    refine hK1.out _ _ (hHeld2) (fun hHeld => ?_)
    clear hK1 K1
    try simp only [Act.put, List.getElem_toArray, List.getElem_cons_succ, List.getElem_cons_zero, List.setIfInBounds_toArray, List.set_cons_zero, List.set_cons_succ]
    refine wpAnyH_ready (rs := [7]) (by kernel_rfl) (by simp) (AllReadyH.cons rfl (fun K1 hK1 => ?_) AllReadyH.nil)
    try simp only [Act.put, List.getElem_toArray, List.getElem_cons_succ, List.getElem_cons_zero, List.setIfInBounds_toArray, List.set_cons_zero, List.set_cons_succ]
    go_simp
    refine Calls.mono (list_owned L Hff.out hownP Hfl.out) ?_
    rintro e wl15 ⟨rfl, hl16⟩
    refine hK1.out _ _ (hHeld.step hl16) (fun hHeld => ?_)
    clear hK1 K1
    try simp only [Act.put, List.getElem_toArray, List.getElem_cons_succ, List.getElem_cons_zero, List.setIfInBounds_toArray, List.set_cons_zero, List.set_cons_succ]
    refine wpAnyH_take (i := 8) (v := S (Oct.listE L).1) rfl (by kernel_rfl) (by kernel_rfl) (by kernel_rfl) (fun _ _ _ h => h) (Or.inl ⟨by rfl, fun w' hSw => by go_simp⟩) hHeld ?_
    try simp only [Act.put, List.getElem_toArray, List.getElem_cons_succ, List.getElem_cons_zero, List.setIfInBounds_toArray, List.set_cons_zero, List.set_cons_succ]
    refine wpAnyH_take (i := 9) (v := .int .i64 (Oct.listE L).2) rfl (by kernel_rfl) (by kernel_rfl) (by kernel_rfl) (fun _ _ _ h => h) (Or.inl ⟨by rfl, fun w' hSw => by go_simp⟩) hHeld ?_
    try simp only [Act.put, List.getElem_toArray, List.getElem_cons_succ, List.getElem_cons_zero, List.setIfInBounds_toArray, List.set_cons_zero, List.set_cons_succ]
    refine wpAnyH_take (i := 10) (v := S (Oct.listE L).1) rfl (by kernel_rfl) (by kernel_rfl) (by kernel_rfl) (fun _ _ _ h => h) (Or.inl ⟨by rfl, fun w' hSw => by go_simp⟩) hHeld ?_
    try simp only [Act.put, List.getElem_toArray, List.getElem_cons_succ, List.getElem_cons_zero, List.setIfInBounds_toArray, List.set_cons_zero, List.set_cons_succ]
    refine wpAnyH_take (i := 11) (v := .int .i64 (Oct.listE L).2) rfl (by kernel_rfl) (by kernel_rfl) (by kernel_rfl) (fun _ _ _ h => h) (Or.inl ⟨by rfl, fun w' hSw => by go_simp⟩) hHeld ?_
    try simp only [Act.put, List.getElem_toArray, List.getElem_cons_succ, List.getElem_cons_zero, List.setIfInBounds_toArray, List.set_cons_zero, List.set_cons_succ]
    refine wpAnyH_done (by kernel_rfl) ?_ _
    refine NoPanic.normal ?_
    have Hbe := Lib.hid hHeld.2
    clear hHeld hu hi41
    go_wp2_with fail
    go_ret2
    exact ⟨rfl, Hbe.out⟩
theorem writeBid_any (b : Bd) (ht : b.tag.length = 32) (w : World) :
    Calls Tryd.prog 30 #[b.v] w fun e w' => e = .returned (two b.textE.1 b.textE.2) ∧ Below w.heap.size w w' := by
  unfold Bd.textE
  rcases Bool.eq_false_or_eq_true b.ok with h | h
  · rw [if_pos h]; exact writeBid_ok b w ht h
  · rw [if_neg (by rw [h]; simp)]; exact writeBid_no b w ht h
end Go.Proofs.YtdekcicgiflnbaaDoor
namespace Go.Proofs.YtdekcicgiflnbaaDoor
open Go.RowKit
set_option linter.unusedVariables false
set_option linter.unusedSimpArgs false

namespace Bd
theorem put_tag {b : Bd} (h : b.tag.length = 32) (R : List UInt8) (hR : R.length = 32) : b.cells.take 4 ++ ((bRow R).toList ++ b.cells.drop (4 + (bRow R).toList.length)) = Bd.cells { b with tag := R } := by
  rw [List.drop_of_length_le (by rw [cells_len h, Tx.bRow_len R hR]; omega), List.append_nil]
  rfl
theorem body_len (b : Bd) : b.body.length ≤ 100000 := listE_len _
def pairV (x : Bd × Int) : Value := .tuple #[.agg x.1.cells.toArray, .int .i64 x.2]
end Bd
theorem Bd.zero_built0 : Tryd.prog.built 41 [] = some Bd.zero.cells.toArray := by kernel_rfl
/-- the numbers' list -/
theorem bodyL {b : Bd} {W : World} {base : Nat} {v : Value} (h : W.ownsRow base 9 1 v 4 ((b.numsL.map fun x => Oct.num x.toNat).map S)) :
    Calls Tryd.prog 56 #[v] W fun e w' => ∃ n : Int, e = .returned (.tuple #[S b.body, .int .i64 n]) ∧ Below W.heap.size W w' :=
  (list_owned (k := 3) _ rfl h rfl).mono fun e w' ⟨h1, h2⟩ => ⟨_, h1, h2⟩
set_option maxRecDepth 20000 in
set_option maxHeartbeats 1600000 in
theorem signBid_any (b : Bd) (hf : b.tag.length = 32) (w : World) (hT : Tab w) :
    Calls Tryd.prog 32 #[.agg b.cells.toArray] w fun e w' => e = .returned (Bd.pairV b.signE) ∧ Below w.heap.size w w' := by
  have MB := Lib.hid (fun W => bidMayBe_any b W)
  have HZL := Lib.hid (Bd.cells_len (b := Bd.zero) rfl)
  have HZ1 := Lib.hid (Bd.cells_one (b := Bd.zero) rfl)
  have HL := Lib.hid (Bd.cells_len hf)
  have Hrow0 := Lib.hid (Row.new w 41 b.cells)
  have HTab := Lib.hid hT
  have Hp := Lib.hid hT.pos
  have hbl := b.body_len
  have TG : Hid (∀ W, Tab W → Calls Tryd.prog 66 #[.int .i64 b.who, .int .i64 3, S b.body] W fun e w' => e = .returned (.tuple #[.agg (bRow (Seal.tag b.who 3 b.body).1), .int .i64 (Seal.tag b.who 3 b.body).2]) ∧ Below W.heap.size W w') := fun W hW => Tag_any b.who 3 ⟨b.body.toArray⟩ W hW (by show b.body.length ≤ _; omega)
  have BX : Hid (∀ (W : World) (g : Nat) (T : TypeId), Row W g T b.cells → W.cell? ⟨g, 1, none⟩ = some (.int .i64 b.who)) := fun W g T h => (bid_box h).2.1
  have Hcl := Lib.hid (Bd.put_tag hf (Seal.tag b.who 3 b.body).1 (Seal.tag_len _ _ _))
  have hce : Bd.cells { b with tag := (Seal.tag b.who 3 b.body).1 } = b.sign.cells := rfl
  rw [hce] at Hcl
  have htl := Seal.tag_len b.who 3 b.body
  have HDL := Lib.hid (Bd.cells_len (b := b.sign) htl)
  have HD1 := Lib.hid (Bd.cells_one (b := b.sign) htl)
  have HR := Lib.hid htl
  have HB32 := Lib.hid (Tx.bRow_len _ htl)
  have hzv : ∀ W : World, (zeroValue 41).run Tryd.prog W = .ok (.agg Bd.zero.cells.toArray) W := fun W => by kernel_rfl
  rcases Bool.eq_false_or_eq_true b.ok with hk | hk
  · have he : Bd.pairV b.signE = .tuple #[.agg b.sign.cells.toArray, .int .i64 0] := by unfold Bd.signE; rw [if_pos hk]; rfl
    rw [he]
    have BN := Lib.hid (fun W => bidNumbers_any b W hk)
    have BL : Hid (∀ (W : World) (base : Nat) (v : Value), W.ownsRow base 9 1 v 4 ((b.numsL.map fun x => Oct.num x.toNat).map S) → Calls Tryd.prog 56 #[v] W fun e w' => ∃ n : Int, e = .returned (.tuple #[S b.body, .int .i64 n]) ∧ Below W.heap.size W w') := fun W base v h => bodyL h
    rw [hk] at MB
    generalize (b.numsL.map fun x => Oct.num x.toNat).map S = NS at *
    generalize b.sign.cells = D at *
    generalize (Seal.tag b.who 3 b.body).2 = tn at *
    generalize (Seal.tag b.who 3 b.body).1 = R at *
    generalize b.body = bs at *
    generalize b.cells = C at *
    clear hT hf hk he hce htl hbl
    go_enter Tryd.func32, Tryd.ntmps32
    go_wp2_with (with_reducible show wpList _ _ _ (⟨_, .load 41 _, _, _, _, _⟩ :: _) _ _; refine wpList_load_tx rfl 41 (.tmp 1) rfl w.heap.size 0 rfl C _ (World.rangeAt_alloc (row_range Hrow0.out) _) Tryd.underlying41 rfl (by rw [bid_info, HL.out]) ?_)
    refine calls_named ?_
    intro w1 hw1
    have hb1 : Below w.heap.size w w1 := by rw [hw1]; exact (row_two w C.toArray Bd.zero.cells.toArray 41 41).2.1
    have hr1 : Row w1 (w.heap.size + 1) 41 Bd.zero.cells := by rw [hw1]; exact (row_two w C.toArray Bd.zero.cells.toArray 41 41).1
    have hq1 : Row w1 w.heap.size 41 C := by rw [hw1]; exact (row_two w C.toArray Bd.zero.cells.toArray 41 41).2.2
    clear hw1 hzv
    refine (MB.out w1).mono ?_
    rintro _ w2 ⟨rfl, hb2⟩
    have hg2 := grownBy_of_below hb2 none
    have Hr2 := Lib.hid (hr1.kept hg2 (by simp))
    have Hq2 := Lib.hid (hq1.kept hg2 (by simp))
    have Hb2 := Lib.hid (two_below' hb1 hb2)
    clear hb1 hr1 hq1 hb2 hg2
    go_wp2_with (with_reducible show wpList _ _ _ (⟨_, .load 41 _, _, _, _, _⟩ :: _) _ _; refine wpList_load_tx rfl 41 (.tmp 1) rfl w.heap.size 0 rfl C _ (row_range Hq2.out) Tryd.underlying41 rfl (by rw [bid_info, HL.out]) ?_)
    refine (BN.out w2).mono ?_
    rintro _ w3 ⟨v, rfl, hown, hb3⟩
    have hg3 := grownBy_of_below hb3 none
    have Hr3 := Lib.hid (Hr2.out.kept hg3 (by simp))
    have Hq3 := Lib.hid (Hq2.out.kept hg3 (by simp))
    have Hb3 := Lib.hid (two_below' Hb2.out hb3)
    have Hown := Lib.hid hown
    clear hb3 hg3 hown
    go_wp2_with fail
    refine (BL.out w3 _ v Hown.out).mono ?_
    rintro _ w4 ⟨n, rfl, hb4⟩
    have hg4 := grownBy_of_below hb4 none
    have Hr4 := Lib.hid (Hr3.out.kept hg4 (by simp))
    have Hq4 := Lib.hid (Hq3.out.kept hg4 (by simp))
    have Hb4 := Lib.hid (two_below' Hb3.out hb4)
    have c1 := BX.out _ _ _ Hq4.out
    clear hb4 hg4
    go_wp2_with fail
    refine (TG.out w4 (HTab.out.below Hb4.out Hp.out)).mono ?_
    rintro _ w5 ⟨rfl, hb5⟩
    have hg5 := grownBy_of_below hb5 none
    have Hr5 := Lib.hid (Hr4.out.kept hg5 (by simp))
    have Hq5 := Lib.hid (Hq4.out.kept hg5 (by simp))
    have Hb5 := Lib.hid (two_below' Hb4.out hb5)
    have hlt5 := Hr5.out.lt
    clear hb5 hg5 c1
    go_wp2_with (first
      | (with_reducible show wpList _ _ _ (⟨_, .store 23 _ _, _, _, _, _⟩ :: _) _ _
         refine wpList_store_at rfl 23 (.tmp 23) (.tmp 21) rfl w.heap.size 4 (bRow R).toList _ _ rfl rfl Hq5.out (by rw [HB32.out, HL.out]; decide) (by rw [hash_info, HB32.out]) (hash_one R HR.out) ?_
         intro w6 hr6 hg6
         rw [Hcl.out] at hr6
         have Hq6 := Lib.hid hr6
         have Hr6 := Lib.hid (Hr5.out.kept hg6 (by simp))
         have Hb6 := Lib.hid (below_own Hb5.out hg6 (fun k hk => by cases hk; exact Nat.le_refl _))
         clear hr6 hg6)
      | (with_reducible show wpList _ _ _ (⟨_, .load 41 _, _, _, _, _⟩ :: _) _ _; refine wpList_load_tx rfl 41 (.tmp 1) rfl w.heap.size 0 rfl D _ (row_range Hq6.out) Tryd.underlying41 rfl (by rw [bid_info, HDL.out]) ?_)
      | (with_reducible show wpList _ _ _ (⟨_, .store 41 _ _, _, _, _, _⟩ :: _) _ _
         refine wpList_store_at rfl 41 (.tmp 2) (.tmp 24) rfl (w.heap.size + 1) 0 D _ _ rfl rfl Hr6.out (by have := HZL.out; have := HDL.out; omega) (by rw [bid_info, HDL.out]) HD1.out ?_
         intro w8 hr8 hg8
         rw [splice_all (HDL.out.trans HZL.out.symm)] at hr8
         have Hr8 := Lib.hid hr8
         have Hb8 := Lib.hid (below_own Hb6.out hg8 (fun k hk => by cases hk; omega))
         clear hr8 hg8))
    refine bodyPost_ret (results_rowL rfl _ _ (w.heap.size + 1) 41 _ _ rfl Hr8.out Tryd.underlying41 rfl (by rw [bid_info, List.size_toArray, HDL.out]) _ rfl) rfl ⟨rfl, Hb8.out⟩
  · have he : Bd.pairV b.signE = .tuple #[.agg Bd.zero.cells.toArray, .int .i64 2] := by unfold Bd.signE; rw [if_neg (by rw [hk]; simp)]; rfl
    have He := Lib.hid he
    rw [hk] at MB
    generalize Bd.pairV b.signE = NE at *
    generalize b.cells = C at *
    clear hT hf hk he hce htl hbl TG HD1 HDL HB32 HR Hcl
    go_enter Tryd.func32, Tryd.ntmps32
    go_wp2_with (with_reducible show wpList _ _ _ (⟨_, .load 41 _, _, _, _, _⟩ :: _) _ _; refine wpList_load_tx rfl 41 (.tmp 1) rfl w.heap.size 0 rfl C _ (World.rangeAt_alloc (row_range Hrow0.out) _) Tryd.underlying41 rfl (by rw [bid_info, HL.out]) ?_)
    refine calls_named ?_
    intro w1 hw1
    have hb1 : Below w.heap.size w w1 := by rw [hw1]; exact (row_two w C.toArray Bd.zero.cells.toArray 41 41).2.1
    have hr1 : Row w1 (w.heap.size + 1) 41 Bd.zero.cells := by rw [hw1]; exact (row_two w C.toArray Bd.zero.cells.toArray 41 41).1
    clear hw1 hzv
    refine (MB.out w1).mono ?_
    rintro _ w2 ⟨rfl, hb2⟩
    have hg2 := grownBy_of_below hb2 none
    have Hr2 := Lib.hid (hr1.kept hg2 (by simp))
    have Hb2 := Lib.hid (two_below' hb1 hb2)
    clear hb1 hr1 hb2 hg2
    go_wp2_with (first
      | (with_reducible show wpList _ _ _ (⟨_, .build 41 _, _, _, _, _⟩ :: _) _ _; refine wpList_buildL rfl 41 [] rfl (some 9) rfl _ rfl _ Bd.zero_built0 ?_)
      | (with_reducible show wpList _ _ _ (⟨_, .store 41 _ _, _, _, _, _⟩ :: _) _ _
         refine wpList_store_at rfl 41 (.tmp 2) (.tmp 9) rfl (w.heap.size + 1) 0 Bd.zero.cells _ _ rfl rfl Hr2.out (by have := HZL.out; omega) (by rw [bid_info, HZL.out]) HZ1.out ?_
         intro wZ hrZ hgZ
         rw [splice_all rfl] at hrZ
         have HrZ := Lib.hid hrZ
         have HbZ := Lib.hid (below_own Hb2.out hgZ (fun k hk => by cases hk; omega))
         clear hrZ hgZ))
    refine bodyPost_ret (results_rowL rfl _ _ (w.heap.size + 1) 41 _ _ rfl HrZ.out Tryd.underlying41 rfl (by rw [bid_info, List.size_toArray, HZL.out]) _ rfl) rfl ⟨?_, HbZ.out⟩
    rw [He.out]
    exact rfl
set_option maxRecDepth 20000 in
set_option maxHeartbeats 1600000 in
theorem checkBid_any (b : Bd) (hf : b.tag.length = 32) (w : World) (hT : Tab w) :
    Calls Tryd.prog 35 #[.agg b.cells.toArray] w fun e w' => e = .returned (.int .i64 b.check) ∧ Below w.heap.size w w' := by
  have MB := Lib.hid (fun W => bidMayBe_any b W)
  have HL := Lib.hid (Bd.cells_len hf)
  have Hrow0 := Lib.hid (Row.new w 41 b.cells)
  have HTab := Lib.hid hT
  have Hp := Lib.hid hT.pos
  have hbl := b.body_len
  have CK : Hid (∀ W, Tab W → Calls Tryd.prog 68 #[.int .i64 b.who, .int .i64 3, S b.body, .agg (bRow b.tag)] W fun e w' => e = .returned (.int .i64 (Seal.check2 b.who 3 b.body b.tag)) ∧ Below W.heap.size W w') := fun W hW => Check_any b.who 3 ⟨b.body.toArray⟩ b.tag W hW hf (by show b.body.length ≤ _; omega)
  have BX : Hid (∀ (W : World) (g : Nat) (T : TypeId), Row W g T b.cells → W.cell? ⟨g, 1, none⟩ = some (.int .i64 b.who) ∧ W.rangeAt g 4 (bRow b.tag).toList) := fun W g T h => ⟨(bid_box h).2.1, bid_tag h⟩
  have HB32 := Lib.hid (Tx.bRow_len _ hf)
  rcases Bool.eq_false_or_eq_true b.ok with hk | hk
  · have he : b.check = Seal.check2 b.who 3 b.body b.tag := by unfold Bd.check; rw [if_pos hk]
    rw [he]
    have BN := Lib.hid (fun W => bidNumbers_any b W hk)
    have BL : Hid (∀ (W : World) (base : Nat) (v : Value), W.ownsRow base 9 1 v 4 ((b.numsL.map fun x => Oct.num x.toNat).map S) → Calls Tryd.prog 56 #[v] W fun e w' => ∃ n : Int, e = .returned (.tuple #[S b.body, .int .i64 n]) ∧ Below W.heap.size W w') := fun W base v h => bodyL h
    rw [hk] at MB
    generalize (b.numsL.map fun x => Oct.num x.toNat).map S = NS at *
    generalize Seal.check2 b.who 3 b.body b.tag = tn at *
    generalize b.body = bs at *
    generalize b.cells = C at *
    clear hT hf hk he hbl
    go_enter Tryd.func35, Tryd.ntmps35
    go_wp2_with (with_reducible show wpList _ _ _ (⟨_, .load 41 _, _, _, _, _⟩ :: _) _ _; refine wpList_load_tx rfl 41 (.tmp 1) rfl w.heap.size 0 rfl C _ (row_range Hrow0.out) Tryd.underlying41 rfl (by rw [bid_info, HL.out]) ?_)
    refine (MB.out _).mono ?_
    rintro _ w2 ⟨rfl, hb2⟩
    have hg2 := grownBy_of_below hb2 none
    have Hq2 := Lib.hid (Hrow0.out.kept hg2 (by simp))
    have Hb2 := Lib.hid (tx_below hg2)
    clear hb2 hg2
    go_wp2_with (with_reducible show wpList _ _ _ (⟨_, .load 41 _, _, _, _, _⟩ :: _) _ _; refine wpList_load_tx rfl 41 (.tmp 1) rfl w.heap.size 0 rfl C _ (row_range Hq2.out) Tryd.underlying41 rfl (by rw [bid_info, HL.out]) ?_)
    refine (BN.out w2).mono ?_
    rintro _ w3 ⟨v, rfl, hown, hb3⟩
    have hg3 := grownBy_of_below hb3 none
    have Hq3 := Lib.hid (Hq2.out.kept hg3 (by simp))
    have Hb3 := Lib.hid (two_below' Hb2.out hb3)
    have Hown := Lib.hid hown
    clear hb3 hg3 hown
    go_wp2_with fail
    refine (BL.out w3 _ v Hown.out).mono ?_
    rintro _ w4 ⟨n, rfl, hb4⟩
    have hg4 := grownBy_of_below hb4 none
    obtain ⟨c1, rt⟩ := BX.out _ _ _ (Hq3.out.kept hg4 (by simp))
    have Hb4 := Lib.hid (two_below' Hb3.out hb4)
    have Hrt := Lib.hid rt
    clear hb4 hg4 rt
    go_wp2_with (with_reducible show wpList _ _ _ (⟨_, .load 23 _, _, _, _, _⟩ :: _) _ _; refine wpList_load_tx rfl 23 (.tmp 17) rfl w.heap.size 4 rfl (bRow b.tag).toList _ Hrt.out Tryd.underlying23 rfl (by rw [hash_info, HB32.out]) ?_)
    refine (CK.out w4 (HTab.out.below Hb4.out Hp.out)).mono ?_
    rintro _ w5 ⟨rfl, hb5⟩
    have Hb5 := Lib.hid (two_below' Hb4.out hb5)
    clear hb5 c1
    go_wp2_with fail
    go_ret
    exact ⟨rfl, Hb5.out⟩
  · have he : b.check = 2 := by unfold Bd.check; rw [if_neg (by rw [hk]; simp)]
    rw [he]
    rw [hk] at MB
    generalize b.cells = C at *
    clear hT hf hk he hbl CK
    go_enter Tryd.func35, Tryd.ntmps35
    go_wp2_with (with_reducible show wpList _ _ _ (⟨_, .load 41 _, _, _, _, _⟩ :: _) _ _; refine wpList_load_tx rfl 41 (.tmp 1) rfl w.heap.size 0 rfl C _ (row_range Hrow0.out) Tryd.underlying41 rfl (by rw [bid_info, HL.out]) ?_)
    refine (MB.out _).mono ?_
    rintro _ w2 ⟨rfl, hb2⟩
    have Hb2 := Lib.hid (tx_below (grownBy_of_below hb2 none))
    clear hb2
    go_wp2_with fail
    go_ret
    exact ⟨rfl, Hb2.out⟩
end Go.Proofs.YtdekcicgiflnbaaDoor
namespace Go.Proofs.YtdekcicgiflnbaaDoor
open Go.RowKit
set_option linter.unusedVariables false
set_option linter.unusedSimpArgs false

namespace Bd
theorem read_none {s : No.T8} (h : Tx.listAll s = none) : read s = none := by unfold read; rw [h]; rfl
theorem ok_num {b : Bd} (h : b.ok = true) : Tx.num b.round = true ∧ Tx.num b.who = true ∧ Tx.num b.amount = true ∧ Tx.num b.salt = true := by
  rw [ok_iff] at h
  rw [No.num_iff, No.num_iff, No.num_iff, No.num_iff]
  omega
theorem of_ok {ns : List Int} {rest : List No.T8} {b : Bd} (h : of ns rest = some b) : b.ok = true ∧ ns = [b.round, b.who, b.amount, b.salt] ∧ rest = [b.tag] ∧ b.tag.length = 32 := by
  unfold of at h
  split at h
  · split at h
    · next hk =>
      simp only [Option.some.injEq] at h
      subst h
      exact ⟨hk.2, rfl, rfl, hk.1⟩
    · cases h
  · cases h
theorem read_eq {s : No.T8} {l : List No.T8} (h : Tx.listAll s = some l) : read s = (No.nums 4 l).bind fun ns => of ns (l.drop 4) := by
  unfold read
  rw [h, No.nums_raw]
  simp only [Option.bind_some]
  cases hr : No.raw 4 l with
  | none => rfl
  | some ns =>
    simp only [Option.bind_some]
    by_cases ha : ns.all Tx.num = true
    · rw [if_pos ha]; rfl
    · rw [if_neg ha]
      cases ho : of ns (l.drop 4) with
      | none => rfl
      | some i =>
        obtain ⟨h1, h2, _⟩ := of_ok ho
        have := ok_num h1
        exact absurd (by rw [h2]; simp [this]) ha
theorem of_no {ns : List Int} {rest : List No.T8} (h : ¬ (rest.length = 1 ∧ No.AllH rest)) : of ns rest = none := by
  cases ho : of ns rest with
  | none => rfl
  | some b =>
    obtain ⟨_, _, h3, h4⟩ := of_ok ho
    exact absurd ⟨by rw [h3]; rfl, fun x hx => by rw [h3] at hx; simp at hx; rw [hx]; exact h4⟩ h
theorem of_yes {a b c d : Int} {t : No.T8} (h : t.length = 32) : of [a, b, c, d] [t] = if (Bd.mk a b c d t).ok = true then some ⟨a, b, c, d, t⟩ else none := by
  unfold of
  simp only [h, true_and]
end Bd
theorem Bd.hashed (a b d f : Int) (t : List UInt8) : No.putH (Is [a, b, d, f] ++ Bd.zero.cells.drop 4) ([4].zip [t]) = Bd.cells ⟨a, b, d, f, t⟩ := by
  rw [Bd.cells_tag]
  have hZ : (bRow Bd.zero.tag).toList.length = 32 := Tx.bRow_len _ rfl
  generalize (bRow Bd.zero.tag).toList = Z at *
  have e : (Is [a, b, d, f] ++ Z).drop 36 = [] := List.drop_of_length_le (by rw [List.length_append, hZ]; simp [Is])
  show (Is [a, b, d, f] ++ Z).take 4 ++ ((bRow t).toList ++ (Is [a, b, d, f] ++ Z).drop 36) = _
  rw [e, List.append_nil]
  rfl
theorem four_of {α : Type} {l : List α} (h : l.length = 4) : ∃ a b c d, l = [a, b, c, d] := by
  match l, h with
  | [a, b, c, d], _ => exact ⟨a, b, c, d, rfl⟩
def BdEnds (R : Option Bd) (e : Ending) : Prop :=
  match R with
  | some u => e = .returned (.tuple #[.agg u.cells.toArray, .int .i64 0])
  | none => e = .returned (.tuple #[.agg Bd.zero.cells.toArray, .int .i64 6])
set_option maxRecDepth 20000 in
set_option maxHeartbeats 1600000 in
theorem readBid_any (s : ByteArray) (w : World) (hs : s.size ≤ 9223372036854775807) :
    Calls Tryd.prog 45 #[.string s] w fun e w' => BdEnds (Bd.read s.data.toList) e ∧ Below w.heap.size w w' := by
  have HZL := Lib.hid (Bd.cells_len (b := Bd.zero) rfl)
  have HZ1 := Lib.hid (Bd.cells_one (b := Bd.zero) rfl)
  have FD := Lib.hid (fun W => fields_any s W hs)
  obtain ⟨R, hR⟩ : ∃ R, R = Bd.read s.data.toList := ⟨_, rfl⟩
  rw [← hR]
  have hzv : ∀ W : World, (zeroValue 41).run Tryd.prog W = .ok (.agg Bd.zero.cells.toArray) W := fun W => by kernel_rfl
  have Hr0 := Lib.hid (Row.new w 41 Bd.zero.cells)
  have Hb0 := Lib.hid ((Below.refl w.heap.size w).alloc (Nat.le_refl _) (.cells Bd.zero.cells.toArray 41))
  cases hL : Tx.listAll s.data.toList with
  | none =>
    have HRn := Lib.hid (hR.trans (Bd.read_none hL))
    rw [hL] at FD
    clear hR hL
    go_enter Tryd.func45, Tryd.ntmps45
    go_wp2_with fail
    refine calls_named ?_
    intro w1 hw1
    have hr1 : Row w1 w.heap.size 41 Bd.zero.cells := by rw [hw1]; exact Hr0.out
    have hb1 : Below w.heap.size w w1 := by rw [hw1]; exact Hb0.out
    clear hw1 Hr0 Hb0 hzv
    refine (FD.out w1).mono ?_
    rintro _ w2 ⟨⟨v, rfl⟩, hb2⟩
    have Hrz2 := Lib.hid (hr1.kept (grownBy_of_below hb2 none) (by simp))
    have Hb2 := Lib.hid (two_below' hb1 hb2)
    clear hr1 hb1 hb2
    go_wp2_with (first
      | (with_reducible show wpList _ _ _ (⟨_, .build 41 _, _, _, _, _⟩ :: _) _ _; refine wpList_buildL rfl 41 [] rfl (some 15) rfl _ rfl _ Bd.zero_built0 ?_)
      | (with_reducible show wpList _ _ _ (⟨_, .store 41 _ _, _, _, _, _⟩ :: _) _ _
         refine wpList_store_at rfl 41 (.tmp 2) (.tmp 15) rfl (w.heap.size) 0 Bd.zero.cells _ _ rfl rfl Hrz2.out (by have := HZL.out; omega) (by rw [bid_info, HZL.out]) HZ1.out ?_
         intro wZ hrZ hgZ
         rw [splice_all rfl] at hrZ
         have HrZ := Lib.hid hrZ
         have HbZ := Lib.hid (below_own Hb2.out hgZ (fun k hk => by cases hk; exact Nat.le_refl _))
         clear hrZ hgZ))
    refine bodyPost_ret (results_rowL rfl _ _ (w.heap.size) 41 _ _ rfl HrZ.out Tryd.underlying41 rfl (by rw [bid_info, List.size_toArray, HZL.out]) _ rfl) rfl ⟨?_, HbZ.out⟩
    rw [HRn.out]
    exact rfl
  | some l =>
    have HRe := Lib.hid (hR.trans (Bd.read_eq hL))
    have hlx := Tx.listAll_text hL
    have hlf := listAll_few hL
    rw [hL] at FD
    have Hlx := Lib.hid hlx
    clear hR hL hlx
    go_enter Tryd.func45, Tryd.ntmps45
    go_wp2_with fail
    refine calls_named ?_
    intro w1 hw1
    have hr1 : Row w1 w.heap.size 41 Bd.zero.cells := by rw [hw1]; exact Hr0.out
    have hb1 : Below w.heap.size w w1 := by rw [hw1]; exact Hb0.out
    clear hw1 Hr0 Hb0
    refine (FD.out w1).mono ?_
    rintro _ w2 ⟨⟨v, rfl, hT⟩, hb2⟩
    obtain ⟨A, c, rfl, hlc, hTx⟩ := hT
    have hrz2 := hr1.kept (grownBy_of_below hb2 none) (by simp)
    have Hb2 := Lib.hid (two_below' hb1 hb2)
    have Hrz2 := Lib.hid hrz2
    have hzg : w.heap.size < w2.heap.size := hrz2.lt
    have HTx := Lib.hid hTx
    clear hr1 hb1 hb2 hrz2 hTx
    obtain ⟨m, hm⟩ : ∃ m, m = l.length := ⟨_, rfl⟩
    rw [← hm] at hlf hlc ⊢
    have HM := Lib.hid hm
    clear hm
    go_wp2_with fail
    refine calls_named ?_
    intro w3 hw3
    obtain ⟨rp3, hb3, rg3⟩ := row_two w2 Bd.zero.cells.toArray (No.ptrs w2.heap.size 4).toArray 41 104
    have hx3 : w3 = (w2.alloc (.cells Bd.zero.cells.toArray 41)).alloc (.cells (No.ptrs w2.heap.size 4).toArray 104) := hw3
    have hp3 : Row w3 (w2.heap.size + 1) 104 (No.ptrs w2.heap.size 4) := by rw [hx3]; exact rp3
    have hg3 : Row w3 w2.heap.size 41 Bd.zero.cells := by rw [hx3]; exact rg3
    have hbb3 : Below w2.heap.size w2 w3 := by rw [hx3]; exact hb3
    have htx3 : Texts w3 w2.heap.size A l := fun hne => by
      obtain ⟨b, off, h1, h2, h3⟩ := HTx.out hne
      exact ⟨b, off, h1, h2, fun i hi => (grownBy_of_below hbb3 none).cell (h3 i hi) (by simp)⟩
    have Hrz3 := Lib.hid (Hrz2.out.kept (grownBy_of_below hbb3 none) (by simp))
    have Hb3 := Lib.hid (two_below' Hb2.out hbb3)
    have NR := noRead_any l A c 4 Bd.zero.cells 41 w3 w2.heap.size (w2.heap.size + 1) 4 Hlx.out (by rw [← HM.out]; omega) (by rw [← HM.out]; exact hlc) htx3 hg3 hp3 (by omega) (by rw [HZL.out]; omega) (by omega) (by omega)
    rw [← HM.out] at NR
    have HNR := Lib.hid NR
    have hz3 : w2.heap.size + 1 < w3.heap.size := hp3.lt
    clear rp3 hb3 rg3 hx3 hw3 hp3 hg3 hbb3 htx3 NR
    obtain ⟨g, hg⟩ : ∃ g, g = w2.heap.size := ⟨_, rfl⟩
    rw [← hg] at HNR hzg hz3
    simp only [← hg]
    clear hg HTx hzv
    refine HNR.out.mono ?_
    rintro _ w4 ⟨hN, hb4⟩
    have hg4 : g < w4.heap.size := by have := hb4.size; omega
    have Hrz4 := Lib.hid (no_row_below Hrz3.out hb4 hzg)
    have Hb4 := Lib.hid (Hb3.out.trans (hb4.mono (Nat.le_of_lt hzg)))
    clear hb4 HNR
    cases hF : No.nums 4 l with
    | none =>
      rw [hF] at hN
      obtain ⟨v, rfl⟩ := hN
      have hRn : R = none := by rw [HRe.out, hF]; rfl
      have HRn := Lib.hid hRn
      clear hRn hF
      go_wp2_with (first
        | (with_reducible show wpList _ _ _ (⟨_, .build 41 _, _, _, _, _⟩ :: _) _ _; refine wpList_buildL rfl 41 [] rfl (some 40) rfl _ rfl _ Bd.zero_built0 ?_)
        | (with_reducible show wpList _ _ _ (⟨_, .store 41 _ _, _, _, _, _⟩ :: _) _ _
           refine wpList_store_at rfl 41 (.tmp 2) (.tmp 40) rfl (w.heap.size) 0 Bd.zero.cells _ _ rfl rfl Hrz4.out (by have := HZL.out; omega) (by rw [bid_info, HZL.out]) HZ1.out ?_
           intro wZ hrZ hgZ
           rw [splice_all rfl] at hrZ
           have HrZ := Lib.hid hrZ
           have HbZ := Lib.hid (below_own Hb4.out hgZ (fun k hk => by cases hk; exact Nat.le_refl _))
           clear hrZ hgZ))
      refine bodyPost_ret (results_rowL rfl _ _ (w.heap.size) 41 _ _ rfl HrZ.out Tryd.underlying41 rfl (by rw [bid_info, List.size_toArray, HZL.out]) _ rfl) rfl ⟨?_, HbZ.out⟩
      rw [HRn.out]
      exact rfl
    | some ns =>
      rw [hF] at hN
      obtain ⟨A', c', rfl, hc', hT', hr4⟩ := hN
      obtain ⟨hn3, hml, hfit⟩ := nums_len hF
      obtain ⟨a, b, d, f, rfl⟩ := four_of hn3
      have hRe : R = Bd.of [a, b, d, f] (l.drop 4) := by rw [HRe.out, hF]; rfl
      have HRs := Lib.hid hRe
      have hpA : Row (w4.alloc (.cells (No.ptrsAt g [4]).toArray 106)) w4.heap.size 106 (No.ptrsAt g [4]) := Row.new w4 106 (No.ptrsAt g [4])
      have hgA := grownBy_alloc w4 (.cells (No.ptrsAt g [4]).toArray 106) none
      have htA : Texts (w4.alloc (.cells (No.ptrsAt g [4]).toArray 106)) g A' (l.drop 4) := fun hne => by
        obtain ⟨b, off, h1, h2, h3⟩ := hT' hne
        exact ⟨b, off, h1, h2, fun i hi => hgA.cell (h3 i hi) (by simp)⟩
      have NH := noHashes_any (l.drop 4) A' c' 1 [4] (Is [a, b, d, f] ++ Bd.zero.cells.drop 4) 41 _ g w4.heap.size 1 rfl (by rw [List.length_drop, ← HM.out]; omega) htA (hr4.kept hgA (by simp)) hpA hg4 (by intro o ho; simp at ho; subst ho; rw [List.length_append, List.length_drop, HZL.out]; simp [Is]) (by simp) (by simp)
      have hml2 : (l.drop 4).length = m - 4 := by rw [List.length_drop, ← HM.out]
      have hml3 : l.length - 4 = m - 4 := by rw [← HM.out]
      rw [hml2] at NH
      rw [hml3] at hc' ⊢
      have HNH := Lib.hid NH
      have HrzA := Lib.hid (Hrz4.out.kept hgA (by simp))
      have HbA := Lib.hid (below_own Hb4.out hgA (fun k hk => by cases hk))
      clear hr4 hRe hF hfit hn3 hT' hml hpA hgA htA NH hml3
      go_wp2_with fail
      refine HNH.out.mono ?_
      rintro _ w5 ⟨hH, hb5⟩
      have Hrz5 := Lib.hid (no_row_below HrzA.out hb5 hzg)
      have Hb5 := Lib.hid (HbA.out.trans (hb5.mono (Nat.le_of_lt hzg)))
      clear hb5 HNH
      rcases hH with ⟨⟨hm1, hAll⟩, rfl, hr5⟩ | ⟨hno, rfl⟩
      · obtain ⟨t, ht⟩ : ∃ t, l.drop 4 = [t] := List.length_eq_one_iff.1 (hml2.trans hm1)
        have ht32 : t.length = 32 := hAll t (by rw [ht]; simp)
        obtain ⟨u, hu⟩ : ∃ u : Bd, u = ⟨a, b, d, f, t⟩ := ⟨_, rfl⟩
        have hur : Row w5 g 41 u.cells := by
          rw [ht] at hr5
          have e : No.putH (Is [a, b, d, f] ++ Bd.zero.cells.drop 4) ([4].zip [t]) = u.cells := by rw [hu]; exact Bd.hashed a b d f t
          rw [e] at hr5
          exact hr5
        have hRo : R = if u.ok = true then some u else none := by rw [HRs.out, ht, Bd.of_yes ht32, hu]
        have hut : u.tag.length = 32 := by rw [hu]; exact ht32
        have MB := Lib.hid (fun W => bidMayBe_any u W)
        have HRo := Lib.hid hRo
        have HUL := Lib.hid (Bd.cells_len hut)
        have HU1 := Lib.hid (Bd.cells_one hut)
        have Hr5 := Lib.hid hur
        clear hr5 hur hRo hut hu ht32 ht hm1 hAll HRs hml2
        rcases Bool.eq_false_or_eq_true u.ok with hk | hk
        · rw [hk] at MB
          have hRs : R = some u := by rw [HRo.out, if_pos hk]
          have HRs := Lib.hid hRs
          clear hRs hk
          go_wp2_with (with_reducible show wpList _ _ _ (⟨_, .load 41 _, _, _, _, _⟩ :: _) _ _; refine wpList_load_tx rfl 41 (.tmp 6) rfl g 0 rfl u.cells _ (row_range Hr5.out) Tryd.underlying41 rfl (by rw [bid_info, HUL.out]) ?_)
          refine (MB.out _).mono ?_
          rintro _ w6 ⟨rfl, hb6⟩
          have hg6 := grownBy_of_below hb6 none
          have Hr6 := Lib.hid (Hr5.out.kept hg6 (by simp))
          have Hrz6 := Lib.hid (Hrz5.out.kept hg6 (by simp))
          have Hb6 := Lib.hid (below_own Hb5.out hg6 (fun k hk => by cases hk))
          clear hb6 hg6
          go_wp2_with (first
            | (with_reducible show wpList _ _ _ (⟨_, .load 41 _, _, _, _, _⟩ :: _) _ _; refine wpList_load_tx rfl 41 (.tmp 6) rfl g 0 rfl u.cells _ (row_range Hr6.out) Tryd.underlying41 rfl (by rw [bid_info, HUL.out]) ?_)
            | (with_reducible show wpList _ _ _ (⟨_, .store 41 _ _, _, _, _, _⟩ :: _) _ _
               refine wpList_store_at rfl 41 (.tmp 2) (.tmp 41) rfl (w.heap.size) 0 u.cells _ _ rfl rfl Hrz6.out (by have := HZL.out; have := HUL.out; omega) (by rw [bid_info, HUL.out]) HU1.out ?_
               intro wZ hrZ hgZ
               rw [splice_all (HUL.out.trans HZL.out.symm)] at hrZ
               have HrZ := Lib.hid hrZ
               have HbZ := Lib.hid (below_own Hb6.out hgZ (fun k hk => by cases hk; exact Nat.le_refl _))
               clear hrZ hgZ))
          refine bodyPost_ret (results_rowL rfl _ _ (w.heap.size) 41 _ _ rfl HrZ.out Tryd.underlying41 rfl (by rw [bid_info, List.size_toArray, HUL.out]) _ rfl) rfl ⟨?_, HbZ.out⟩
          rw [HRs.out]
          exact rfl
        · rw [hk] at MB
          have hRn : R = none := by rw [HRo.out, if_neg (by rw [hk]; simp)]
          have HRn := Lib.hid hRn
          clear hRn hk
          go_wp2_with (with_reducible show wpList _ _ _ (⟨_, .load 41 _, _, _, _, _⟩ :: _) _ _; refine wpList_load_tx rfl 41 (.tmp 6) rfl g 0 rfl u.cells _ (row_range Hr5.out) Tryd.underlying41 rfl (by rw [bid_info, HUL.out]) ?_)
          refine (MB.out _).mono ?_
          rintro _ w6 ⟨rfl, hb6⟩
          have hg6 := grownBy_of_below hb6 none
          have Hrz6 := Lib.hid (Hrz5.out.kept hg6 (by simp))
          have Hb6 := Lib.hid (below_own Hb5.out hg6 (fun k hk => by cases hk))
          clear hb6 hg6
          go_wp2_with (first
            | (with_reducible show wpList _ _ _ (⟨_, .build 41 _, _, _, _, _⟩ :: _) _ _; refine wpList_buildL rfl 41 [] rfl (some 40) rfl _ rfl _ Bd.zero_built0 ?_)
            | (with_reducible show wpList _ _ _ (⟨_, .store 41 _ _, _, _, _, _⟩ :: _) _ _
               refine wpList_store_at rfl 41 (.tmp 2) (.tmp 40) rfl (w.heap.size) 0 Bd.zero.cells _ _ rfl rfl Hrz6.out (by have := HZL.out; omega) (by rw [bid_info, HZL.out]) HZ1.out ?_
               intro wZ hrZ hgZ
               rw [splice_all rfl] at hrZ
               have HrZ := Lib.hid hrZ
               have HbZ := Lib.hid (below_own Hb6.out hgZ (fun k hk => by cases hk; exact Nat.le_refl _))
               clear hrZ hgZ))
          refine bodyPost_ret (results_rowL rfl _ _ (w.heap.size) 41 _ _ rfl HrZ.out Tryd.underlying41 rfl (by rw [bid_info, List.size_toArray, HZL.out]) _ rfl) rfl ⟨?_, HbZ.out⟩
          rw [HRn.out]
          exact rfl
      · have hRn : R = none := by rw [HRs.out, Bd.of_no (by rw [hml2]; exact hno)]
        have HRn := Lib.hid hRn
        clear hRn hno
        go_wp2_with (first
          | (with_reducible show wpList _ _ _ (⟨_, .build 41 _, _, _, _, _⟩ :: _) _ _; refine wpList_buildL rfl 41 [] rfl (some 40) rfl _ rfl _ Bd.zero_built0 ?_)
          | (with_reducible show wpList _ _ _ (⟨_, .store 41 _ _, _, _, _, _⟩ :: _) _ _
             refine wpList_store_at rfl 41 (.tmp 2) (.tmp 40) rfl (w.heap.size) 0 Bd.zero.cells _ _ rfl rfl Hrz5.out (by have := HZL.out; omega) (by rw [bid_info, HZL.out]) HZ1.out ?_
             intro wZ hrZ hgZ
             rw [splice_all rfl] at hrZ
             have HrZ := Lib.hid hrZ
             have HbZ := Lib.hid (below_own Hb5.out hgZ (fun k hk => by cases hk; exact Nat.le_refl _))
             clear hrZ hgZ))
        refine bodyPost_ret (results_rowL rfl _ _ (w.heap.size) 41 _ _ rfl HrZ.out Tryd.underlying41 rfl (by rw [bid_info, List.size_toArray, HZL.out]) _ rfl) rfl ⟨?_, HbZ.out⟩
        rw [HRn.out]
        exact rfl
end Go.Proofs.YtdekcicgiflnbaaDoor
