/- notes: bidMayBe, bidNumbers, WriteBid. -/
import Derived.Test.YtdekcicgiflnbaaDoorNoWrite
import Derived.Test.YtdekcicgiflnbaaDoorTxRow
namespace Go.Proofs.YtdekcicgiflnbaaDoor
open Go.RowKit
set_option linter.unusedVariables false
set_option linter.unusedSimpArgs false

theorem bid_info : (Tryd.prog.info? 41).map (·.size) = some 36 := by kernel_rfl
namespace Bd
theorem cells_len {b : Bd} (h : b.tag.length = 32) : b.cells.length = 36 := by
  unfold cells
  simp only [List.length_append, Tx.bRow_len _ h, List.length_cons, List.length_nil]
theorem cells_one {b : Bd} (h : b.tag.length = 32) : ∀ v ∈ b.cells, v.oneCell' = true := by
  intro v hv
  unfold cells at hv
  rcases List.mem_append.1 hv with h1 | h1
  · simp at h1
    rcases h1 with rfl | rfl | rfl | rfl <;> rfl
  · exact hash_one _ h v h1
theorem cells_tag (b : Bd) : b.cells.drop 4 = (bRow b.tag).toList := rfl
end Bd
theorem bid_tag {W : World} {g : Nat} {T : TypeId} {b : Bd} (h : Row W g T b.cells) : W.rangeAt g 4 (bRow b.tag).toList := by
  intro j v hv
  have e : b.cells[4 + j]? = some v := by rw [← hv, ← Bd.cells_tag b, List.getElem?_drop]
  obtain ⟨hlt, he⟩ := List.getElem?_eq_some_iff.1 e
  rw [h.cell _ hlt, he]
theorem bid_box {W : World} {g : Nat} {T : TypeId} {b : Bd} (h : Row W g T b.cells) : W.cell? ⟨g, 0, none⟩ = some (.int .i64 b.round) ∧ W.cell? ⟨g, 1, none⟩ = some (.int .i64 b.who) ∧ W.cell? ⟨g, 2, none⟩ = some (.int .i64 b.amount) ∧ W.cell? ⟨g, 3, none⟩ = some (.int .i64 b.salt) :=
  ⟨h.cell 0 (by simp [Bd.cells]), h.cell 1 (by simp [Bd.cells]), h.cell 2 (by simp [Bd.cells]), h.cell 3 (by simp [Bd.cells])⟩
set_option maxRecDepth 20000 in
theorem bidMayBe_0 (b : Bd) (w : World) (h0 : Tx.acct b.who = false) :
    Calls Tryd.prog 72 #[.agg b.cells.toArray] w fun e w' => e = .returned (.bool false) ∧ Below w.heap.size w w' := by
  obtain ⟨c0, c1, c2, c3⟩ := bid_box (Row.new w 41 b.cells)
  have N0 : Hid (∀ W, Calls Tryd.prog 111 #[.int .i64 b.who] W fun e w' => e = .returned (.bool false) ∧ W = w') := fun W => by have := naccount_any (b.who) W; rw [h0] at this; exact this
  generalize b.cells = C at *
  clear h0
  go_enter Tryd.func72, Tryd.ntmps72
  go_wp2_with fail
  refine (N0.out _).mono ?_
  rintro _ w1 ⟨rfl, rfl⟩
  go_wp2_with fail
  go_ret
  exact ⟨rfl, (Below.refl w.heap.size w).alloc (Nat.le_refl _) _⟩
set_option maxRecDepth 20000 in
theorem bidMayBe_1 (b : Bd) (w : World) (h0 : Tx.acct b.who = true) (h1 : Tx.num b.round = false) :
    Calls Tryd.prog 72 #[.agg b.cells.toArray] w fun e w' => e = .returned (.bool false) ∧ Below w.heap.size w w' := by
  obtain ⟨c0, c1, c2, c3⟩ := bid_box (Row.new w 41 b.cells)
  have N0 : Hid (∀ W, Calls Tryd.prog 111 #[.int .i64 b.who] W fun e w' => e = .returned (.bool true) ∧ W = w') := fun W => by have := naccount_any (b.who) W; rw [h0] at this; exact this
  have N1 : Hid (∀ W, Calls Tryd.prog 112 #[.int .i64 b.round] W fun e w' => e = .returned (.bool false) ∧ W = w') := fun W => by have := nnumber_any (b.round) W; rw [h1] at this; exact this
  generalize b.cells = C at *
  clear h0 h1
  go_enter Tryd.func72, Tryd.ntmps72
  go_wp2_with fail
  refine (N0.out _).mono ?_
  rintro _ w1 ⟨rfl, rfl⟩
  go_wp2_with fail
  refine (N1.out _).mono ?_
  rintro _ w1 ⟨rfl, rfl⟩
  go_wp2_with fail
  go_ret
  exact ⟨rfl, (Below.refl w.heap.size w).alloc (Nat.le_refl _) _⟩
set_option maxRecDepth 20000 in
theorem bidMayBe_2 (b : Bd) (w : World) (h0 : Tx.acct b.who = true) (h1 : Tx.num b.round = true) (h2 : Tx.num b.amount = false) :
    Calls Tryd.prog 72 #[.agg b.cells.toArray] w fun e w' => e = .returned (.bool false) ∧ Below w.heap.size w w' := by
  obtain ⟨c0, c1, c2, c3⟩ := bid_box (Row.new w 41 b.cells)
  have N0 : Hid (∀ W, Calls Tryd.prog 111 #[.int .i64 b.who] W fun e w' => e = .returned (.bool true) ∧ W = w') := fun W => by have := naccount_any (b.who) W; rw [h0] at this; exact this
  have N1 : Hid (∀ W, Calls Tryd.prog 112 #[.int .i64 b.round] W fun e w' => e = .returned (.bool true) ∧ W = w') := fun W => by have := nnumber_any (b.round) W; rw [h1] at this; exact this
  have N2 : Hid (∀ W, Calls Tryd.prog 112 #[.int .i64 b.amount] W fun e w' => e = .returned (.bool false) ∧ W = w') := fun W => by have := nnumber_any (b.amount) W; rw [h2] at this; exact this
  generalize b.cells = C at *
  clear h0 h1 h2
  go_enter Tryd.func72, Tryd.ntmps72
  go_wp2_with fail
  refine (N0.out _).mono ?_
  rintro _ w1 ⟨rfl, rfl⟩
  go_wp2_with fail
  refine (N1.out _).mono ?_
  rintro _ w1 ⟨rfl, rfl⟩
  go_wp2_with fail
  refine (N2.out _).mono ?_
  rintro _ w1 ⟨rfl, rfl⟩
  go_wp2_with fail
  go_ret
  exact ⟨rfl, (Below.refl w.heap.size w).alloc (Nat.le_refl _) _⟩
set_option maxRecDepth 20000 in
theorem bidMayBe_3 (b : Bd) (w : World) (h0 : Tx.acct b.who = true) (h1 : Tx.num b.round = true) (h2 : Tx.num b.amount = true) (h3 : Tx.num b.salt = false) :
    Calls Tryd.prog 72 #[.agg b.cells.toArray] w fun e w' => e = .returned (.bool false) ∧ Below w.heap.size w w' := by
  obtain ⟨c0, c1, c2, c3⟩ := bid_box (Row.new w 41 b.cells)
  have N0 : Hid (∀ W, Calls Tryd.prog 111 #[.int .i64 b.who] W fun e w' => e = .returned (.bool true) ∧ W = w') := fun W => by have := naccount_any (b.who) W; rw [h0] at this; exact this
  have N1 : Hid (∀ W, Calls Tryd.prog 112 #[.int .i64 b.round] W fun e w' => e = .returned (.bool true) ∧ W = w') := fun W => by have := nnumber_any (b.round) W; rw [h1] at this; exact this
  have N2 : Hid (∀ W, Calls Tryd.prog 112 #[.int .i64 b.amount] W fun e w' => e = .returned (.bool true) ∧ W = w') := fun W => by have := nnumber_any (b.amount) W; rw [h2] at this; exact this
  have N3 : Hid (∀ W, Calls Tryd.prog 112 #[.int .i64 b.salt] W fun e w' => e = .returned (.bool false) ∧ W = w') := fun W => by have := nnumber_any (b.salt) W; rw [h3] at this; exact this
  generalize b.cells = C at *
  clear h0 h1 h2 h3
  go_enter Tryd.func72, Tryd.ntmps72
  go_wp2_with fail
  refine (N0.out _).mono ?_
  rintro _ w1 ⟨rfl, rfl⟩
  go_wp2_with fail
  refine (N1.out _).mono ?_
  rintro _ w1 ⟨rfl, rfl⟩
  go_wp2_with fail
  refine (N2.out _).mono ?_
  rintro _ w1 ⟨rfl, rfl⟩
  go_wp2_with fail
  refine (N3.out _).mono ?_
  rintro _ w1 ⟨rfl, rfl⟩
  go_wp2_with fail
  go_ret
  exact ⟨rfl, (Below.refl w.heap.size w).alloc (Nat.le_refl _) _⟩
set_option maxRecDepth 20000 in
theorem bidMayBe_4 (b : Bd) (w : World) (h0 : Tx.acct b.who = true) (h1 : Tx.num b.round = true) (h2 : Tx.num b.amount = true) (h3 : Tx.num b.salt = true) :
    Calls Tryd.prog 72 #[.agg b.cells.toArray] w fun e w' => e = .returned (.bool true) ∧ Below w.heap.size w w' := by
  obtain ⟨c0, c1, c2, c3⟩ := bid_box (Row.new w 41 b.cells)
  have N0 : Hid (∀ W, Calls Tryd.prog 111 #[.int .i64 b.who] W fun e w' => e = .returned (.bool true) ∧ W = w') := fun W => by have := naccount_any (b.who) W; rw [h0] at this; exact this
  have N1 : Hid (∀ W, Calls Tryd.prog 112 #[.int .i64 b.round] W fun e w' => e = .returned (.bool true) ∧ W = w') := fun W => by have := nnumber_any (b.round) W; rw [h1] at this; exact this
  have N2 : Hid (∀ W, Calls Tryd.prog 112 #[.int .i64 b.amount] W fun e w' => e = .returned (.bool true) ∧ W = w') := fun W => by have := nnumber_any (b.amount) W; rw [h2] at this; exact this
  have N3 : Hid (∀ W, Calls Tryd.prog 112 #[.int .i64 b.salt] W fun e w' => e = .returned (.bool true) ∧ W = w') := fun W => by have := nnumber_any (b.salt) W; rw [h3] at this; exact this
  generalize b.cells = C at *
  clear h0 h1 h2 h3
  go_enter Tryd.func72, Tryd.ntmps72
  go_wp2_with fail
  refine (N0.out _).mono ?_
  rintro _ w1 ⟨rfl, rfl⟩
  go_wp2_with fail
  refine (N1.out _).mono ?_
  rintro _ w1 ⟨rfl, rfl⟩
  go_wp2_with fail
  refine (N2.out _).mono ?_
  rintro _ w1 ⟨rfl, rfl⟩
  go_wp2_with fail
  refine (N3.out _).mono ?_
  rintro _ w1 ⟨rfl, rfl⟩
  go_wp2_with fail
  go_ret
  exact ⟨rfl, (Below.refl w.heap.size w).alloc (Nat.le_refl _) _⟩
theorem bidMayBe_any (b : Bd) (w : World) :
    Calls Tryd.prog 72 #[.agg b.cells.toArray] w fun e w' => e = .returned (.bool b.ok) ∧ Below w.heap.size w w' := by
  unfold Bd.ok
  rcases Bool.eq_false_or_eq_true (Tx.acct b.who) with h0 | h0
  · rcases Bool.eq_false_or_eq_true (Tx.num b.round) with h1 | h1
    · rcases Bool.eq_false_or_eq_true (Tx.num b.amount) with h2 | h2
      · rcases Bool.eq_false_or_eq_true (Tx.num b.salt) with h3 | h3
        · rw [h0, h1, h2, h3]; exact bidMayBe_4 b w h0 h1 h2 h3
        · rw [h0, h1, h2, h3]; exact bidMayBe_3 b w h0 h1 h2 h3
      · rw [h0, h1, h2]; exact bidMayBe_2 b w h0 h1 h2
    · rw [h0, h1]; exact bidMayBe_1 b w h0 h1
  · rw [h0]; exact bidMayBe_0 b w h0
set_option maxRecDepth 20000 in
theorem bidNumbers_any (b : Bd) (w : World) (hk : b.ok = true) :
    Calls Tryd.prog 73 #[.agg b.cells.toArray] w fun e w' => ∃ v, e = .returned v ∧ w'.ownsRow w.heap.size 9 1 v 4 ((b.numsL.map fun x => Oct.num x.toNat).map S) ∧ Below w.heap.size w w' := by
  obtain ⟨c0, c1, c2, c3⟩ := bid_box (Row.new w 41 b.cells)
  have hB := Bd.ok_nums hk
  have NB : Hid (∀ (W : World) (nb : Nat), Row W nb 3 (Is b.numsL) → Calls Tryd.prog 83 #[.slice (some ⟨nb, 0, none⟩) 4 4] W fun e w' => ∃ v, e = .returned v ∧ w'.ownsRow W.heap.size 9 1 v 4 ((b.numsL.map fun x => Oct.num x.toNat).map S) ∧ Below W.heap.size W w') := fun W nb hN =>
    numbers_any b.numsL 4 hB W nb hN (by simp [Bd.numsL])
  have hnl : Is b.numsL = [.int .i64 b.round, .int .i64 b.who, .int .i64 b.amount, .int .i64 b.salt] := rfl
  generalize (b.numsL.map fun x => Oct.num x.toNat).map S = TS at *
  generalize b.numsL = NL at *
  generalize b.cells = C at *
  have Hnl := Lib.hid hnl
  clear hB hnl hk
  go_enter Tryd.func73, Tryd.ntmps73
  go_wp2_with fail
  refine calls_named ?_
  intro w1 hw1
  obtain ⟨r1, b1, r0⟩ := row_two w C.toArray #[Value.int .i64 b.round, .int .i64 b.who, .int .i64 b.amount, .int .i64 b.salt] 41 3
  have hr1 : Row w1 (w.heap.size + 1) 3 (Is NL) := by rw [hw1, Hnl.out]; exact r1
  have hb1 : Below w.heap.size w w1 := by rw [hw1]; exact b1
  clear hw1 r1 b1 r0
  refine (NB.out w1 _ hr1).mono ?_
  rintro _ w2 ⟨v, rfl, hown, hb2⟩
  have Hown := Lib.hid (hown.mono hb1.size)
  have Hb2 := Lib.hid (two_below' hb1 hb2)
  clear hown hb2 hb1 hr1
  go_wp2_with fail
  go_ret
  exact ⟨v, rfl, Hown.out, Hb2.out⟩
set_option maxRecDepth 20000 in
theorem writeBid_no (b : Bd) (w : World) (ht : b.tag.length = 32) (h : b.ok = false) :
    Calls Tryd.prog 30 #[.agg b.cells.toArray] w fun e w' => e = .returned (.tuple #[S [], .int .i64 2]) ∧ Below w.heap.size w w' := by
  have MB : Hid (∀ W, Calls Tryd.prog 72 #[.agg b.cells.toArray] W fun e w' => e = .returned (.bool false) ∧ Below W.heap.size W w') := fun W => by have := bidMayBe_any b W; rw [h] at this; exact this
  have HL := Lib.hid (Bd.cells_len ht)
  have Hrow0 := Lib.hid (Row.new w 41 b.cells)
  generalize b.cells = C at *
  clear h
  go_enter Tryd.func30, Tryd.ntmps30
  go_wp2_with (with_reducible show wpList _ _ _ (⟨_, .load 41 _, _, _, _, _⟩ :: _) _ _; refine wpList_load_tx rfl 41 (.tmp 1) rfl w.heap.size 0 rfl C _ (row_range Hrow0.out) Tryd.underlying41 rfl (by rw [bid_info, HL.out]) ?_)
  refine (MB.out _).mono ?_
  rintro _ w1 ⟨rfl, hb1⟩
  have Hb1 := Lib.hid (tx_below (grownBy_of_below hb1 none))
  clear hb1
  go_wp2_with fail
  go_ret2
  exact ⟨rfl, Hb1.out⟩
set_option maxRecDepth 20000 in
set_option maxHeartbeats 1600000 in
theorem writeBid_ok (b : Bd) (w : World) (ht : b.tag.length = 32) (h : b.ok = true) :
    Calls Tryd.prog 30 #[.agg b.cells.toArray] w fun e w' => e = .returned (.tuple #[S (Oct.listE b.fields).1, .int .i64 (Oct.listE b.fields).2]) ∧ Below w.heap.size w w' := by
  obtain ⟨i0, hi, hz, hs, hby⟩ := str5
  have Hi := Lib.hid hi
  have Hz := Lib.hid hz
  have Hs := Lib.hid hs
  have Hby := Lib.hid hby
  have MB : Hid (∀ W, Calls Tryd.prog 72 #[.agg b.cells.toArray] W fun e w' => e = .returned (.bool true) ∧ Below W.heap.size W w') := fun W => by have := bidMayBe_any b W; rw [h] at this; exact this
  have BN := Lib.hid (fun W => bidNumbers_any b W h)
  have HL := Lib.hid (Bd.cells_len ht)
  have Hrow0 := Lib.hid (Row.new w 41 b.cells)
  have HT := Lib.hid ht
  have BT : Hid (∀ (W : World) (g : Nat) (T : TypeId), Row W g T b.cells → W.rangeAt g 4 (bRow b.tag).toList) := fun W g T h => bid_tag h
  have hff : (b.numsL.map fun x => Oct.num x.toNat).map S ++ [S b.tag] = b.fields.map S := by unfold Bd.fields; rw [List.map_append]; rfl
  have Hff := Lib.hid hff
  have Hfl : Hid (4 + 1 = b.fields.length) := (rfl : 4 + 1 = b.fields.length)
  generalize (b.numsL.map fun x => Oct.num x.toNat).map S = NS at *
  generalize b.fields = L at *
  generalize b.cells = C at *
  clear hi hz hs hby h hff ht
  have hu := Tryd.underlying41
  have hi41 : (Tryd.prog.info? 41).map (·.size) = some C.length := by rw [bid_info, HL.out]
  go_enter Tryd.func30, Tryd.ntmps30
  go_wp2_with (with_reducible show wpList _ _ _ (⟨_, .load 41 _, _, _, _, _⟩ :: _) _ _; refine wpList_load_tx rfl 41 (.tmp 1) rfl w.heap.size 0 rfl C _ (row_range Hrow0.out) Tryd.underlying41 rfl (by rw [bid_info, HL.out]) ?_)
  refine (MB.out _).mono ?_
  rintro _ w1 ⟨rfl, hb1⟩
  have HS0 := Lib.hid ((rowIn_call hb1).drew)
  clear hb1
  go_wp2_with fail
  refine wp_region_noPanic ?_
  refine wp_region_held_drew (S := fun w' => RowIn w w' w.heap.size 41 C) (by kernel_rfl) (HS0.out) (fun hHeld => ?_)
  generalize w1.drew = w9 at *
  refine' wpAnyH_take (i := 0) (v := _) rfl (by kernel_rfl) (by kernel_rfl) (by kernel_rfl) (fun _ _ _ h => h) (yieldsIf_load_mid (by rfl) _ _ rfl w.heap.size 0 rfl C _ (fun w' hSw => (row_range hSw.1)) hu rfl hi41) hHeld ?_
  try simp only [Act.put, List.getElem_toArray, List.getElem_cons_succ, List.getElem_cons_zero, List.setIfInBounds_toArray, List.set_cons_zero, List.set_cons_succ]
  refine wpAnyH_take (i := 2) (v := .pointer (some ⟨w.heap.size, 4, none⟩)) rfl (by kernel_rfl) (by kernel_rfl) (by kernel_rfl) (fun _ _ _ h => h) (Or.inl ⟨by rfl, fun w' hSw => by go_simp⟩) hHeld ?_
  try simp only [Act.put, List.getElem_toArray, List.getElem_cons_succ, List.getElem_cons_zero, List.setIfInBounds_toArray, List.set_cons_zero, List.set_cons_succ]
  refine wpAnyH_take (i := 3) (v := .slice (some ⟨w.heap.size, 4, none⟩) 32 32) rfl (by kernel_rfl) (by kernel_rfl) (by kernel_rfl) (fun _ _ _ h => h) (Or.inl ⟨by rfl, fun w' hSw => by go_simp⟩) hHeld ?_
  try simp only [Act.put, List.getElem_toArray, List.getElem_cons_succ, List.getElem_cons_zero, List.setIfInBounds_toArray, List.set_cons_zero, List.set_cons_succ]
  refine wpAnyH_take (i := 4) (v := S b.tag) rfl (by kernel_rfl) (by kernel_rfl) (by kernel_rfl) (fun _ _ _ h => h) (Or.inl ⟨by rfl, fun w' hSw => by have hq := hSw; have hc := hash_str4 w' w.heap.size 4 b.tag HT.out (BT.out w' _ _ hq.1); go_simp⟩) hHeld ?_
  try simp only [Act.put, List.getElem_toArray, List.getElem_cons_succ, List.getElem_cons_zero, List.setIfInBounds_toArray, List.set_cons_zero, List.set_cons_succ]
  refine wpAnyH_ready (rs := [1, 5]) (by kernel_rfl) (by simp) (AllReadyH.cons rfl (fun K1 hK1 => ?_) (AllReadyH.cons rfl (fun K1 hK1 => ?_) AllReadyH.nil))
  · skip
    try simp only [Act.put, List.getElem_toArray, List.getElem_cons_succ, List.getElem_cons_zero, List.setIfInBounds_toArray, List.set_cons_zero, List.set_cons_succ]
    go_simp
    refine Calls.mono (BN.out _) ?_
    rintro e wn1 ⟨vN, rfl, hown, hn2⟩
    have hown := hown.mono hHeld.size
    refine hK1.out _ _ (hHeld.step hn2) (fun hHeld => ?_)
    clear hK1 K1
    try simp only [Act.put, List.getElem_toArray, List.getElem_cons_succ, List.getElem_cons_zero, List.setIfInBounds_toArray, List.set_cons_zero, List.set_cons_succ]
    refine wpAnyH_ready (rs := [5]) (by kernel_rfl) (by simp) (AllReadyH.cons rfl (fun K1 hK1 => ?_) AllReadyH.nil)
    try simp only [Act.put, List.getElem_toArray, List.getElem_cons_succ, List.getElem_cons_zero, List.setIfInBounds_toArray, List.set_cons_zero, List.set_cons_succ]
    go_simp
    have hd4 := (Below.refl wn1.heap.size wn1).alloc (Nat.le_refl _) (.cells #[S b.tag] 9)
    have r2 : Row (wn1.alloc (.cells #[S b.tag] 9)) wn1.heap.size 9 ([S b.tag]) := Row.new wn1 9 ([S b.tag])
    have hown := own_below hown hd4
    have hHeld2 := hHeld.step hd4
    generalize wn1.alloc (.cells #[S b.tag] 9) = wb3 at *
    obtain ⟨gb5, gb5e⟩ : ∃ gb5, gb5 = wn1.heap.size := ⟨_, rfl⟩
    rw [← gb5e] at r2 ⊢
    refine hK1.out _ _ (hHeld2) (fun hHeld => ?_)
    clear hK1 K1
    try simp only [Act.put, List.getElem_toArray, List.getElem_cons_succ, List.getElem_cons_zero, List.setIfInBounds_toArray, List.set_cons_zero, List.set_cons_succ]
    clear hHeld2 gb5e
    refine wpAnyH_ready (rs := [6]) (by kernel_rfl) (by simp) (AllReadyH.cons rfl (fun K1 hK1 => ?_) AllReadyH.nil)
    try simp only [Act.put, List.getElem_toArray, List.getElem_cons_succ, List.getElem_cons_zero, List.setIfInBounds_toArray, List.set_cons_zero, List.set_cons_succ]
    rw [if_pos (by rfl)]
    refine wp_append_own_wide wb3 _ _ 73 rfl w.heap.size 9 i0 (.string ByteArray.empty) 1 16 Tryd.underlying73 Hi.out Hz.out Hs.out Hby.out rfl (by decide) vN 4 NS rfl hown ⟨gb5, 0, none⟩ 1 1 [S b.tag] rfl rfl (row_news r2) (by intro u hu; simp at hu; first | (subst hu; rfl) | (rcases hu with rfl | rfl <;> rfl)) (by unfold maxLen; omega) (by omega) hHeld.size fun vP wp6 hownP hgrow _ => ?_
    have hHeld2 := own_keeps hHeld (by decide) hown (Nat.le_refl _) hgrow
    clear hown r2 hgrow
    refine hK1.out _ _ (hHeld2) (fun hHeld => ?_)
    clear hK1 K1
    try simp only [Act.put, List.getElem_toArray, List.getElem_cons_succ, List.getElem_cons_zero, List.setIfInBounds_toArray, List.set_cons_zero, List.set_cons_succ]
    refine wpAnyH_ready (rs := [7]) (by kernel_rfl) (by simp) (AllReadyH.cons rfl (fun K1 hK1 => ?_) AllReadyH.nil)
    try simp only [Act.put, List.getElem_toArray, List.getElem_cons_succ, List.getElem_cons_zero, List.setIfInBounds_toArray, List.set_cons_zero, List.set_cons_succ]
    go_simp
    refine Calls.mono (list_owned L Hff.out hownP Hfl.out) ?_
    rintro e wl7 ⟨rfl, hl8⟩
    refine hK1.out _ _ (hHeld.step hl8) (fun hHeld => ?_)
    clear hK1 K1
    try simp only [Act.put, List.getElem_toArray, List.getElem_cons_succ, List.getElem_cons_zero, List.setIfInBounds_toArray, List.set_cons_zero, List.set_cons_succ]
    refine wpAnyH_take (i := 8) (v := S (Oct.listE L).1) rfl (by kernel_rfl) (by kernel_rfl) (by kernel_rfl) (fun _ _ _ h => h) (Or.inl ⟨by rfl, fun w' hSw => by go_simp⟩) hHeld ?_
    try simp only [Act.put, List.getElem_toArray, List.getElem_cons_succ, List.getElem_cons_zero, List.setIfInBounds_toArray, List.set_cons_zero, List.set_cons_succ]
    refine wpAnyH_take (i := 9) (v := .int .i64 (Oct.listE L).2) rfl (by kernel_rfl) (by kernel_rfl) (by kernel_rfl) (fun _ _ _ h => h) (Or.inl ⟨by rfl, fun w' hSw => by go_simp⟩) hHeld ?_
    try simp only [Act.put, List.getElem_toArray, List.getElem_cons_succ, List.getElem_cons_zero, List.setIfInBounds_toArray, List.set_cons_zero, List.set_cons_succ]
    refine wpAnyH_take (i := 10) (v := S (Oct.listE L).1) rfl (by kernel_rfl) (by kernel_rfl) (by kernel_rfl) (fun _ _ _ h => h) (Or.inl ⟨by rfl, fun w' hSw => by go_simp⟩) hHeld ?_
    try simp only [Act.put, List.getElem_toArray, List.getElem_cons_succ, List.getElem_cons_zero, List.setIfInBounds_toArray, List.set_cons_zero, List.set_cons_succ]
    refine wpAnyH_take (i := 11) (v := .int .i64 (Oct.listE L).2) rfl (by kernel_rfl) (by kernel_rfl) (by kernel_rfl) (fun _ _ _ h => h) (Or.inl ⟨by rfl, fun w' hSw => by go_simp⟩) hHeld ?_
    try simp only [Act.put, List.getElem_toArray, List.getElem_cons_succ, List.getElem_cons_zero, List.setIfInBounds_toArray, List.set_cons_zero, List.set_cons_succ]
    refine wpAnyH_done (by kernel_rfl) ?_ _
    refine NoPanic.normal ?_
    have Hbe := Lib.hid hHeld.2
    clear hHeld hu hi41
    go_wp2_with fail
    go_ret2
    exact ⟨rfl, Hbe.out⟩
  · skip
    try simp only [Act.put, List.getElem_toArray, List.getElem_cons_succ, List.getElem_cons_zero, List.setIfInBounds_toArray, List.set_cons_zero, List.set_cons_succ]
    go_simp
    have hd10 := (Below.refl w9.heap.size w9).alloc (Nat.le_refl _) (.cells #[S b.tag] 9)
    have r2 : Row (w9.alloc (.cells #[S b.tag] 9)) w9.heap.size 9 ([S b.tag]) := Row.new w9 9 ([S b.tag])
    have hHeld2 := hHeld.step hd10
    generalize w9.alloc (.cells #[S b.tag] 9) = wb9 at *
    obtain ⟨gb11, gb11e⟩ : ∃ gb11, gb11 = w9.heap.size := ⟨_, rfl⟩
    rw [← gb11e] at r2 ⊢
    refine hK1.out _ _ (hHeld2) (fun hHeld => ?_)
    clear hK1 K1
    try simp only [Act.put, List.getElem_toArray, List.getElem_cons_succ, List.getElem_cons_zero, List.setIfInBounds_toArray, List.set_cons_zero, List.set_cons_succ]
    clear hHeld2 gb11e
    refine wpAnyH_ready (rs := [1]) (by kernel_rfl) (by simp) (AllReadyH.cons rfl (fun K1 hK1 => ?_) AllReadyH.nil)
    try simp only [Act.put, List.getElem_toArray, List.getElem_cons_succ, List.getElem_cons_zero, List.setIfInBounds_toArray, List.set_cons_zero, List.set_cons_succ]
    go_simp
    refine Calls.mono (BN.out _) ?_
    rintro e wn12 ⟨vN, rfl, hown, hn13⟩
    have hown := hown.mono hHeld.size
    have r2 := r2.kept (grownBy_of_below hn13 none) (by simp)
    refine hK1.out _ _ (hHeld.step hn13) (fun hHeld => ?_)
    clear hK1 K1
    try simp only [Act.put, List.getElem_toArray, List.getElem_cons_succ, List.getElem_cons_zero, List.setIfInBounds_toArray, List.set_cons_zero, List.set_cons_succ]
    refine wpAnyH_ready (rs := [6]) (by kernel_rfl) (by simp) (AllReadyH.cons rfl (fun K1 hK1 => ?_) AllReadyH.nil)
    try simp only [Act.put, List.getElem_toArray, List.getElem_cons_succ, List.getElem_cons_zero, List.setIfInBounds_toArray, List.set_cons_zero, List.set_cons_succ]
    rw [if_pos (by rfl)]
    refine wp_append_own_wide wn12 _ _ 73 rfl w.heap.size 9 i0 (.string ByteArray.empty) 1 16 Tryd.underlying73 Hi.out Hz.out Hs.out Hby.out rfl (by decide) vN 4 NS rfl hown ⟨gb11, 0, none⟩ 1 1 [S b.tag] rfl rfl (row_news r2) (by intro u hu; simp at hu; first | (subst hu; rfl) | (rcases hu with rfl | rfl <;> rfl)) (by unfold maxLen; omega) (by omega) hHeld.size fun vP wp14 hownP hgrow _ => ?_
    have hHeld2 := own_keeps hHeld (by decide) hown (Nat.le_refl _) hgrow
    clear hown r2 hgrow
    refine hK1.out _ _ (hHeld2) (fun hHeld => ?_)
    clear hK1 K1
    try simp only [Act.put, List.getElem_toArray, List.getElem_cons_succ, List.getElem_cons_zero, List.setIfInBounds_toArray, List.set_cons_zero, List.set_cons_succ]
    refine wpAnyH_ready (rs := [7]) (by kernel_rfl) (by simp) (AllReadyH.cons rfl (fun K1 hK1 => ?_) AllReadyH.nil)
    try simp only [Act.put, List.getElem_toArray, List.getElem_cons_succ, List.getElem_cons_zero, List.setIfInBounds_toArray, List.set_cons_zero, List.set_cons_succ]
    go_simp
    refine Calls.mono (list_owned L Hff.out hownP Hfl.out) ?_
    rintro e wl15 ⟨rfl, hl16⟩
    refine hK1.out _ _ (hHeld.step hl16) (fun hHeld => ?_)
    clear hK1 K1
    try simp only [Act.put, List.getElem_toArray, List.getElem_cons_succ, List.getElem_cons_zero, List.setIfInBounds_toArray, List.set_cons_zero, List.set_cons_succ]
    refine wpAnyH_take (i := 8) (v := S (Oct.listE L).1) rfl (by kernel_rfl) (by kernel_rfl) (by kernel_rfl) (fun _ _ _ h => h) (Or.inl ⟨by rfl, fun w' hSw => by go_simp⟩) hHeld ?_
    try simp only [Act.put, List.getElem_toArray, List.getElem_cons_succ, List.getElem_cons_zero, List.setIfInBounds_toArray, List.set_cons_zero, List.set_cons_succ]
    refine wpAnyH_take (i := 9) (v := .int .i64 (Oct.listE L).2) rfl (by kernel_rfl) (by kernel_rfl) (by kernel_rfl) (fun _ _ _ h => h) (Or.inl ⟨by rfl, fun w' hSw => by go_simp⟩) hHeld ?_
    try simp only [Act.put, List.getElem_toArray, List.getElem_cons_succ, List.getElem_cons_zero, List.setIfInBounds_toArray, List.set_cons_zero, List.set_cons_succ]
    refine wpAnyH_take (i := 10) (v := S (Oct.listE L).1) rfl (by kernel_rfl) (by kernel_rfl) (by kernel_rfl) (fun _ _ _ h => h) (Or.inl ⟨by rfl, fun w' hSw => by go_simp⟩) hHeld ?_
    try simp only [Act.put, List.getElem_toArray, List.getElem_cons_succ, List.getElem_cons_zero, List.setIfInBounds_toArray, List.set_cons_zero, List.set_cons_succ]
    refine wpAnyH_take (i := 11) (v := .int .i64 (Oct.listE L).2) rfl (by kernel_rfl) (by kernel_rfl) (by kernel_rfl) (fun _ _ _ h => h) (Or.inl ⟨by rfl, fun w' hSw => by go_simp⟩) hHeld ?_
    try simp only [Act.put, List.getElem_toArray, List.getElem_cons_succ, List.getElem_cons_zero, List.setIfInBounds_toArray, List.set_cons_zero, List.set_cons_succ]
    refine wpAnyH_done (by kernel_rfl) ?_ _
    refine NoPanic.normal ?_
    have Hbe := Lib.hid hHeld.2
    clear hHeld hu hi41
    go_wp2_with fail
    go_ret2
    exact ⟨rfl, Hbe.out⟩
theorem writeBid_any (b : Bd) (ht : b.tag.length = 32) (w : World) :
    Calls Tryd.prog 30 #[b.v] w fun e w' => e = .returned (two b.textE.1 b.textE.2) ∧ Below w.heap.size w w' := by
  unfold Bd.textE
  rcases Bool.eq_false_or_eq_true b.ok with h | h
  · rw [if_pos h]; exact writeBid_ok b w ht h
  · rw [if_neg (by rw [h]; simp)]; exact writeBid_no b w ht h
end Go.Proofs.YtdekcicgiflnbaaDoor
