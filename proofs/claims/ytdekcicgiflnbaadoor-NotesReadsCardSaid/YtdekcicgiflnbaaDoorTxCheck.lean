/- tx.Check and the reference's Check. -/
import Derived.Test.YtdekcicgiflnbaaDoorTxNum
import Derived.Test.YtdekcicgiflnbaaDoorMSeal
namespace Go.Proofs.YtdekcicgiflnbaaDoor
open Go.RowKit
set_option linter.unusedVariables false
set_option linter.unusedSimpArgs false

theorem tx_box {W : World} {g : Nat} {T : TypeId} {t : Tx} (ht : t.Ok) (h : Row W g T t.cells) :
    W.cell? ⟨g, 0, none⟩ = some (.int .i64 t.frm) ∧ W.cell? ⟨g, 1, none⟩ = some (.int .i64 t.nonce) ∧ W.cell? ⟨g, 2, none⟩ = some (.int .i64 t.fee) ∧ W.cell? ⟨g, 3, none⟩ = some (.int .i64 t.to) ∧
    W.cell? ⟨g, 4, none⟩ = some (.string t.data) ∧ W.cell? ⟨g, 5, none⟩ = some (.bool t.lane) ∧ W.cell? ⟨g, 6, none⟩ = some (.int .i64 t.round) ∧ W.cell? ⟨g, 7, none⟩ = some (.int .i64 t.turn) := by
  have hl := Tx.cells_length ht
  exact ⟨h.cell 0 (by omega), h.cell 1 (by omega), h.cell 2 (by omega), h.cell 3 (by omega), h.cell 4 (by omega), h.cell 5 (by omega), h.cell 6 (by omega), h.cell 7 (by omega)⟩
theorem tx_below {w w1 : World} {o : Obj} (h : (w.alloc o).grownBy w1 none) : Below w.heap.size w w1 := ((Below.refl w.heap.size w).alloc (Nat.le_refl _) o).grown h (by simp) (fun k hk => by cases hk)

theorem Tx.err_c20a {t : Tx} (h1 : Tx.acct t.frm = false) : t.err = 20 := by
  unfold Tx.err
  rw [if_pos (.inl h1)]
theorem Tx.err_c20b {t : Tx} (h1 : Tx.acct t.frm = true) (h2 : Tx.acct t.to = false) : t.err = 20 := by
  unfold Tx.err
  rw [if_pos (.inr h2)]
theorem Tx.err_c2a {t : Tx} (h1 : Tx.acct t.frm = true) (h2 : Tx.acct t.to = true) (h3 : Tx.num t.nonce = false) : t.err = 2 := by
  unfold Tx.err
  rw [if_neg (by rw [h1, h2]; simp), if_pos (.inl h3)]
theorem Tx.err_c2b {t : Tx} (h1 : Tx.acct t.frm = true) (h2 : Tx.acct t.to = true) (h3 : Tx.num t.nonce = true) (h4 : Tx.num t.fee = false) : t.err = 2 := by
  unfold Tx.err
  rw [if_neg (by rw [h1, h2]; simp), if_pos (.inr h4)]
theorem Tx.err_c2c {t : Tx} (h1 : Tx.acct t.frm = true) (h2 : Tx.acct t.to = true) (h3 : Tx.num t.nonce = true) (h4 : Tx.num t.fee = true) (h5 : t.lane = true) (h6 : Tx.num t.round = false) : t.err = 2 := by
  unfold Tx.err
  rw [if_neg (by rw [h1, h2]; simp), if_neg (by rw [h3, h4]; simp), if_pos (.inl ⟨h5, .inl h6⟩)]
theorem Tx.err_c2d {t : Tx} (h1 : Tx.acct t.frm = true) (h2 : Tx.acct t.to = true) (h3 : Tx.num t.nonce = true) (h4 : Tx.num t.fee = true) (h5 : t.lane = true) (h6 : Tx.num t.round = true) (h7 : Tx.num t.turn = false) : t.err = 2 := by
  unfold Tx.err
  rw [if_neg (by rw [h1, h2]; simp), if_neg (by rw [h3, h4]; simp), if_pos (.inl ⟨h5, .inr h7⟩)]
theorem Tx.err_c2e {t : Tx} (h1 : Tx.acct t.frm = true) (h2 : Tx.acct t.to = true) (h3 : Tx.num t.nonce = true) (h4 : Tx.num t.fee = true) (h5 : t.lane = false) (h6 : t.plain = false) : t.err = 2 := by
  unfold Tx.err
  rw [if_neg (by rw [h1, h2]; simp), if_neg (by rw [h3, h4]; simp), if_pos (.inr ⟨h5, h6⟩)]
theorem Tx.err_c3l {t : Tx} (h1 : Tx.acct t.frm = true) (h2 : Tx.acct t.to = true) (h3 : Tx.num t.nonce = true) (h4 : Tx.num t.fee = true) (h5 : t.lane = true) (h6 : Tx.num t.round = true) (h7 : Tx.num t.turn = true) (h8 : 256 < t.data.size) : t.err = 3 := by
  unfold Tx.err
  rw [if_neg (by rw [h1, h2]; simp), if_neg (by rw [h3, h4]; simp), if_neg (by rw [h5, h6, h7]; simp), if_pos h8]
theorem Tx.err_c0l {t : Tx} (h1 : Tx.acct t.frm = true) (h2 : Tx.acct t.to = true) (h3 : Tx.num t.nonce = true) (h4 : Tx.num t.fee = true) (h5 : t.lane = true) (h6 : Tx.num t.round = true) (h7 : Tx.num t.turn = true) (h8 : t.data.size ≤ 256) : t.err = 0 := by
  unfold Tx.err
  rw [if_neg (by rw [h1, h2]; simp), if_neg (by rw [h3, h4]; simp), if_neg (by rw [h5, h6, h7]; simp), if_neg (by omega)]
theorem Tx.err_c3p {t : Tx} (h1 : Tx.acct t.frm = true) (h2 : Tx.acct t.to = true) (h3 : Tx.num t.nonce = true) (h4 : Tx.num t.fee = true) (h5 : t.lane = false) (h6 : t.plain = true) (h8 : 256 < t.data.size) : t.err = 3 := by
  unfold Tx.err
  rw [if_neg (by rw [h1, h2]; simp), if_neg (by rw [h3, h4]; simp), if_neg (by rw [h5, h6]; simp), if_pos h8]
theorem Tx.err_c0p {t : Tx} (h1 : Tx.acct t.frm = true) (h2 : Tx.acct t.to = true) (h3 : Tx.num t.nonce = true) (h4 : Tx.num t.fee = true) (h5 : t.lane = false) (h6 : t.plain = true) (h8 : t.data.size ≤ 256) : t.err = 0 := by
  unfold Tx.err
  rw [if_neg (by rw [h1, h2]; simp), if_neg (by rw [h3, h4]; simp), if_neg (by rw [h5, h6]; simp), if_neg (by omega)]
set_option maxRecDepth 20000 in
theorem check4_c20a (t : Tx) (ht : t.Ok) (w : World) (h1 : Tx.acct t.frm = false) :
    Calls Tryd.prog 21 #[t.v] w fun e w' => e = .returned (.int .i64 20) ∧ Below w.heap.size w w' := by
  obtain ⟨c0, c1, c2, c3, c4, c5, c6, c7⟩ := tx_box ht (Row.new w 25 t.cells)
  have hrng := tx_range (Row.new w 25 t.cells)
  have hlen := Tx.cells_length ht
  have HL := Lib.hid hlen
  have Hrng := Lib.hid hrng
  have Hrow := Lib.hid (Row.new w 25 t.cells)
  have Ht := Lib.hid ht
  clear hlen hrng
  clear ht
  show Calls _ _ #[.agg t.cells.toArray] _ _
  go_enter Tryd.func21, Tryd.ntmps21
  go_wp2_with (first
    | (go_at_call 62; with_reducible refine (account_any _ _).mono ?_; rintro e w' ⟨rfl, rfl⟩)
    | (go_at_call 63; with_reducible refine (number4_any _ _).mono ?_; rintro e w' ⟨rfl, rfl⟩))
  go_ret
  exact ⟨rfl, tx_below (grownBy_refl _ _)⟩
set_option maxRecDepth 20000 in
theorem check4_c20b (t : Tx) (ht : t.Ok) (w : World) (h1 : Tx.acct t.frm = true) (h2 : Tx.acct t.to = false) :
    Calls Tryd.prog 21 #[t.v] w fun e w' => e = .returned (.int .i64 20) ∧ Below w.heap.size w w' := by
  obtain ⟨c0, c1, c2, c3, c4, c5, c6, c7⟩ := tx_box ht (Row.new w 25 t.cells)
  have hrng := tx_range (Row.new w 25 t.cells)
  have hlen := Tx.cells_length ht
  have HL := Lib.hid hlen
  have Hrng := Lib.hid hrng
  have Hrow := Lib.hid (Row.new w 25 t.cells)
  have Ht := Lib.hid ht
  clear hlen hrng
  clear ht
  show Calls _ _ #[.agg t.cells.toArray] _ _
  go_enter Tryd.func21, Tryd.ntmps21
  go_wp2_with (first
    | (go_at_call 62; with_reducible refine (account_any _ _).mono ?_; rintro e w' ⟨rfl, rfl⟩)
    | (go_at_call 63; with_reducible refine (number4_any _ _).mono ?_; rintro e w' ⟨rfl, rfl⟩))
  go_ret
  exact ⟨rfl, tx_below (grownBy_refl _ _)⟩
set_option maxRecDepth 20000 in
theorem check4_c2a (t : Tx) (ht : t.Ok) (w : World) (h1 : Tx.acct t.frm = true) (h2 : Tx.acct t.to = true) (h3 : Tx.num t.nonce = false) :
    Calls Tryd.prog 21 #[t.v] w fun e w' => e = .returned (.int .i64 2) ∧ Below w.heap.size w w' := by
  obtain ⟨c0, c1, c2, c3, c4, c5, c6, c7⟩ := tx_box ht (Row.new w 25 t.cells)
  have hrng := tx_range (Row.new w 25 t.cells)
  have hlen := Tx.cells_length ht
  have HL := Lib.hid hlen
  have Hrng := Lib.hid hrng
  have Hrow := Lib.hid (Row.new w 25 t.cells)
  have Ht := Lib.hid ht
  clear hlen hrng
  clear ht
  show Calls _ _ #[.agg t.cells.toArray] _ _
  go_enter Tryd.func21, Tryd.ntmps21
  go_wp2_with (first
    | (go_at_call 62; with_reducible refine (account_any _ _).mono ?_; rintro e w' ⟨rfl, rfl⟩)
    | (go_at_call 63; with_reducible refine (number4_any _ _).mono ?_; rintro e w' ⟨rfl, rfl⟩))
  go_ret
  exact ⟨rfl, tx_below (grownBy_refl _ _)⟩
set_option maxRecDepth 20000 in
theorem check4_c2b (t : Tx) (ht : t.Ok) (w : World) (h1 : Tx.acct t.frm = true) (h2 : Tx.acct t.to = true) (h3 : Tx.num t.nonce = true) (h4 : Tx.num t.fee = false) :
    Calls Tryd.prog 21 #[t.v] w fun e w' => e = .returned (.int .i64 2) ∧ Below w.heap.size w w' := by
  obtain ⟨c0, c1, c2, c3, c4, c5, c6, c7⟩ := tx_box ht (Row.new w 25 t.cells)
  have hrng := tx_range (Row.new w 25 t.cells)
  have hlen := Tx.cells_length ht
  have HL := Lib.hid hlen
  have Hrng := Lib.hid hrng
  have Hrow := Lib.hid (Row.new w 25 t.cells)
  have Ht := Lib.hid ht
  clear hlen hrng
  clear ht
  show Calls _ _ #[.agg t.cells.toArray] _ _
  go_enter Tryd.func21, Tryd.ntmps21
  go_wp2_with (first
    | (go_at_call 62; with_reducible refine (account_any _ _).mono ?_; rintro e w' ⟨rfl, rfl⟩)
    | (go_at_call 63; with_reducible refine (number4_any _ _).mono ?_; rintro e w' ⟨rfl, rfl⟩))
  go_ret
  exact ⟨rfl, tx_below (grownBy_refl _ _)⟩
set_option maxRecDepth 20000 in
theorem check4_c2c (t : Tx) (ht : t.Ok) (w : World) (h1 : Tx.acct t.frm = true) (h2 : Tx.acct t.to = true) (h3 : Tx.num t.nonce = true) (h4 : Tx.num t.fee = true) (h5 : t.lane = true) (h6 : Tx.num t.round = false) :
    Calls Tryd.prog 21 #[t.v] w fun e w' => e = .returned (.int .i64 2) ∧ Below w.heap.size w w' := by
  obtain ⟨c0, c1, c2, c3, c4, c5, c6, c7⟩ := tx_box ht (Row.new w 25 t.cells)
  have hrng := tx_range (Row.new w 25 t.cells)
  have hlen := Tx.cells_length ht
  have HL := Lib.hid hlen
  have Hrng := Lib.hid hrng
  have Hrow := Lib.hid (Row.new w 25 t.cells)
  have Ht := Lib.hid ht
  clear hlen hrng
  clear ht
  show Calls _ _ #[.agg t.cells.toArray] _ _
  go_enter Tryd.func21, Tryd.ntmps21
  go_wp2_with (first
    | (go_at_call 62; with_reducible refine (account_any _ _).mono ?_; rintro e w' ⟨rfl, rfl⟩)
    | (go_at_call 63; with_reducible refine (number4_any _ _).mono ?_; rintro e w' ⟨rfl, rfl⟩))
  go_ret
  exact ⟨rfl, tx_below (grownBy_refl _ _)⟩
set_option maxRecDepth 20000 in
theorem check4_c2d (t : Tx) (ht : t.Ok) (w : World) (h1 : Tx.acct t.frm = true) (h2 : Tx.acct t.to = true) (h3 : Tx.num t.nonce = true) (h4 : Tx.num t.fee = true) (h5 : t.lane = true) (h6 : Tx.num t.round = true) (h7 : Tx.num t.turn = false) :
    Calls Tryd.prog 21 #[t.v] w fun e w' => e = .returned (.int .i64 2) ∧ Below w.heap.size w w' := by
  obtain ⟨c0, c1, c2, c3, c4, c5, c6, c7⟩ := tx_box ht (Row.new w 25 t.cells)
  have hrng := tx_range (Row.new w 25 t.cells)
  have hlen := Tx.cells_length ht
  have HL := Lib.hid hlen
  have Hrng := Lib.hid hrng
  have Hrow := Lib.hid (Row.new w 25 t.cells)
  have Ht := Lib.hid ht
  clear hlen hrng
  clear ht
  show Calls _ _ #[.agg t.cells.toArray] _ _
  go_enter Tryd.func21, Tryd.ntmps21
  go_wp2_with (first
    | (go_at_call 62; with_reducible refine (account_any _ _).mono ?_; rintro e w' ⟨rfl, rfl⟩)
    | (go_at_call 63; with_reducible refine (number4_any _ _).mono ?_; rintro e w' ⟨rfl, rfl⟩))
  go_ret
  exact ⟨rfl, tx_below (grownBy_refl _ _)⟩
set_option maxRecDepth 20000 in
theorem check4_c2e (t : Tx) (ht : t.Ok) (w : World) (h1 : Tx.acct t.frm = true) (h2 : Tx.acct t.to = true) (h3 : Tx.num t.nonce = true) (h4 : Tx.num t.fee = true) (h5 : t.lane = false) (h6 : t.plain = false) :
    Calls Tryd.prog 21 #[t.v] w fun e w' => e = .returned (.int .i64 2) ∧ Below w.heap.size w w' := by
  obtain ⟨c0, c1, c2, c3, c4, c5, c6, c7⟩ := tx_box ht (Row.new w 25 t.cells)
  have hrng := tx_range (Row.new w 25 t.cells)
  have hlen := Tx.cells_length ht
  have HL := Lib.hid hlen
  have Hrng := Lib.hid hrng
  have Hrow := Lib.hid (Row.new w 25 t.cells)
  have Ht := Lib.hid ht
  clear hlen hrng
  have PL : Hid (∀ W, Calls Tryd.prog 64 #[.agg t.cells.toArray] W fun e w' => e = .returned (.bool t.plain) ∧ W.grownBy w' none) := fun W => plain_any t Ht.out h5 W
  clear ht
  show Calls _ _ #[.agg t.cells.toArray] _ _
  go_enter Tryd.func21, Tryd.ntmps21
  go_wp2_with (first
    | (go_at_call 62; with_reducible refine (account_any _ _).mono ?_; rintro e w' ⟨rfl, rfl⟩)
    | (go_at_call 63; with_reducible refine (number4_any _ _).mono ?_; rintro e w' ⟨rfl, rfl⟩)
    | (with_reducible show wpList _ _ _ (⟨_, .load 25 _, _, _, _, _⟩ :: _) _ _; refine wpList_load_tx rfl 25 (.tmp 1) rfl w.heap.size 0 rfl t.cells _ Hrng.out Tryd.underlying25 rfl (by rw [tx_info, HL.out]) ?_)
    | (go_at_call 64; refine (PL.out _).mono ?_; rintro e w1 ⟨rfl, hg1⟩
       have c4' := hg1.cell c4 (by simp)
       have Hg1 := Lib.hid hg1
       clear hg1 c0 c1 c2 c3 c4 c5 c6 c7))
  go_ret
  exact ⟨rfl, tx_below Hg1.out⟩
set_option maxRecDepth 20000 in
theorem check4_c3l (t : Tx) (ht : t.Ok) (w : World) (h1 : Tx.acct t.frm = true) (h2 : Tx.acct t.to = true) (h3 : Tx.num t.nonce = true) (h4 : Tx.num t.fee = true) (h5 : t.lane = true) (h6 : Tx.num t.round = true) (h7 : Tx.num t.turn = true) (h8 : 256 < t.data.size) :
    Calls Tryd.prog 21 #[t.v] w fun e w' => e = .returned (.int .i64 3) ∧ Below w.heap.size w w' := by
  obtain ⟨c0, c1, c2, c3, c4, c5, c6, c7⟩ := tx_box ht (Row.new w 25 t.cells)
  have hrng := tx_range (Row.new w 25 t.cells)
  have hlen := Tx.cells_length ht
  have HL := Lib.hid hlen
  have Hrng := Lib.hid hrng
  have Hrow := Lib.hid (Row.new w 25 t.cells)
  have Ht := Lib.hid ht
  clear hlen hrng
  have h8' : (256 : Int) < (t.data.size : Int) := by omega
  clear ht
  show Calls _ _ #[.agg t.cells.toArray] _ _
  go_enter Tryd.func21, Tryd.ntmps21
  go_wp2_with (first
    | (go_at_call 62; with_reducible refine (account_any _ _).mono ?_; rintro e w' ⟨rfl, rfl⟩)
    | (go_at_call 63; with_reducible refine (number4_any _ _).mono ?_; rintro e w' ⟨rfl, rfl⟩))
  go_ret
  exact ⟨rfl, tx_below (grownBy_refl _ _)⟩
set_option maxRecDepth 20000 in
theorem check4_c0l (t : Tx) (ht : t.Ok) (w : World) (h1 : Tx.acct t.frm = true) (h2 : Tx.acct t.to = true) (h3 : Tx.num t.nonce = true) (h4 : Tx.num t.fee = true) (h5 : t.lane = true) (h6 : Tx.num t.round = true) (h7 : Tx.num t.turn = true) (h8 : t.data.size ≤ 256) :
    Calls Tryd.prog 21 #[t.v] w fun e w' => e = .returned (.int .i64 0) ∧ Below w.heap.size w w' := by
  obtain ⟨c0, c1, c2, c3, c4, c5, c6, c7⟩ := tx_box ht (Row.new w 25 t.cells)
  have hrng := tx_range (Row.new w 25 t.cells)
  have hlen := Tx.cells_length ht
  have HL := Lib.hid hlen
  have Hrng := Lib.hid hrng
  have Hrow := Lib.hid (Row.new w 25 t.cells)
  have Ht := Lib.hid ht
  clear hlen hrng
  have h8' : (t.data.size : Int) ≤ 256 := by omega
  clear ht
  show Calls _ _ #[.agg t.cells.toArray] _ _
  go_enter Tryd.func21, Tryd.ntmps21
  go_wp2_with (first
    | (go_at_call 62; with_reducible refine (account_any _ _).mono ?_; rintro e w' ⟨rfl, rfl⟩)
    | (go_at_call 63; with_reducible refine (number4_any _ _).mono ?_; rintro e w' ⟨rfl, rfl⟩))
  go_ret
  exact ⟨rfl, tx_below (grownBy_refl _ _)⟩
set_option maxRecDepth 20000 in
theorem check4_c3p (t : Tx) (ht : t.Ok) (w : World) (h1 : Tx.acct t.frm = true) (h2 : Tx.acct t.to = true) (h3 : Tx.num t.nonce = true) (h4 : Tx.num t.fee = true) (h5 : t.lane = false) (h6 : t.plain = true) (h8 : 256 < t.data.size) :
    Calls Tryd.prog 21 #[t.v] w fun e w' => e = .returned (.int .i64 3) ∧ Below w.heap.size w w' := by
  obtain ⟨c0, c1, c2, c3, c4, c5, c6, c7⟩ := tx_box ht (Row.new w 25 t.cells)
  have hrng := tx_range (Row.new w 25 t.cells)
  have hlen := Tx.cells_length ht
  have HL := Lib.hid hlen
  have Hrng := Lib.hid hrng
  have Hrow := Lib.hid (Row.new w 25 t.cells)
  have Ht := Lib.hid ht
  clear hlen hrng
  have PL : Hid (∀ W, Calls Tryd.prog 64 #[.agg t.cells.toArray] W fun e w' => e = .returned (.bool t.plain) ∧ W.grownBy w' none) := fun W => plain_any t Ht.out h5 W
  have h8' : (256 : Int) < (t.data.size : Int) := by omega
  clear ht
  show Calls _ _ #[.agg t.cells.toArray] _ _
  go_enter Tryd.func21, Tryd.ntmps21
  go_wp2_with (first
    | (go_at_call 62; with_reducible refine (account_any _ _).mono ?_; rintro e w' ⟨rfl, rfl⟩)
    | (go_at_call 63; with_reducible refine (number4_any _ _).mono ?_; rintro e w' ⟨rfl, rfl⟩)
    | (with_reducible show wpList _ _ _ (⟨_, .load 25 _, _, _, _, _⟩ :: _) _ _; refine wpList_load_tx rfl 25 (.tmp 1) rfl w.heap.size 0 rfl t.cells _ Hrng.out Tryd.underlying25 rfl (by rw [tx_info, HL.out]) ?_)
    | (go_at_call 64; refine (PL.out _).mono ?_; rintro e w1 ⟨rfl, hg1⟩
       have c4' := hg1.cell c4 (by simp)
       have Hg1 := Lib.hid hg1
       clear hg1 c0 c1 c2 c3 c4 c5 c6 c7))
  go_ret
  exact ⟨rfl, tx_below Hg1.out⟩
set_option maxRecDepth 20000 in
theorem check4_c0p (t : Tx) (ht : t.Ok) (w : World) (h1 : Tx.acct t.frm = true) (h2 : Tx.acct t.to = true) (h3 : Tx.num t.nonce = true) (h4 : Tx.num t.fee = true) (h5 : t.lane = false) (h6 : t.plain = true) (h8 : t.data.size ≤ 256) :
    Calls Tryd.prog 21 #[t.v] w fun e w' => e = .returned (.int .i64 0) ∧ Below w.heap.size w w' := by
  obtain ⟨c0, c1, c2, c3, c4, c5, c6, c7⟩ := tx_box ht (Row.new w 25 t.cells)
  have hrng := tx_range (Row.new w 25 t.cells)
  have hlen := Tx.cells_length ht
  have HL := Lib.hid hlen
  have Hrng := Lib.hid hrng
  have Hrow := Lib.hid (Row.new w 25 t.cells)
  have Ht := Lib.hid ht
  clear hlen hrng
  have PL : Hid (∀ W, Calls Tryd.prog 64 #[.agg t.cells.toArray] W fun e w' => e = .returned (.bool t.plain) ∧ W.grownBy w' none) := fun W => plain_any t Ht.out h5 W
  have h8' : (t.data.size : Int) ≤ 256 := by omega
  clear ht
  show Calls _ _ #[.agg t.cells.toArray] _ _
  go_enter Tryd.func21, Tryd.ntmps21
  go_wp2_with (first
    | (go_at_call 62; with_reducible refine (account_any _ _).mono ?_; rintro e w' ⟨rfl, rfl⟩)
    | (go_at_call 63; with_reducible refine (number4_any _ _).mono ?_; rintro e w' ⟨rfl, rfl⟩)
    | (with_reducible show wpList _ _ _ (⟨_, .load 25 _, _, _, _, _⟩ :: _) _ _; refine wpList_load_tx rfl 25 (.tmp 1) rfl w.heap.size 0 rfl t.cells _ Hrng.out Tryd.underlying25 rfl (by rw [tx_info, HL.out]) ?_)
    | (go_at_call 64; refine (PL.out _).mono ?_; rintro e w1 ⟨rfl, hg1⟩
       have c4' := hg1.cell c4 (by simp)
       have Hg1 := Lib.hid hg1
       clear hg1 c0 c1 c2 c3 c4 c5 c6 c7))
  go_ret
  exact ⟨rfl, tx_below Hg1.out⟩
theorem check4_any (t : Tx) (ht : t.Ok) (w : World) :
    Calls Tryd.prog 21 #[t.v] w fun e w' => e = .returned (.int .i64 t.err) ∧ Below w.heap.size w w' := by
  rcases Bool.eq_false_or_eq_true (Tx.acct t.frm) with h1 | h1
  · rcases Bool.eq_false_or_eq_true (Tx.acct t.to) with h2 | h2
    · rcases Bool.eq_false_or_eq_true (Tx.num t.nonce) with h3 | h3
      · rcases Bool.eq_false_or_eq_true (Tx.num t.fee) with h4 | h4
        · rcases Bool.eq_false_or_eq_true t.lane with h5 | h5
          · rcases Bool.eq_false_or_eq_true (Tx.num t.round) with h6 | h6
            · rcases Bool.eq_false_or_eq_true (Tx.num t.turn) with h7 | h7
              · rcases Nat.lt_or_ge 256 t.data.size with h8 | h8
                · rw [Tx.err_c3l h1 h2 h3 h4 h5 h6 h7 h8]; exact check4_c3l t ht w h1 h2 h3 h4 h5 h6 h7 h8
                · rw [Tx.err_c0l h1 h2 h3 h4 h5 h6 h7 h8]; exact check4_c0l t ht w h1 h2 h3 h4 h5 h6 h7 h8
              · rw [Tx.err_c2d h1 h2 h3 h4 h5 h6 h7]; exact check4_c2d t ht w h1 h2 h3 h4 h5 h6 h7
            · rw [Tx.err_c2c h1 h2 h3 h4 h5 h6]; exact check4_c2c t ht w h1 h2 h3 h4 h5 h6
          · rcases Bool.eq_false_or_eq_true t.plain with h6 | h6
            · rcases Nat.lt_or_ge 256 t.data.size with h8 | h8
              · rw [Tx.err_c3p h1 h2 h3 h4 h5 h6 h8]; exact check4_c3p t ht w h1 h2 h3 h4 h5 h6 h8
              · rw [Tx.err_c0p h1 h2 h3 h4 h5 h6 h8]; exact check4_c0p t ht w h1 h2 h3 h4 h5 h6 h8
            · rw [Tx.err_c2e h1 h2 h3 h4 h5 h6]; exact check4_c2e t ht w h1 h2 h3 h4 h5 h6
        · rw [Tx.err_c2b h1 h2 h3 h4]; exact check4_c2b t ht w h1 h2 h3 h4
      · rw [Tx.err_c2a h1 h2 h3]; exact check4_c2a t ht w h1 h2 h3
    · rw [Tx.err_c20b h1 h2]; exact check4_c20b t ht w h1 h2
  · rw [Tx.err_c20a h1]; exact check4_c20a t ht w h1

theorem within63 (n : Int) (w : World) : Calls Tryd.prog 65 #[.int .i64 n, .int .i64 63] w fun e w' => e = .returned (.bool (Tx.acct n)) ∧ w = w' := within4_any n 63 w
theorem within40 (n : Int) (w : World) : Calls Tryd.prog 65 #[.int .i64 n, .int .i64 1099511627776] w fun e w' => e = .returned (.bool (Tx.num n)) ∧ w = w' := within4_any n 1099511627776 w
theorem zero_lit : bRow Tx.zero = #[.int .u8 0, .int .u8 0, .int .u8 0, .int .u8 0, .int .u8 0, .int .u8 0, .int .u8 0, .int .u8 0, .int .u8 0, .int .u8 0, .int .u8 0, .int .u8 0, .int .u8 0, .int .u8 0, .int .u8 0, .int .u8 0, .int .u8 0, .int .u8 0, .int .u8 0, .int .u8 0, .int .u8 0, .int .u8 0, .int .u8 0, .int .u8 0, .int .u8 0, .int .u8 0, .int .u8 0, .int .u8 0, .int .u8 0, .int .u8 0, .int .u8 0, .int .u8 0] := by kernel_rfl
theorem hash_built : Tryd.prog.built 23 [] = some (bRow Tx.zero) := by kernel_rfl
theorem wpList_build_guarded {P : Program} {ops : Array Oper} {rest : List Oper} {o : Oper} {a : Act} {w : World} {Q : Exit → Act → World → Prop} (hw : Region.wanted o (yielded ops a.tmps) = true) (t : TypeId) (parts : List (Nat × Operand)) (ho : o.op = .build t parts.toArray)
    (d : Option Tmp) (hd : o.dst = d) (vs : List (Nat × Value)) (hv : parts.map (fun p => (p.1, a.eval p.2)) = vs) (cells : Array Value) (hf : P.built t vs = some cells)
    (h : wpList P ops Q rest (a.put d (.agg cells)) w) : wpList P ops Q (o :: rest) a w := by
  subst hd
  refine wpList_step fun K hK => ?_
  rw [if_pos hw]
  refine wp_build t parts.toArray ho (by simp only [List.map_toArray, hv, hf]; rfl) (hK _ _ ?_)
  simp only [List.map_toArray, hv, hf]
  exact h
set_option maxRecDepth 20000 in
theorem rcheck4_c20a (t : Tx) (ht : t.Ok) (w : World) (h1 : Tx.acct t.frm = false)  :
    Calls Tryd.prog 22 #[t.v] w fun e w' => e = .returned (.int .i64 20) ∧ Below w.heap.size w w' := by
  obtain ⟨c0, c1, c2, c3, c4, c5, c6, c7⟩ := tx_box ht (Row.new w 25 t.cells)
  have hrng := tx_range (Row.new w 25 t.cells)
  have hlen := Tx.cells_length ht
  have HL := Lib.hid hlen
  have Hrng := Lib.hid hrng
  have Hrow := Lib.hid (Row.new w 25 t.cells)
  have Ht := Lib.hid ht
  clear hlen hrng
  clear ht
  show Calls _ _ #[.agg t.cells.toArray] _ _
  go_enter Tryd.func22, Tryd.ntmps22
  go_wp2_with (first
    | (go_at_call 65; with_reducible refine (within63 _ _).mono ?_; rintro e w' ⟨rfl, rfl⟩)
    | (go_at_call 65; with_reducible refine (within40 _ _).mono ?_; rintro e w' ⟨rfl, rfl⟩))
  go_ret
  exact ⟨rfl, tx_below (grownBy_refl _ _)⟩
set_option maxRecDepth 20000 in
theorem rcheck4_c20b (t : Tx) (ht : t.Ok) (w : World) (h1 : Tx.acct t.frm = true) (h2 : Tx.acct t.to = false)  :
    Calls Tryd.prog 22 #[t.v] w fun e w' => e = .returned (.int .i64 20) ∧ Below w.heap.size w w' := by
  obtain ⟨c0, c1, c2, c3, c4, c5, c6, c7⟩ := tx_box ht (Row.new w 25 t.cells)
  have hrng := tx_range (Row.new w 25 t.cells)
  have hlen := Tx.cells_length ht
  have HL := Lib.hid hlen
  have Hrng := Lib.hid hrng
  have Hrow := Lib.hid (Row.new w 25 t.cells)
  have Ht := Lib.hid ht
  clear hlen hrng
  clear ht
  show Calls _ _ #[.agg t.cells.toArray] _ _
  go_enter Tryd.func22, Tryd.ntmps22
  go_wp2_with (first
    | (go_at_call 65; with_reducible refine (within63 _ _).mono ?_; rintro e w' ⟨rfl, rfl⟩)
    | (go_at_call 65; with_reducible refine (within40 _ _).mono ?_; rintro e w' ⟨rfl, rfl⟩))
  go_ret
  exact ⟨rfl, tx_below (grownBy_refl _ _)⟩
set_option maxRecDepth 20000 in
theorem rcheck4_c2a (t : Tx) (ht : t.Ok) (w : World) (h1 : Tx.acct t.frm = true) (h2 : Tx.acct t.to = true) (h3 : Tx.num t.nonce = false)  :
    Calls Tryd.prog 22 #[t.v] w fun e w' => e = .returned (.int .i64 2) ∧ Below w.heap.size w w' := by
  obtain ⟨c0, c1, c2, c3, c4, c5, c6, c7⟩ := tx_box ht (Row.new w 25 t.cells)
  have hrng := tx_range (Row.new w 25 t.cells)
  have hlen := Tx.cells_length ht
  have HL := Lib.hid hlen
  have Hrng := Lib.hid hrng
  have Hrow := Lib.hid (Row.new w 25 t.cells)
  have Ht := Lib.hid ht
  clear hlen hrng
  clear ht
  show Calls _ _ #[.agg t.cells.toArray] _ _
  go_enter Tryd.func22, Tryd.ntmps22
  go_wp2_with (first
    | (go_at_call 65; with_reducible refine (within63 _ _).mono ?_; rintro e w' ⟨rfl, rfl⟩)
    | (go_at_call 65; with_reducible refine (within40 _ _).mono ?_; rintro e w' ⟨rfl, rfl⟩))
  go_ret
  exact ⟨rfl, tx_below (grownBy_refl _ _)⟩
set_option maxRecDepth 20000 in
theorem rcheck4_c2b (t : Tx) (ht : t.Ok) (w : World) (h1 : Tx.acct t.frm = true) (h2 : Tx.acct t.to = true) (h3 : Tx.num t.nonce = true) (h4 : Tx.num t.fee = false)  :
    Calls Tryd.prog 22 #[t.v] w fun e w' => e = .returned (.int .i64 2) ∧ Below w.heap.size w w' := by
  obtain ⟨c0, c1, c2, c3, c4, c5, c6, c7⟩ := tx_box ht (Row.new w 25 t.cells)
  have hrng := tx_range (Row.new w 25 t.cells)
  have hlen := Tx.cells_length ht
  have HL := Lib.hid hlen
  have Hrng := Lib.hid hrng
  have Hrow := Lib.hid (Row.new w 25 t.cells)
  have Ht := Lib.hid ht
  clear hlen hrng
  clear ht
  show Calls _ _ #[.agg t.cells.toArray] _ _
  go_enter Tryd.func22, Tryd.ntmps22
  go_wp2_with (first
    | (go_at_call 65; with_reducible refine (within63 _ _).mono ?_; rintro e w' ⟨rfl, rfl⟩)
    | (go_at_call 65; with_reducible refine (within40 _ _).mono ?_; rintro e w' ⟨rfl, rfl⟩))
  go_ret
  exact ⟨rfl, tx_below (grownBy_refl _ _)⟩
set_option maxRecDepth 20000 in
theorem rcheck4_c2c (t : Tx) (ht : t.Ok) (w : World) (h1 : Tx.acct t.frm = true) (h2 : Tx.acct t.to = true) (h3 : Tx.num t.nonce = true) (h4 : Tx.num t.fee = true) (h5 : t.lane = true) (h6 : Tx.num t.round = false)  :
    Calls Tryd.prog 22 #[t.v] w fun e w' => e = .returned (.int .i64 2) ∧ Below w.heap.size w w' := by
  obtain ⟨c0, c1, c2, c3, c4, c5, c6, c7⟩ := tx_box ht (Row.new w 25 t.cells)
  have hrng := tx_range (Row.new w 25 t.cells)
  have hlen := Tx.cells_length ht
  have HL := Lib.hid hlen
  have Hrng := Lib.hid hrng
  have Hrow := Lib.hid (Row.new w 25 t.cells)
  have Ht := Lib.hid ht
  clear hlen hrng
  clear ht
  show Calls _ _ #[.agg t.cells.toArray] _ _
  go_enter Tryd.func22, Tryd.ntmps22
  go_wp2_with (first
    | (go_at_call 65; with_reducible refine (within63 _ _).mono ?_; rintro e w' ⟨rfl, rfl⟩)
    | (go_at_call 65; with_reducible refine (within40 _ _).mono ?_; rintro e w' ⟨rfl, rfl⟩))
  go_ret
  exact ⟨rfl, tx_below (grownBy_refl _ _)⟩
set_option maxRecDepth 20000 in
theorem rcheck4_c2d (t : Tx) (ht : t.Ok) (w : World) (h1 : Tx.acct t.frm = true) (h2 : Tx.acct t.to = true) (h3 : Tx.num t.nonce = true) (h4 : Tx.num t.fee = true) (h5 : t.lane = true) (h6 : Tx.num t.round = true) (h7 : Tx.num t.turn = false)  :
    Calls Tryd.prog 22 #[t.v] w fun e w' => e = .returned (.int .i64 2) ∧ Below w.heap.size w w' := by
  obtain ⟨c0, c1, c2, c3, c4, c5, c6, c7⟩ := tx_box ht (Row.new w 25 t.cells)
  have hrng := tx_range (Row.new w 25 t.cells)
  have hlen := Tx.cells_length ht
  have HL := Lib.hid hlen
  have Hrng := Lib.hid hrng
  have Hrow := Lib.hid (Row.new w 25 t.cells)
  have Ht := Lib.hid ht
  clear hlen hrng
  clear ht
  show Calls _ _ #[.agg t.cells.toArray] _ _
  go_enter Tryd.func22, Tryd.ntmps22
  go_wp2_with (first
    | (go_at_call 65; with_reducible refine (within63 _ _).mono ?_; rintro e w' ⟨rfl, rfl⟩)
    | (go_at_call 65; with_reducible refine (within40 _ _).mono ?_; rintro e w' ⟨rfl, rfl⟩))
  go_ret
  exact ⟨rfl, tx_below (grownBy_refl _ _)⟩
set_option maxRecDepth 20000 in
theorem rcheck4x_c2er (t : Tx) (ht : t.Ok) (w : World) (h1 : Tx.acct t.frm = true) (h2 : Tx.acct t.to = true) (h3 : Tx.num t.nonce = true) (h4 : Tx.num t.fee = true) (h5 : t.lane = false)  (k1 : (t.round == 0) = false) :
    Calls Tryd.prog 22 #[t.v] w fun e w' => e = .returned (.int .i64 2) ∧ Below w.heap.size w w' := by
  obtain ⟨c0, c1, c2, c3, c4, c5, c6, c7⟩ := tx_box ht (Row.new w 25 t.cells)
  have hrng := tx_range (Row.new w 25 t.cells)
  have hlen := Tx.cells_length ht
  have HL := Lib.hid hlen
  have Hrng := Lib.hid hrng
  have Hrow := Lib.hid (Row.new w 25 t.cells)
  have Ht := Lib.hid ht
  clear hlen hrng
  have Hby := Lib.hid (tx_hash_at Ht.out Hrow.out).1
  have Hb32 := Lib.hid (Tx.bRow_len _ Ht.out.bY)
  have k1' : (t.round != 0) = true := by simpa using k1
  clear ht
  show Calls _ _ #[.agg t.cells.toArray] _ _
  go_enter Tryd.func22, Tryd.ntmps22
  go_wp2_with (first
    | (go_at_call 65; with_reducible refine (within63 _ _).mono ?_; rintro e w' ⟨rfl, rfl⟩)
    | (go_at_call 65; with_reducible refine (within40 _ _).mono ?_; rintro e w' ⟨rfl, rfl⟩))
  go_ret
  exact ⟨rfl, tx_below (grownBy_refl _ _)⟩
set_option maxRecDepth 20000 in
theorem rcheck4x_c2et (t : Tx) (ht : t.Ok) (w : World) (h1 : Tx.acct t.frm = true) (h2 : Tx.acct t.to = true) (h3 : Tx.num t.nonce = true) (h4 : Tx.num t.fee = true) (h5 : t.lane = false)  (k1 : (t.round == 0) = true) (k2 : (t.turn == 0) = false) :
    Calls Tryd.prog 22 #[t.v] w fun e w' => e = .returned (.int .i64 2) ∧ Below w.heap.size w w' := by
  obtain ⟨c0, c1, c2, c3, c4, c5, c6, c7⟩ := tx_box ht (Row.new w 25 t.cells)
  have hrng := tx_range (Row.new w 25 t.cells)
  have hlen := Tx.cells_length ht
  have HL := Lib.hid hlen
  have Hrng := Lib.hid hrng
  have Hrow := Lib.hid (Row.new w 25 t.cells)
  have Ht := Lib.hid ht
  clear hlen hrng
  have Hby := Lib.hid (tx_hash_at Ht.out Hrow.out).1
  have Hb32 := Lib.hid (Tx.bRow_len _ Ht.out.bY)
  have k1' : (t.round != 0) = false := by simpa using k1
  have k2' : (t.turn != 0) = true := by simpa using k2
  clear ht
  show Calls _ _ #[.agg t.cells.toArray] _ _
  go_enter Tryd.func22, Tryd.ntmps22
  go_wp2_with (first
    | (go_at_call 65; with_reducible refine (within63 _ _).mono ?_; rintro e w' ⟨rfl, rfl⟩)
    | (go_at_call 65; with_reducible refine (within40 _ _).mono ?_; rintro e w' ⟨rfl, rfl⟩))
  go_ret
  exact ⟨rfl, tx_below (grownBy_refl _ _)⟩
set_option maxRecDepth 20000 in
theorem rcheck4x_c2eb (t : Tx) (ht : t.Ok) (w : World) (h1 : Tx.acct t.frm = true) (h2 : Tx.acct t.to = true) (h3 : Tx.num t.nonce = true) (h4 : Tx.num t.fee = true) (h5 : t.lane = false)  (k1 : (t.round == 0) = true) (k2 : (t.turn == 0) = true) (k3 : t.bY ≠ Tx.zero) :
    Calls Tryd.prog 22 #[t.v] w fun e w' => e = .returned (.int .i64 2) ∧ Below w.heap.size w w' := by
  obtain ⟨c0, c1, c2, c3, c4, c5, c6, c7⟩ := tx_box ht (Row.new w 25 t.cells)
  have hrng := tx_range (Row.new w 25 t.cells)
  have hlen := Tx.cells_length ht
  have HL := Lib.hid hlen
  have Hrng := Lib.hid hrng
  have Hrow := Lib.hid (Row.new w 25 t.cells)
  have Ht := Lib.hid ht
  clear hlen hrng
  have Hby := Lib.hid (tx_hash_at Ht.out Hrow.out).1
  have Hb32 := Lib.hid (Tx.bRow_len _ Ht.out.bY)
  have k1' : (t.round != 0) = false := by simpa using k1
  have k2' : (t.turn != 0) = false := by simpa using k2
  have heqs : ∀ W, (Op.equalIn 10000 23 (.agg (bRow t.bY)) (.agg #[.int .u8 0, .int .u8 0, .int .u8 0, .int .u8 0, .int .u8 0, .int .u8 0, .int .u8 0, .int .u8 0, .int .u8 0, .int .u8 0, .int .u8 0, .int .u8 0, .int .u8 0, .int .u8 0, .int .u8 0, .int .u8 0, .int .u8 0, .int .u8 0, .int .u8 0, .int .u8 0, .int .u8 0, .int .u8 0, .int .u8 0, .int .u8 0, .int .u8 0, .int .u8 0, .int .u8 0, .int .u8 0, .int .u8 0, .int .u8 0, .int .u8 0, .int .u8 0])).run Tryd.prog W = .ok false W := fun W => by rw [← zero_lit]; exact (hash_eq W t.bY Tx.zero Ht.out.bY rfl).trans (by rw [decide_eq_false k3])
  clear k3
  clear ht
  show Calls _ _ #[.agg t.cells.toArray] _ _
  go_enter Tryd.func22, Tryd.ntmps22
  go_wp2_with (first
    | (go_at_call 65; with_reducible refine (within63 _ _).mono ?_; rintro e w' ⟨rfl, rfl⟩)
    | (go_at_call 65; with_reducible refine (within40 _ _).mono ?_; rintro e w' ⟨rfl, rfl⟩)
    | (with_reducible show wpList _ _ _ (⟨_, .load 23 _, _, _, _, _⟩ :: _) _ _; refine wpList_load_tx rfl 23 (.tmp 44) rfl w.heap.size 8 rfl (bRow t.bY).toList _ Hby.out Tryd.underlying23 rfl (by rw [hash_info, Hb32.out]) ?_))
  go_ret
  exact ⟨rfl, tx_below (grownBy_refl _ _)⟩
set_option maxRecDepth 20000 in
theorem rcheck4_c3l (t : Tx) (ht : t.Ok) (w : World) (h1 : Tx.acct t.frm = true) (h2 : Tx.acct t.to = true) (h3 : Tx.num t.nonce = true) (h4 : Tx.num t.fee = true) (h5 : t.lane = true) (h6 : Tx.num t.round = true) (h7 : Tx.num t.turn = true) (h8 : 256 < t.data.size)  :
    Calls Tryd.prog 22 #[t.v] w fun e w' => e = .returned (.int .i64 3) ∧ Below w.heap.size w w' := by
  obtain ⟨c0, c1, c2, c3, c4, c5, c6, c7⟩ := tx_box ht (Row.new w 25 t.cells)
  have hrng := tx_range (Row.new w 25 t.cells)
  have hlen := Tx.cells_length ht
  have HL := Lib.hid hlen
  have Hrng := Lib.hid hrng
  have Hrow := Lib.hid (Row.new w 25 t.cells)
  have Ht := Lib.hid ht
  clear hlen hrng
  have h8' : (256 : Int) < (t.data.size : Int) := by omega
  clear ht
  show Calls _ _ #[.agg t.cells.toArray] _ _
  go_enter Tryd.func22, Tryd.ntmps22
  go_wp2_with (first
    | (go_at_call 65; with_reducible refine (within63 _ _).mono ?_; rintro e w' ⟨rfl, rfl⟩)
    | (go_at_call 65; with_reducible refine (within40 _ _).mono ?_; rintro e w' ⟨rfl, rfl⟩))
  go_ret
  exact ⟨rfl, tx_below (grownBy_refl _ _)⟩
set_option maxRecDepth 20000 in
theorem rcheck4_c0l (t : Tx) (ht : t.Ok) (w : World) (h1 : Tx.acct t.frm = true) (h2 : Tx.acct t.to = true) (h3 : Tx.num t.nonce = true) (h4 : Tx.num t.fee = true) (h5 : t.lane = true) (h6 : Tx.num t.round = true) (h7 : Tx.num t.turn = true) (h8 : t.data.size ≤ 256)  :
    Calls Tryd.prog 22 #[t.v] w fun e w' => e = .returned (.int .i64 0) ∧ Below w.heap.size w w' := by
  obtain ⟨c0, c1, c2, c3, c4, c5, c6, c7⟩ := tx_box ht (Row.new w 25 t.cells)
  have hrng := tx_range (Row.new w 25 t.cells)
  have hlen := Tx.cells_length ht
  have HL := Lib.hid hlen
  have Hrng := Lib.hid hrng
  have Hrow := Lib.hid (Row.new w 25 t.cells)
  have Ht := Lib.hid ht
  clear hlen hrng
  have h8' : (t.data.size : Int) ≤ 256 := by omega
  clear ht
  show Calls _ _ #[.agg t.cells.toArray] _ _
  go_enter Tryd.func22, Tryd.ntmps22
  go_wp2_with (first
    | (go_at_call 65; with_reducible refine (within63 _ _).mono ?_; rintro e w' ⟨rfl, rfl⟩)
    | (go_at_call 65; with_reducible refine (within40 _ _).mono ?_; rintro e w' ⟨rfl, rfl⟩))
  go_ret
  exact ⟨rfl, tx_below (grownBy_refl _ _)⟩
set_option maxRecDepth 20000 in
theorem rcheck4x_c3p (t : Tx) (ht : t.Ok) (w : World) (h1 : Tx.acct t.frm = true) (h2 : Tx.acct t.to = true) (h3 : Tx.num t.nonce = true) (h4 : Tx.num t.fee = true) (h5 : t.lane = false)  (h8 : 256 < t.data.size) (k1 : (t.round == 0) = true) (k2 : (t.turn == 0) = true) (k3 : t.bY = Tx.zero) :
    Calls Tryd.prog 22 #[t.v] w fun e w' => e = .returned (.int .i64 3) ∧ Below w.heap.size w w' := by
  obtain ⟨c0, c1, c2, c3, c4, c5, c6, c7⟩ := tx_box ht (Row.new w 25 t.cells)
  have hrng := tx_range (Row.new w 25 t.cells)
  have hlen := Tx.cells_length ht
  have HL := Lib.hid hlen
  have Hrng := Lib.hid hrng
  have Hrow := Lib.hid (Row.new w 25 t.cells)
  have Ht := Lib.hid ht
  clear hlen hrng
  have h8' : (256 : Int) < (t.data.size : Int) := by omega
  have Hby := Lib.hid (tx_hash_at Ht.out Hrow.out).1
  have Hb32 := Lib.hid (Tx.bRow_len _ Ht.out.bY)
  have k1' : (t.round != 0) = false := by simpa using k1
  have k2' : (t.turn != 0) = false := by simpa using k2
  have heqs : ∀ W, (Op.equalIn 10000 23 (.agg (bRow t.bY)) (.agg #[.int .u8 0, .int .u8 0, .int .u8 0, .int .u8 0, .int .u8 0, .int .u8 0, .int .u8 0, .int .u8 0, .int .u8 0, .int .u8 0, .int .u8 0, .int .u8 0, .int .u8 0, .int .u8 0, .int .u8 0, .int .u8 0, .int .u8 0, .int .u8 0, .int .u8 0, .int .u8 0, .int .u8 0, .int .u8 0, .int .u8 0, .int .u8 0, .int .u8 0, .int .u8 0, .int .u8 0, .int .u8 0, .int .u8 0, .int .u8 0, .int .u8 0, .int .u8 0])).run Tryd.prog W = .ok true W := fun W => by rw [← zero_lit]; exact (hash_eq W t.bY Tx.zero Ht.out.bY rfl).trans (by rw [decide_eq_true k3])
  clear k3
  clear ht
  show Calls _ _ #[.agg t.cells.toArray] _ _
  go_enter Tryd.func22, Tryd.ntmps22
  go_wp2_with (first
    | (go_at_call 65; with_reducible refine (within63 _ _).mono ?_; rintro e w' ⟨rfl, rfl⟩)
    | (go_at_call 65; with_reducible refine (within40 _ _).mono ?_; rintro e w' ⟨rfl, rfl⟩)
    | (with_reducible show wpList _ _ _ (⟨_, .load 23 _, _, _, _, _⟩ :: _) _ _; refine wpList_load_tx rfl 23 (.tmp 44) rfl w.heap.size 8 rfl (bRow t.bY).toList _ Hby.out Tryd.underlying23 rfl (by rw [hash_info, Hb32.out]) ?_))
  go_ret
  exact ⟨rfl, tx_below (grownBy_refl _ _)⟩
set_option maxRecDepth 20000 in
theorem rcheck4x_c0p (t : Tx) (ht : t.Ok) (w : World) (h1 : Tx.acct t.frm = true) (h2 : Tx.acct t.to = true) (h3 : Tx.num t.nonce = true) (h4 : Tx.num t.fee = true) (h5 : t.lane = false)  (h8 : t.data.size ≤ 256) (k1 : (t.round == 0) = true) (k2 : (t.turn == 0) = true) (k3 : t.bY = Tx.zero) :
    Calls Tryd.prog 22 #[t.v] w fun e w' => e = .returned (.int .i64 0) ∧ Below w.heap.size w w' := by
  obtain ⟨c0, c1, c2, c3, c4, c5, c6, c7⟩ := tx_box ht (Row.new w 25 t.cells)
  have hrng := tx_range (Row.new w 25 t.cells)
  have hlen := Tx.cells_length ht
  have HL := Lib.hid hlen
  have Hrng := Lib.hid hrng
  have Hrow := Lib.hid (Row.new w 25 t.cells)
  have Ht := Lib.hid ht
  clear hlen hrng
  have h8' : (t.data.size : Int) ≤ 256 := by omega
  have Hby := Lib.hid (tx_hash_at Ht.out Hrow.out).1
  have Hb32 := Lib.hid (Tx.bRow_len _ Ht.out.bY)
  have k1' : (t.round != 0) = false := by simpa using k1
  have k2' : (t.turn != 0) = false := by simpa using k2
  have heqs : ∀ W, (Op.equalIn 10000 23 (.agg (bRow t.bY)) (.agg #[.int .u8 0, .int .u8 0, .int .u8 0, .int .u8 0, .int .u8 0, .int .u8 0, .int .u8 0, .int .u8 0, .int .u8 0, .int .u8 0, .int .u8 0, .int .u8 0, .int .u8 0, .int .u8 0, .int .u8 0, .int .u8 0, .int .u8 0, .int .u8 0, .int .u8 0, .int .u8 0, .int .u8 0, .int .u8 0, .int .u8 0, .int .u8 0, .int .u8 0, .int .u8 0, .int .u8 0, .int .u8 0, .int .u8 0, .int .u8 0, .int .u8 0, .int .u8 0])).run Tryd.prog W = .ok true W := fun W => by rw [← zero_lit]; exact (hash_eq W t.bY Tx.zero Ht.out.bY rfl).trans (by rw [decide_eq_true k3])
  clear k3
  clear ht
  show Calls _ _ #[.agg t.cells.toArray] _ _
  go_enter Tryd.func22, Tryd.ntmps22
  go_wp2_with (first
    | (go_at_call 65; with_reducible refine (within63 _ _).mono ?_; rintro e w' ⟨rfl, rfl⟩)
    | (go_at_call 65; with_reducible refine (within40 _ _).mono ?_; rintro e w' ⟨rfl, rfl⟩)
    | (with_reducible show wpList _ _ _ (⟨_, .load 23 _, _, _, _, _⟩ :: _) _ _; refine wpList_load_tx rfl 23 (.tmp 44) rfl w.heap.size 8 rfl (bRow t.bY).toList _ Hby.out Tryd.underlying23 rfl (by rw [hash_info, Hb32.out]) ?_))
  go_ret
  exact ⟨rfl, tx_below (grownBy_refl _ _)⟩
theorem Tx.plain_iff {t : Tx} : t.plain = true ↔ ((t.round == 0) = true ∧ (t.turn == 0) = true ∧ t.bY = Tx.zero) := by simp [Tx.plain]
theorem rcheck4_c2e (t : Tx) (ht : t.Ok) (w : World) (h1 : Tx.acct t.frm = true) (h2 : Tx.acct t.to = true) (h3 : Tx.num t.nonce = true) (h4 : Tx.num t.fee = true) (h5 : t.lane = false) (h6 : t.plain = false) :
    Calls Tryd.prog 22 #[t.v] w fun e w' => e = .returned (.int .i64 2) ∧ Below w.heap.size w w' := by
  rcases Bool.eq_false_or_eq_true (t.round == 0) with k1 | k1
  · rcases Bool.eq_false_or_eq_true (t.turn == 0) with k2 | k2
    · by_cases k3 : t.bY = Tx.zero
      · rw [Tx.plain_iff.2 ⟨k1, k2, k3⟩] at h6; cases h6
      · exact rcheck4x_c2eb t ht w h1 h2 h3 h4 h5 k1 k2 k3
    · exact rcheck4x_c2et t ht w h1 h2 h3 h4 h5 k1 k2
  · exact rcheck4x_c2er t ht w h1 h2 h3 h4 h5 k1
theorem rcheck4_c3p (t : Tx) (ht : t.Ok) (w : World) (h1 : Tx.acct t.frm = true) (h2 : Tx.acct t.to = true) (h3 : Tx.num t.nonce = true) (h4 : Tx.num t.fee = true) (h5 : t.lane = false) (h6 : t.plain = true) (h8 : 256 < t.data.size) :
    Calls Tryd.prog 22 #[t.v] w fun e w' => e = .returned (.int .i64 3) ∧ Below w.heap.size w w' := by
  obtain ⟨k1, k2, k3⟩ := Tx.plain_iff.1 h6
  exact rcheck4x_c3p t ht w h1 h2 h3 h4 h5 h8 k1 k2 k3
theorem rcheck4_c0p (t : Tx) (ht : t.Ok) (w : World) (h1 : Tx.acct t.frm = true) (h2 : Tx.acct t.to = true) (h3 : Tx.num t.nonce = true) (h4 : Tx.num t.fee = true) (h5 : t.lane = false) (h6 : t.plain = true) (h8 : t.data.size ≤ 256) :
    Calls Tryd.prog 22 #[t.v] w fun e w' => e = .returned (.int .i64 0) ∧ Below w.heap.size w w' := by
  obtain ⟨k1, k2, k3⟩ := Tx.plain_iff.1 h6
  exact rcheck4x_c0p t ht w h1 h2 h3 h4 h5 h8 k1 k2 k3
theorem rcheck4_any (t : Tx) (ht : t.Ok) (w : World) :
    Calls Tryd.prog 22 #[t.v] w fun e w' => e = .returned (.int .i64 t.err) ∧ Below w.heap.size w w' := by
  rcases Bool.eq_false_or_eq_true (Tx.acct t.frm) with h1 | h1
  · rcases Bool.eq_false_or_eq_true (Tx.acct t.to) with h2 | h2
    · rcases Bool.eq_false_or_eq_true (Tx.num t.nonce) with h3 | h3
      · rcases Bool.eq_false_or_eq_true (Tx.num t.fee) with h4 | h4
        · rcases Bool.eq_false_or_eq_true t.lane with h5 | h5
          · rcases Bool.eq_false_or_eq_true (Tx.num t.round) with h6 | h6
            · rcases Bool.eq_false_or_eq_true (Tx.num t.turn) with h7 | h7
              · rcases Nat.lt_or_ge 256 t.data.size with h8 | h8
                · rw [Tx.err_c3l h1 h2 h3 h4 h5 h6 h7 h8]; exact rcheck4_c3l t ht w h1 h2 h3 h4 h5 h6 h7 h8
                · rw [Tx.err_c0l h1 h2 h3 h4 h5 h6 h7 h8]; exact rcheck4_c0l t ht w h1 h2 h3 h4 h5 h6 h7 h8
              · rw [Tx.err_c2d h1 h2 h3 h4 h5 h6 h7]; exact rcheck4_c2d t ht w h1 h2 h3 h4 h5 h6 h7
            · rw [Tx.err_c2c h1 h2 h3 h4 h5 h6]; exact rcheck4_c2c t ht w h1 h2 h3 h4 h5 h6
          · rcases Bool.eq_false_or_eq_true t.plain with h6 | h6
            · rcases Nat.lt_or_ge 256 t.data.size with h8 | h8
              · rw [Tx.err_c3p h1 h2 h3 h4 h5 h6 h8]; exact rcheck4_c3p t ht w h1 h2 h3 h4 h5 h6 h8
              · rw [Tx.err_c0p h1 h2 h3 h4 h5 h6 h8]; exact rcheck4_c0p t ht w h1 h2 h3 h4 h5 h6 h8
            · rw [Tx.err_c2e h1 h2 h3 h4 h5 h6]; exact rcheck4_c2e t ht w h1 h2 h3 h4 h5 h6
        · rw [Tx.err_c2b h1 h2 h3 h4]; exact rcheck4_c2b t ht w h1 h2 h3 h4
      · rw [Tx.err_c2a h1 h2 h3]; exact rcheck4_c2a t ht w h1 h2 h3
    · rw [Tx.err_c20b h1 h2]; exact rcheck4_c20b t ht w h1 h2
  · rw [Tx.err_c20a h1]; exact rcheck4_c20a t ht w h1
end Go.Proofs.YtdekcicgiflnbaaDoor
