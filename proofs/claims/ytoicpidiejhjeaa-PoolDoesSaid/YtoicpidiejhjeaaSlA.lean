/- What later texts need of the earlier layers. -/
import Derived.Test.YtoicpidiejhjeaaSlO
import Derived.Test.YtoicpidiejhjeaaSlT
import Derived.Test.YtoicpidiejhjeaaSlC
import Derived.Laws.CopyRow
import Derived.StillTailTactics
import Derived.Deep.RegionHeld3
import Derived.Deep.RegionLaw
import Derived.Deep.DeepAppendWide
import Derived.RangeFuncBox
import Derived.Laws.ResultCell
/- ---- TxCheck ---- -/
/- tx.Check and the reference's Check. -/
namespace Go.Proofs.Ytoicpidiejhjeaa
open Go.RowKit
set_option linter.unusedVariables false
set_option linter.unusedSimpArgs false

theorem tx_box {W : World} {g : Nat} {T : TypeId} {t : Tx} (ht : t.Ok) (h : Row W g T t.cells) :
    W.cell? ⟨g, 0, none⟩ = some (.int .i64 t.frm) ∧ W.cell? ⟨g, 1, none⟩ = some (.int .i64 t.nonce) ∧ W.cell? ⟨g, 2, none⟩ = some (.int .i64 t.fee) ∧ W.cell? ⟨g, 3, none⟩ = some (.int .i64 t.to) ∧
    W.cell? ⟨g, 4, none⟩ = some (.string t.data) ∧ W.cell? ⟨g, 5, none⟩ = some (.bool t.lane) ∧ W.cell? ⟨g, 6, none⟩ = some (.int .i64 t.round) ∧ W.cell? ⟨g, 7, none⟩ = some (.int .i64 t.turn) := by
  have hl := Tx.cells_length ht
  exact ⟨h.cell 0 (by omega), h.cell 1 (by omega), h.cell 2 (by omega), h.cell 3 (by omega), h.cell 4 (by omega), h.cell 5 (by omega), h.cell 6 (by omega), h.cell 7 (by omega)⟩
theorem tx_below {w w1 : World} {o : Obj} (h : (w.alloc o).grownBy w1 none) : Below w.heap.size w w1 := ((Below.refl w.heap.size w).alloc (Nat.le_refl _) o).grown h (by simp) (fun k hk => by cases hk)
theorem Tx.err_c20a {t : Tx} (h1 : Tx.acct t.frm = false) : t.err = 20 := by
  unfold Tx.err
  rw [if_pos (.inl h1)]
theorem Tx.err_c20b {t : Tx} (h1 : Tx.acct t.frm = true) (h2 : Tx.acct t.to = false) : t.err = 20 := by
  unfold Tx.err
  rw [if_pos (.inr h2)]
theorem Tx.err_c2a {t : Tx} (h1 : Tx.acct t.frm = true) (h2 : Tx.acct t.to = true) (h3 : Tx.num t.nonce = false) : t.err = 2 := by
  unfold Tx.err
  rw [if_neg (by rw [h1, h2]; simp), if_pos (.inl h3)]
theorem Tx.err_c2b {t : Tx} (h1 : Tx.acct t.frm = true) (h2 : Tx.acct t.to = true) (h3 : Tx.num t.nonce = true) (h4 : Tx.num t.fee = false) : t.err = 2 := by
  unfold Tx.err
  rw [if_neg (by rw [h1, h2]; simp), if_pos (.inr h4)]
theorem Tx.err_c2c {t : Tx} (h1 : Tx.acct t.frm = true) (h2 : Tx.acct t.to = true) (h3 : Tx.num t.nonce = true) (h4 : Tx.num t.fee = true) (h5 : t.lane = true) (h6 : Tx.num t.round = false) : t.err = 2 := by
  unfold Tx.err
  rw [if_neg (by rw [h1, h2]; simp), if_neg (by rw [h3, h4]; simp), if_pos (.inl ⟨h5, .inl h6⟩)]
theorem Tx.err_c2d {t : Tx} (h1 : Tx.acct t.frm = true) (h2 : Tx.acct t.to = true) (h3 : Tx.num t.nonce = true) (h4 : Tx.num t.fee = true) (h5 : t.lane = true) (h6 : Tx.num t.round = true) (h7 : Tx.num t.turn = false) : t.err = 2 := by
  unfold Tx.err
  rw [if_neg (by rw [h1, h2]; simp), if_neg (by rw [h3, h4]; simp), if_pos (.inl ⟨h5, .inr h7⟩)]
theorem Tx.err_c2e {t : Tx} (h1 : Tx.acct t.frm = true) (h2 : Tx.acct t.to = true) (h3 : Tx.num t.nonce = true) (h4 : Tx.num t.fee = true) (h5 : t.lane = false) (h6 : t.plain = false) : t.err = 2 := by
  unfold Tx.err
  rw [if_neg (by rw [h1, h2]; simp), if_neg (by rw [h3, h4]; simp), if_pos (.inr ⟨h5, h6⟩)]
theorem Tx.err_c3l {t : Tx} (h1 : Tx.acct t.frm = true) (h2 : Tx.acct t.to = true) (h3 : Tx.num t.nonce = true) (h4 : Tx.num t.fee = true) (h5 : t.lane = true) (h6 : Tx.num t.round = true) (h7 : Tx.num t.turn = true) (h8 : 256 < t.data.size) : t.err = 3 := by
  unfold Tx.err
  rw [if_neg (by rw [h1, h2]; simp), if_neg (by rw [h3, h4]; simp), if_neg (by rw [h5, h6, h7]; simp), if_pos h8]
theorem Tx.err_c0l {t : Tx} (h1 : Tx.acct t.frm = true) (h2 : Tx.acct t.to = true) (h3 : Tx.num t.nonce = true) (h4 : Tx.num t.fee = true) (h5 : t.lane = true) (h6 : Tx.num t.round = true) (h7 : Tx.num t.turn = true) (h8 : t.data.size ≤ 256) : t.err = 0 := by
  unfold Tx.err
  rw [if_neg (by rw [h1, h2]; simp), if_neg (by rw [h3, h4]; simp), if_neg (by rw [h5, h6, h7]; simp), if_neg (by omega)]
theorem Tx.err_c3p {t : Tx} (h1 : Tx.acct t.frm = true) (h2 : Tx.acct t.to = true) (h3 : Tx.num t.nonce = true) (h4 : Tx.num t.fee = true) (h5 : t.lane = false) (h6 : t.plain = true) (h8 : 256 < t.data.size) : t.err = 3 := by
  unfold Tx.err
  rw [if_neg (by rw [h1, h2]; simp), if_neg (by rw [h3, h4]; simp), if_neg (by rw [h5, h6]; simp), if_pos h8]
theorem Tx.err_c0p {t : Tx} (h1 : Tx.acct t.frm = true) (h2 : Tx.acct t.to = true) (h3 : Tx.num t.nonce = true) (h4 : Tx.num t.fee = true) (h5 : t.lane = false) (h6 : t.plain = true) (h8 : t.data.size ≤ 256) : t.err = 0 := by
  unfold Tx.err
  rw [if_neg (by rw [h1, h2]; simp), if_neg (by rw [h3, h4]; simp), if_neg (by rw [h5, h6]; simp), if_neg (by omega)]
set_option maxRecDepth 20000 in
theorem check4_c20a (t : Tx) (ht : t.Ok) (w : World) (h1 : Tx.acct t.frm = false) :
    Calls Try.prog 37 #[t.v] w fun e w' => e = .returned (.int .i64 20) ∧ Below w.heap.size w w' := by
  obtain ⟨c0, c1, c2, c3, c4, c5, c6, c7⟩ := tx_box ht (Row.new w 36 t.cells)
  have hrng := tx_range (Row.new w 36 t.cells)
  have hlen := Tx.cells_length ht
  have HL := Lib.hid hlen
  have Hrng := Lib.hid hrng
  have Hrow := Lib.hid (Row.new w 36 t.cells)
  have Ht := Lib.hid ht
  clear hlen hrng
  clear ht
  show Calls _ _ #[.agg t.cells.toArray] _ _
  go_enter Try.func37, Try.ntmps37
  go_wp2_with (first
    | (go_at_call 48; with_reducible refine (account_any _ _).mono ?_; rintro e w' ⟨rfl, rfl⟩)
    | (go_at_call 49; with_reducible refine (number4_any _ _).mono ?_; rintro e w' ⟨rfl, rfl⟩))
  go_ret
  exact ⟨rfl, tx_below (grownBy_refl _ _)⟩
set_option maxRecDepth 20000 in
theorem check4_c20b (t : Tx) (ht : t.Ok) (w : World) (h1 : Tx.acct t.frm = true) (h2 : Tx.acct t.to = false) :
    Calls Try.prog 37 #[t.v] w fun e w' => e = .returned (.int .i64 20) ∧ Below w.heap.size w w' := by
  obtain ⟨c0, c1, c2, c3, c4, c5, c6, c7⟩ := tx_box ht (Row.new w 36 t.cells)
  have hrng := tx_range (Row.new w 36 t.cells)
  have hlen := Tx.cells_length ht
  have HL := Lib.hid hlen
  have Hrng := Lib.hid hrng
  have Hrow := Lib.hid (Row.new w 36 t.cells)
  have Ht := Lib.hid ht
  clear hlen hrng
  clear ht
  show Calls _ _ #[.agg t.cells.toArray] _ _
  go_enter Try.func37, Try.ntmps37
  go_wp2_with (first
    | (go_at_call 48; with_reducible refine (account_any _ _).mono ?_; rintro e w' ⟨rfl, rfl⟩)
    | (go_at_call 49; with_reducible refine (number4_any _ _).mono ?_; rintro e w' ⟨rfl, rfl⟩))
  go_ret
  exact ⟨rfl, tx_below (grownBy_refl _ _)⟩
set_option maxRecDepth 20000 in
theorem check4_c2a (t : Tx) (ht : t.Ok) (w : World) (h1 : Tx.acct t.frm = true) (h2 : Tx.acct t.to = true) (h3 : Tx.num t.nonce = false) :
    Calls Try.prog 37 #[t.v] w fun e w' => e = .returned (.int .i64 2) ∧ Below w.heap.size w w' := by
  obtain ⟨c0, c1, c2, c3, c4, c5, c6, c7⟩ := tx_box ht (Row.new w 36 t.cells)
  have hrng := tx_range (Row.new w 36 t.cells)
  have hlen := Tx.cells_length ht
  have HL := Lib.hid hlen
  have Hrng := Lib.hid hrng
  have Hrow := Lib.hid (Row.new w 36 t.cells)
  have Ht := Lib.hid ht
  clear hlen hrng
  clear ht
  show Calls _ _ #[.agg t.cells.toArray] _ _
  go_enter Try.func37, Try.ntmps37
  go_wp2_with (first
    | (go_at_call 48; with_reducible refine (account_any _ _).mono ?_; rintro e w' ⟨rfl, rfl⟩)
    | (go_at_call 49; with_reducible refine (number4_any _ _).mono ?_; rintro e w' ⟨rfl, rfl⟩))
  go_ret
  exact ⟨rfl, tx_below (grownBy_refl _ _)⟩
set_option maxRecDepth 20000 in
theorem check4_c2b (t : Tx) (ht : t.Ok) (w : World) (h1 : Tx.acct t.frm = true) (h2 : Tx.acct t.to = true) (h3 : Tx.num t.nonce = true) (h4 : Tx.num t.fee = false) :
    Calls Try.prog 37 #[t.v] w fun e w' => e = .returned (.int .i64 2) ∧ Below w.heap.size w w' := by
  obtain ⟨c0, c1, c2, c3, c4, c5, c6, c7⟩ := tx_box ht (Row.new w 36 t.cells)
  have hrng := tx_range (Row.new w 36 t.cells)
  have hlen := Tx.cells_length ht
  have HL := Lib.hid hlen
  have Hrng := Lib.hid hrng
  have Hrow := Lib.hid (Row.new w 36 t.cells)
  have Ht := Lib.hid ht
  clear hlen hrng
  clear ht
  show Calls _ _ #[.agg t.cells.toArray] _ _
  go_enter Try.func37, Try.ntmps37
  go_wp2_with (first
    | (go_at_call 48; with_reducible refine (account_any _ _).mono ?_; rintro e w' ⟨rfl, rfl⟩)
    | (go_at_call 49; with_reducible refine (number4_any _ _).mono ?_; rintro e w' ⟨rfl, rfl⟩))
  go_ret
  exact ⟨rfl, tx_below (grownBy_refl _ _)⟩
set_option maxRecDepth 20000 in
theorem check4_c2c (t : Tx) (ht : t.Ok) (w : World) (h1 : Tx.acct t.frm = true) (h2 : Tx.acct t.to = true) (h3 : Tx.num t.nonce = true) (h4 : Tx.num t.fee = true) (h5 : t.lane = true) (h6 : Tx.num t.round = false) :
    Calls Try.prog 37 #[t.v] w fun e w' => e = .returned (.int .i64 2) ∧ Below w.heap.size w w' := by
  obtain ⟨c0, c1, c2, c3, c4, c5, c6, c7⟩ := tx_box ht (Row.new w 36 t.cells)
  have hrng := tx_range (Row.new w 36 t.cells)
  have hlen := Tx.cells_length ht
  have HL := Lib.hid hlen
  have Hrng := Lib.hid hrng
  have Hrow := Lib.hid (Row.new w 36 t.cells)
  have Ht := Lib.hid ht
  clear hlen hrng
  clear ht
  show Calls _ _ #[.agg t.cells.toArray] _ _
  go_enter Try.func37, Try.ntmps37
  go_wp2_with (first
    | (go_at_call 48; with_reducible refine (account_any _ _).mono ?_; rintro e w' ⟨rfl, rfl⟩)
    | (go_at_call 49; with_reducible refine (number4_any _ _).mono ?_; rintro e w' ⟨rfl, rfl⟩))
  go_ret
  exact ⟨rfl, tx_below (grownBy_refl _ _)⟩
set_option maxRecDepth 20000 in
theorem check4_c2d (t : Tx) (ht : t.Ok) (w : World) (h1 : Tx.acct t.frm = true) (h2 : Tx.acct t.to = true) (h3 : Tx.num t.nonce = true) (h4 : Tx.num t.fee = true) (h5 : t.lane = true) (h6 : Tx.num t.round = true) (h7 : Tx.num t.turn = false) :
    Calls Try.prog 37 #[t.v] w fun e w' => e = .returned (.int .i64 2) ∧ Below w.heap.size w w' := by
  obtain ⟨c0, c1, c2, c3, c4, c5, c6, c7⟩ := tx_box ht (Row.new w 36 t.cells)
  have hrng := tx_range (Row.new w 36 t.cells)
  have hlen := Tx.cells_length ht
  have HL := Lib.hid hlen
  have Hrng := Lib.hid hrng
  have Hrow := Lib.hid (Row.new w 36 t.cells)
  have Ht := Lib.hid ht
  clear hlen hrng
  clear ht
  show Calls _ _ #[.agg t.cells.toArray] _ _
  go_enter Try.func37, Try.ntmps37
  go_wp2_with (first
    | (go_at_call 48; with_reducible refine (account_any _ _).mono ?_; rintro e w' ⟨rfl, rfl⟩)
    | (go_at_call 49; with_reducible refine (number4_any _ _).mono ?_; rintro e w' ⟨rfl, rfl⟩))
  go_ret
  exact ⟨rfl, tx_below (grownBy_refl _ _)⟩
set_option maxRecDepth 20000 in
theorem check4_c2e (t : Tx) (ht : t.Ok) (w : World) (h1 : Tx.acct t.frm = true) (h2 : Tx.acct t.to = true) (h3 : Tx.num t.nonce = true) (h4 : Tx.num t.fee = true) (h5 : t.lane = false) (h6 : t.plain = false) :
    Calls Try.prog 37 #[t.v] w fun e w' => e = .returned (.int .i64 2) ∧ Below w.heap.size w w' := by
  obtain ⟨c0, c1, c2, c3, c4, c5, c6, c7⟩ := tx_box ht (Row.new w 36 t.cells)
  have hrng := tx_range (Row.new w 36 t.cells)
  have hlen := Tx.cells_length ht
  have HL := Lib.hid hlen
  have Hrng := Lib.hid hrng
  have Hrow := Lib.hid (Row.new w 36 t.cells)
  have Ht := Lib.hid ht
  clear hlen hrng
  have PL : Hid (∀ W, Calls Try.prog 50 #[.agg t.cells.toArray] W fun e w' => e = .returned (.bool t.plain) ∧ W.grownBy w' none) := fun W => plain_any t Ht.out h5 W
  clear ht
  show Calls _ _ #[.agg t.cells.toArray] _ _
  go_enter Try.func37, Try.ntmps37
  go_wp2_with (first
    | (go_at_call 48; with_reducible refine (account_any _ _).mono ?_; rintro e w' ⟨rfl, rfl⟩)
    | (go_at_call 49; with_reducible refine (number4_any _ _).mono ?_; rintro e w' ⟨rfl, rfl⟩)
    | (with_reducible show wpList _ _ _ (⟨_, .load 36 _, _, _, _, _⟩ :: _) _ _; refine wpList_load_tx rfl 36 (.tmp 1) rfl w.heap.size 0 rfl t.cells _ Hrng.out Try.underlying36 rfl (by rw [tx_info, HL.out]) ?_)
    | (go_at_call 50; refine (PL.out _).mono ?_; rintro e w1 ⟨rfl, hg1⟩
       have c4' := hg1.cell c4 (by simp)
       have Hg1 := Lib.hid hg1
       clear hg1 c0 c1 c2 c3 c4 c5 c6 c7))
  go_ret
  exact ⟨rfl, tx_below Hg1.out⟩
set_option maxRecDepth 20000 in
theorem check4_c3l (t : Tx) (ht : t.Ok) (w : World) (h1 : Tx.acct t.frm = true) (h2 : Tx.acct t.to = true) (h3 : Tx.num t.nonce = true) (h4 : Tx.num t.fee = true) (h5 : t.lane = true) (h6 : Tx.num t.round = true) (h7 : Tx.num t.turn = true) (h8 : 256 < t.data.size) :
    Calls Try.prog 37 #[t.v] w fun e w' => e = .returned (.int .i64 3) ∧ Below w.heap.size w w' := by
  obtain ⟨c0, c1, c2, c3, c4, c5, c6, c7⟩ := tx_box ht (Row.new w 36 t.cells)
  have hrng := tx_range (Row.new w 36 t.cells)
  have hlen := Tx.cells_length ht
  have HL := Lib.hid hlen
  have Hrng := Lib.hid hrng
  have Hrow := Lib.hid (Row.new w 36 t.cells)
  have Ht := Lib.hid ht
  clear hlen hrng
  have h8' : (256 : Int) < (t.data.size : Int) := by omega
  clear ht
  show Calls _ _ #[.agg t.cells.toArray] _ _
  go_enter Try.func37, Try.ntmps37
  go_wp2_with (first
    | (go_at_call 48; with_reducible refine (account_any _ _).mono ?_; rintro e w' ⟨rfl, rfl⟩)
    | (go_at_call 49; with_reducible refine (number4_any _ _).mono ?_; rintro e w' ⟨rfl, rfl⟩))
  go_ret
  exact ⟨rfl, tx_below (grownBy_refl _ _)⟩
set_option maxRecDepth 20000 in
theorem check4_c0l (t : Tx) (ht : t.Ok) (w : World) (h1 : Tx.acct t.frm = true) (h2 : Tx.acct t.to = true) (h3 : Tx.num t.nonce = true) (h4 : Tx.num t.fee = true) (h5 : t.lane = true) (h6 : Tx.num t.round = true) (h7 : Tx.num t.turn = true) (h8 : t.data.size ≤ 256) :
    Calls Try.prog 37 #[t.v] w fun e w' => e = .returned (.int .i64 0) ∧ Below w.heap.size w w' := by
  obtain ⟨c0, c1, c2, c3, c4, c5, c6, c7⟩ := tx_box ht (Row.new w 36 t.cells)
  have hrng := tx_range (Row.new w 36 t.cells)
  have hlen := Tx.cells_length ht
  have HL := Lib.hid hlen
  have Hrng := Lib.hid hrng
  have Hrow := Lib.hid (Row.new w 36 t.cells)
  have Ht := Lib.hid ht
  clear hlen hrng
  have h8' : (t.data.size : Int) ≤ 256 := by omega
  clear ht
  show Calls _ _ #[.agg t.cells.toArray] _ _
  go_enter Try.func37, Try.ntmps37
  go_wp2_with (first
    | (go_at_call 48; with_reducible refine (account_any _ _).mono ?_; rintro e w' ⟨rfl, rfl⟩)
    | (go_at_call 49; with_reducible refine (number4_any _ _).mono ?_; rintro e w' ⟨rfl, rfl⟩))
  go_ret
  exact ⟨rfl, tx_below (grownBy_refl _ _)⟩
set_option maxRecDepth 20000 in
theorem check4_c3p (t : Tx) (ht : t.Ok) (w : World) (h1 : Tx.acct t.frm = true) (h2 : Tx.acct t.to = true) (h3 : Tx.num t.nonce = true) (h4 : Tx.num t.fee = true) (h5 : t.lane = false) (h6 : t.plain = true) (h8 : 256 < t.data.size) :
    Calls Try.prog 37 #[t.v] w fun e w' => e = .returned (.int .i64 3) ∧ Below w.heap.size w w' := by
  obtain ⟨c0, c1, c2, c3, c4, c5, c6, c7⟩ := tx_box ht (Row.new w 36 t.cells)
  have hrng := tx_range (Row.new w 36 t.cells)
  have hlen := Tx.cells_length ht
  have HL := Lib.hid hlen
  have Hrng := Lib.hid hrng
  have Hrow := Lib.hid (Row.new w 36 t.cells)
  have Ht := Lib.hid ht
  clear hlen hrng
  have PL : Hid (∀ W, Calls Try.prog 50 #[.agg t.cells.toArray] W fun e w' => e = .returned (.bool t.plain) ∧ W.grownBy w' none) := fun W => plain_any t Ht.out h5 W
  have h8' : (256 : Int) < (t.data.size : Int) := by omega
  clear ht
  show Calls _ _ #[.agg t.cells.toArray] _ _
  go_enter Try.func37, Try.ntmps37
  go_wp2_with (first
    | (go_at_call 48; with_reducible refine (account_any _ _).mono ?_; rintro e w' ⟨rfl, rfl⟩)
    | (go_at_call 49; with_reducible refine (number4_any _ _).mono ?_; rintro e w' ⟨rfl, rfl⟩)
    | (with_reducible show wpList _ _ _ (⟨_, .load 36 _, _, _, _, _⟩ :: _) _ _; refine wpList_load_tx rfl 36 (.tmp 1) rfl w.heap.size 0 rfl t.cells _ Hrng.out Try.underlying36 rfl (by rw [tx_info, HL.out]) ?_)
    | (go_at_call 50; refine (PL.out _).mono ?_; rintro e w1 ⟨rfl, hg1⟩
       have c4' := hg1.cell c4 (by simp)
       have Hg1 := Lib.hid hg1
       clear hg1 c0 c1 c2 c3 c4 c5 c6 c7))
  go_ret
  exact ⟨rfl, tx_below Hg1.out⟩
set_option maxRecDepth 20000 in
theorem check4_c0p (t : Tx) (ht : t.Ok) (w : World) (h1 : Tx.acct t.frm = true) (h2 : Tx.acct t.to = true) (h3 : Tx.num t.nonce = true) (h4 : Tx.num t.fee = true) (h5 : t.lane = false) (h6 : t.plain = true) (h8 : t.data.size ≤ 256) :
    Calls Try.prog 37 #[t.v] w fun e w' => e = .returned (.int .i64 0) ∧ Below w.heap.size w w' := by
  obtain ⟨c0, c1, c2, c3, c4, c5, c6, c7⟩ := tx_box ht (Row.new w 36 t.cells)
  have hrng := tx_range (Row.new w 36 t.cells)
  have hlen := Tx.cells_length ht
  have HL := Lib.hid hlen
  have Hrng := Lib.hid hrng
  have Hrow := Lib.hid (Row.new w 36 t.cells)
  have Ht := Lib.hid ht
  clear hlen hrng
  have PL : Hid (∀ W, Calls Try.prog 50 #[.agg t.cells.toArray] W fun e w' => e = .returned (.bool t.plain) ∧ W.grownBy w' none) := fun W => plain_any t Ht.out h5 W
  have h8' : (t.data.size : Int) ≤ 256 := by omega
  clear ht
  show Calls _ _ #[.agg t.cells.toArray] _ _
  go_enter Try.func37, Try.ntmps37
  go_wp2_with (first
    | (go_at_call 48; with_reducible refine (account_any _ _).mono ?_; rintro e w' ⟨rfl, rfl⟩)
    | (go_at_call 49; with_reducible refine (number4_any _ _).mono ?_; rintro e w' ⟨rfl, rfl⟩)
    | (with_reducible show wpList _ _ _ (⟨_, .load 36 _, _, _, _, _⟩ :: _) _ _; refine wpList_load_tx rfl 36 (.tmp 1) rfl w.heap.size 0 rfl t.cells _ Hrng.out Try.underlying36 rfl (by rw [tx_info, HL.out]) ?_)
    | (go_at_call 50; refine (PL.out _).mono ?_; rintro e w1 ⟨rfl, hg1⟩
       have c4' := hg1.cell c4 (by simp)
       have Hg1 := Lib.hid hg1
       clear hg1 c0 c1 c2 c3 c4 c5 c6 c7))
  go_ret
  exact ⟨rfl, tx_below Hg1.out⟩
theorem check4_any (t : Tx) (ht : t.Ok) (w : World) :
    Calls Try.prog 37 #[t.v] w fun e w' => e = .returned (.int .i64 t.err) ∧ Below w.heap.size w w' := by
  rcases Bool.eq_false_or_eq_true (Tx.acct t.frm) with h1 | h1
  · rcases Bool.eq_false_or_eq_true (Tx.acct t.to) with h2 | h2
    · rcases Bool.eq_false_or_eq_true (Tx.num t.nonce) with h3 | h3
      · rcases Bool.eq_false_or_eq_true (Tx.num t.fee) with h4 | h4
        · rcases Bool.eq_false_or_eq_true t.lane with h5 | h5
          · rcases Bool.eq_false_or_eq_true (Tx.num t.round) with h6 | h6
            · rcases Bool.eq_false_or_eq_true (Tx.num t.turn) with h7 | h7
              · rcases Nat.lt_or_ge 256 t.data.size with h8 | h8
                · rw [Tx.err_c3l h1 h2 h3 h4 h5 h6 h7 h8]; exact check4_c3l t ht w h1 h2 h3 h4 h5 h6 h7 h8
                · rw [Tx.err_c0l h1 h2 h3 h4 h5 h6 h7 h8]; exact check4_c0l t ht w h1 h2 h3 h4 h5 h6 h7 h8
              · rw [Tx.err_c2d h1 h2 h3 h4 h5 h6 h7]; exact check4_c2d t ht w h1 h2 h3 h4 h5 h6 h7
            · rw [Tx.err_c2c h1 h2 h3 h4 h5 h6]; exact check4_c2c t ht w h1 h2 h3 h4 h5 h6
          · rcases Bool.eq_false_or_eq_true t.plain with h6 | h6
            · rcases Nat.lt_or_ge 256 t.data.size with h8 | h8
              · rw [Tx.err_c3p h1 h2 h3 h4 h5 h6 h8]; exact check4_c3p t ht w h1 h2 h3 h4 h5 h6 h8
              · rw [Tx.err_c0p h1 h2 h3 h4 h5 h6 h8]; exact check4_c0p t ht w h1 h2 h3 h4 h5 h6 h8
            · rw [Tx.err_c2e h1 h2 h3 h4 h5 h6]; exact check4_c2e t ht w h1 h2 h3 h4 h5 h6
        · rw [Tx.err_c2b h1 h2 h3 h4]; exact check4_c2b t ht w h1 h2 h3 h4
      · rw [Tx.err_c2a h1 h2 h3]; exact check4_c2a t ht w h1 h2 h3
    · rw [Tx.err_c20b h1 h2]; exact check4_c20b t ht w h1 h2
  · rw [Tx.err_c20a h1]; exact check4_c20a t ht w h1
theorem within63 (n : Int) (w : World) : Calls Try.prog 45 #[.int .i64 n, .int .i64 63] w fun e w' => e = .returned (.bool (Tx.acct n)) ∧ w = w' := within4_any n 63 w
theorem within40 (n : Int) (w : World) : Calls Try.prog 45 #[.int .i64 n, .int .i64 1099511627776] w fun e w' => e = .returned (.bool (Tx.num n)) ∧ w = w' := within4_any n 1099511627776 w
theorem zero_lit : bRow Tx.zero = #[.int .u8 0, .int .u8 0, .int .u8 0, .int .u8 0, .int .u8 0, .int .u8 0, .int .u8 0, .int .u8 0, .int .u8 0, .int .u8 0, .int .u8 0, .int .u8 0, .int .u8 0, .int .u8 0, .int .u8 0, .int .u8 0, .int .u8 0, .int .u8 0, .int .u8 0, .int .u8 0, .int .u8 0, .int .u8 0, .int .u8 0, .int .u8 0, .int .u8 0, .int .u8 0, .int .u8 0, .int .u8 0, .int .u8 0, .int .u8 0, .int .u8 0, .int .u8 0] := by kernel_rfl
set_option maxRecDepth 20000 in
theorem rcheck4_c20a (t : Tx) (ht : t.Ok) (w : World) (h1 : Tx.acct t.frm = false)  :
    Calls Try.prog 30 #[t.v] w fun e w' => e = .returned (.int .i64 20) ∧ Below w.heap.size w w' := by
  obtain ⟨c0, c1, c2, c3, c4, c5, c6, c7⟩ := tx_box ht (Row.new w 36 t.cells)
  have hrng := tx_range (Row.new w 36 t.cells)
  have hlen := Tx.cells_length ht
  have HL := Lib.hid hlen
  have Hrng := Lib.hid hrng
  have Hrow := Lib.hid (Row.new w 36 t.cells)
  have Ht := Lib.hid ht
  clear hlen hrng
  clear ht
  show Calls _ _ #[.agg t.cells.toArray] _ _
  go_enter Try.func30, Try.ntmps30
  go_wp2_with (first
    | (go_at_call 45; with_reducible refine (within63 _ _).mono ?_; rintro e w' ⟨rfl, rfl⟩)
    | (go_at_call 45; with_reducible refine (within40 _ _).mono ?_; rintro e w' ⟨rfl, rfl⟩))
  go_ret
  exact ⟨rfl, tx_below (grownBy_refl _ _)⟩
set_option maxRecDepth 20000 in
theorem rcheck4_c20b (t : Tx) (ht : t.Ok) (w : World) (h1 : Tx.acct t.frm = true) (h2 : Tx.acct t.to = false)  :
    Calls Try.prog 30 #[t.v] w fun e w' => e = .returned (.int .i64 20) ∧ Below w.heap.size w w' := by
  obtain ⟨c0, c1, c2, c3, c4, c5, c6, c7⟩ := tx_box ht (Row.new w 36 t.cells)
  have hrng := tx_range (Row.new w 36 t.cells)
  have hlen := Tx.cells_length ht
  have HL := Lib.hid hlen
  have Hrng := Lib.hid hrng
  have Hrow := Lib.hid (Row.new w 36 t.cells)
  have Ht := Lib.hid ht
  clear hlen hrng
  clear ht
  show Calls _ _ #[.agg t.cells.toArray] _ _
  go_enter Try.func30, Try.ntmps30
  go_wp2_with (first
    | (go_at_call 45; with_reducible refine (within63 _ _).mono ?_; rintro e w' ⟨rfl, rfl⟩)
    | (go_at_call 45; with_reducible refine (within40 _ _).mono ?_; rintro e w' ⟨rfl, rfl⟩))
  go_ret
  exact ⟨rfl, tx_below (grownBy_refl _ _)⟩
set_option maxRecDepth 20000 in
theorem rcheck4_c2a (t : Tx) (ht : t.Ok) (w : World) (h1 : Tx.acct t.frm = true) (h2 : Tx.acct t.to = true) (h3 : Tx.num t.nonce = false)  :
    Calls Try.prog 30 #[t.v] w fun e w' => e = .returned (.int .i64 2) ∧ Below w.heap.size w w' := by
  obtain ⟨c0, c1, c2, c3, c4, c5, c6, c7⟩ := tx_box ht (Row.new w 36 t.cells)
  have hrng := tx_range (Row.new w 36 t.cells)
  have hlen := Tx.cells_length ht
  have HL := Lib.hid hlen
  have Hrng := Lib.hid hrng
  have Hrow := Lib.hid (Row.new w 36 t.cells)
  have Ht := Lib.hid ht
  clear hlen hrng
  clear ht
  show Calls _ _ #[.agg t.cells.toArray] _ _
  go_enter Try.func30, Try.ntmps30
  go_wp2_with (first
    | (go_at_call 45; with_reducible refine (within63 _ _).mono ?_; rintro e w' ⟨rfl, rfl⟩)
    | (go_at_call 45; with_reducible refine (within40 _ _).mono ?_; rintro e w' ⟨rfl, rfl⟩))
  go_ret
  exact ⟨rfl, tx_below (grownBy_refl _ _)⟩
set_option maxRecDepth 20000 in
theorem rcheck4_c2b (t : Tx) (ht : t.Ok) (w : World) (h1 : Tx.acct t.frm = true) (h2 : Tx.acct t.to = true) (h3 : Tx.num t.nonce = true) (h4 : Tx.num t.fee = false)  :
    Calls Try.prog 30 #[t.v] w fun e w' => e = .returned (.int .i64 2) ∧ Below w.heap.size w w' := by
  obtain ⟨c0, c1, c2, c3, c4, c5, c6, c7⟩ := tx_box ht (Row.new w 36 t.cells)
  have hrng := tx_range (Row.new w 36 t.cells)
  have hlen := Tx.cells_length ht
  have HL := Lib.hid hlen
  have Hrng := Lib.hid hrng
  have Hrow := Lib.hid (Row.new w 36 t.cells)
  have Ht := Lib.hid ht
  clear hlen hrng
  clear ht
  show Calls _ _ #[.agg t.cells.toArray] _ _
  go_enter Try.func30, Try.ntmps30
  go_wp2_with (first
    | (go_at_call 45; with_reducible refine (within63 _ _).mono ?_; rintro e w' ⟨rfl, rfl⟩)
    | (go_at_call 45; with_reducible refine (within40 _ _).mono ?_; rintro e w' ⟨rfl, rfl⟩))
  go_ret
  exact ⟨rfl, tx_below (grownBy_refl _ _)⟩
set_option maxRecDepth 20000 in
theorem rcheck4_c2c (t : Tx) (ht : t.Ok) (w : World) (h1 : Tx.acct t.frm = true) (h2 : Tx.acct t.to = true) (h3 : Tx.num t.nonce = true) (h4 : Tx.num t.fee = true) (h5 : t.lane = true) (h6 : Tx.num t.round = false)  :
    Calls Try.prog 30 #[t.v] w fun e w' => e = .returned (.int .i64 2) ∧ Below w.heap.size w w' := by
  obtain ⟨c0, c1, c2, c3, c4, c5, c6, c7⟩ := tx_box ht (Row.new w 36 t.cells)
  have hrng := tx_range (Row.new w 36 t.cells)
  have hlen := Tx.cells_length ht
  have HL := Lib.hid hlen
  have Hrng := Lib.hid hrng
  have Hrow := Lib.hid (Row.new w 36 t.cells)
  have Ht := Lib.hid ht
  clear hlen hrng
  clear ht
  show Calls _ _ #[.agg t.cells.toArray] _ _
  go_enter Try.func30, Try.ntmps30
  go_wp2_with (first
    | (go_at_call 45; with_reducible refine (within63 _ _).mono ?_; rintro e w' ⟨rfl, rfl⟩)
    | (go_at_call 45; with_reducible refine (within40 _ _).mono ?_; rintro e w' ⟨rfl, rfl⟩))
  go_ret
  exact ⟨rfl, tx_below (grownBy_refl _ _)⟩
set_option maxRecDepth 20000 in
theorem rcheck4_c2d (t : Tx) (ht : t.Ok) (w : World) (h1 : Tx.acct t.frm = true) (h2 : Tx.acct t.to = true) (h3 : Tx.num t.nonce = true) (h4 : Tx.num t.fee = true) (h5 : t.lane = true) (h6 : Tx.num t.round = true) (h7 : Tx.num t.turn = false)  :
    Calls Try.prog 30 #[t.v] w fun e w' => e = .returned (.int .i64 2) ∧ Below w.heap.size w w' := by
  obtain ⟨c0, c1, c2, c3, c4, c5, c6, c7⟩ := tx_box ht (Row.new w 36 t.cells)
  have hrng := tx_range (Row.new w 36 t.cells)
  have hlen := Tx.cells_length ht
  have HL := Lib.hid hlen
  have Hrng := Lib.hid hrng
  have Hrow := Lib.hid (Row.new w 36 t.cells)
  have Ht := Lib.hid ht
  clear hlen hrng
  clear ht
  show Calls _ _ #[.agg t.cells.toArray] _ _
  go_enter Try.func30, Try.ntmps30
  go_wp2_with (first
    | (go_at_call 45; with_reducible refine (within63 _ _).mono ?_; rintro e w' ⟨rfl, rfl⟩)
    | (go_at_call 45; with_reducible refine (within40 _ _).mono ?_; rintro e w' ⟨rfl, rfl⟩))
  go_ret
  exact ⟨rfl, tx_below (grownBy_refl _ _)⟩
set_option maxRecDepth 20000 in
theorem rcheck4x_c2er (t : Tx) (ht : t.Ok) (w : World) (h1 : Tx.acct t.frm = true) (h2 : Tx.acct t.to = true) (h3 : Tx.num t.nonce = true) (h4 : Tx.num t.fee = true) (h5 : t.lane = false)  (k1 : (t.round == 0) = false) :
    Calls Try.prog 30 #[t.v] w fun e w' => e = .returned (.int .i64 2) ∧ Below w.heap.size w w' := by
  obtain ⟨c0, c1, c2, c3, c4, c5, c6, c7⟩ := tx_box ht (Row.new w 36 t.cells)
  have hrng := tx_range (Row.new w 36 t.cells)
  have hlen := Tx.cells_length ht
  have HL := Lib.hid hlen
  have Hrng := Lib.hid hrng
  have Hrow := Lib.hid (Row.new w 36 t.cells)
  have Ht := Lib.hid ht
  clear hlen hrng
  have Hby := Lib.hid (tx_hash_at Ht.out Hrow.out).1
  have Hb32 := Lib.hid (Tx.bRow_len _ Ht.out.bY)
  have k1' : (t.round != 0) = true := by simpa using k1
  clear ht
  show Calls _ _ #[.agg t.cells.toArray] _ _
  go_enter Try.func30, Try.ntmps30
  go_wp2_with (first
    | (go_at_call 45; with_reducible refine (within63 _ _).mono ?_; rintro e w' ⟨rfl, rfl⟩)
    | (go_at_call 45; with_reducible refine (within40 _ _).mono ?_; rintro e w' ⟨rfl, rfl⟩))
  go_ret
  exact ⟨rfl, tx_below (grownBy_refl _ _)⟩
set_option maxRecDepth 20000 in
theorem rcheck4x_c2et (t : Tx) (ht : t.Ok) (w : World) (h1 : Tx.acct t.frm = true) (h2 : Tx.acct t.to = true) (h3 : Tx.num t.nonce = true) (h4 : Tx.num t.fee = true) (h5 : t.lane = false)  (k1 : (t.round == 0) = true) (k2 : (t.turn == 0) = false) :
    Calls Try.prog 30 #[t.v] w fun e w' => e = .returned (.int .i64 2) ∧ Below w.heap.size w w' := by
  obtain ⟨c0, c1, c2, c3, c4, c5, c6, c7⟩ := tx_box ht (Row.new w 36 t.cells)
  have hrng := tx_range (Row.new w 36 t.cells)
  have hlen := Tx.cells_length ht
  have HL := Lib.hid hlen
  have Hrng := Lib.hid hrng
  have Hrow := Lib.hid (Row.new w 36 t.cells)
  have Ht := Lib.hid ht
  clear hlen hrng
  have Hby := Lib.hid (tx_hash_at Ht.out Hrow.out).1
  have Hb32 := Lib.hid (Tx.bRow_len _ Ht.out.bY)
  have k1' : (t.round != 0) = false := by simpa using k1
  have k2' : (t.turn != 0) = true := by simpa using k2
  clear ht
  show Calls _ _ #[.agg t.cells.toArray] _ _
  go_enter Try.func30, Try.ntmps30
  go_wp2_with (first
    | (go_at_call 45; with_reducible refine (within63 _ _).mono ?_; rintro e w' ⟨rfl, rfl⟩)
    | (go_at_call 45; with_reducible refine (within40 _ _).mono ?_; rintro e w' ⟨rfl, rfl⟩))
  go_ret
  exact ⟨rfl, tx_below (grownBy_refl _ _)⟩
set_option maxRecDepth 20000 in
theorem rcheck4x_c2eb (t : Tx) (ht : t.Ok) (w : World) (h1 : Tx.acct t.frm = true) (h2 : Tx.acct t.to = true) (h3 : Tx.num t.nonce = true) (h4 : Tx.num t.fee = true) (h5 : t.lane = false)  (k1 : (t.round == 0) = true) (k2 : (t.turn == 0) = true) (k3 : t.bY ≠ Tx.zero) :
    Calls Try.prog 30 #[t.v] w fun e w' => e = .returned (.int .i64 2) ∧ Below w.heap.size w w' := by
  obtain ⟨c0, c1, c2, c3, c4, c5, c6, c7⟩ := tx_box ht (Row.new w 36 t.cells)
  have hrng := tx_range (Row.new w 36 t.cells)
  have hlen := Tx.cells_length ht
  have HL := Lib.hid hlen
  have Hrng := Lib.hid hrng
  have Hrow := Lib.hid (Row.new w 36 t.cells)
  have Ht := Lib.hid ht
  clear hlen hrng
  have Hby := Lib.hid (tx_hash_at Ht.out Hrow.out).1
  have Hb32 := Lib.hid (Tx.bRow_len _ Ht.out.bY)
  have k1' : (t.round != 0) = false := by simpa using k1
  have k2' : (t.turn != 0) = false := by simpa using k2
  have heqs : ∀ W, (Op.equalIn 10000 34 (.agg (bRow t.bY)) (.agg #[.int .u8 0, .int .u8 0, .int .u8 0, .int .u8 0, .int .u8 0, .int .u8 0, .int .u8 0, .int .u8 0, .int .u8 0, .int .u8 0, .int .u8 0, .int .u8 0, .int .u8 0, .int .u8 0, .int .u8 0, .int .u8 0, .int .u8 0, .int .u8 0, .int .u8 0, .int .u8 0, .int .u8 0, .int .u8 0, .int .u8 0, .int .u8 0, .int .u8 0, .int .u8 0, .int .u8 0, .int .u8 0, .int .u8 0, .int .u8 0, .int .u8 0, .int .u8 0])).run Try.prog W = .ok false W := fun W => by rw [← zero_lit]; exact (hash_eq W t.bY Tx.zero Ht.out.bY rfl).trans (by rw [decide_eq_false k3])
  clear k3
  clear ht
  show Calls _ _ #[.agg t.cells.toArray] _ _
  go_enter Try.func30, Try.ntmps30
  go_wp2_with (first
    | (go_at_call 45; with_reducible refine (within63 _ _).mono ?_; rintro e w' ⟨rfl, rfl⟩)
    | (go_at_call 45; with_reducible refine (within40 _ _).mono ?_; rintro e w' ⟨rfl, rfl⟩)
    | (with_reducible show wpList _ _ _ (⟨_, .load 34 _, _, _, _, _⟩ :: _) _ _; refine wpList_load_tx rfl 34 (.tmp 44) rfl w.heap.size 8 rfl (bRow t.bY).toList _ Hby.out Try.underlying34 rfl (by rw [hash_info, Hb32.out]) ?_))
  go_ret
  exact ⟨rfl, tx_below (grownBy_refl _ _)⟩
set_option maxRecDepth 20000 in
theorem rcheck4_c3l (t : Tx) (ht : t.Ok) (w : World) (h1 : Tx.acct t.frm = true) (h2 : Tx.acct t.to = true) (h3 : Tx.num t.nonce = true) (h4 : Tx.num t.fee = true) (h5 : t.lane = true) (h6 : Tx.num t.round = true) (h7 : Tx.num t.turn = true) (h8 : 256 < t.data.size)  :
    Calls Try.prog 30 #[t.v] w fun e w' => e = .returned (.int .i64 3) ∧ Below w.heap.size w w' := by
  obtain ⟨c0, c1, c2, c3, c4, c5, c6, c7⟩ := tx_box ht (Row.new w 36 t.cells)
  have hrng := tx_range (Row.new w 36 t.cells)
  have hlen := Tx.cells_length ht
  have HL := Lib.hid hlen
  have Hrng := Lib.hid hrng
  have Hrow := Lib.hid (Row.new w 36 t.cells)
  have Ht := Lib.hid ht
  clear hlen hrng
  have h8' : (256 : Int) < (t.data.size : Int) := by omega
  clear ht
  show Calls _ _ #[.agg t.cells.toArray] _ _
  go_enter Try.func30, Try.ntmps30
  go_wp2_with (first
    | (go_at_call 45; with_reducible refine (within63 _ _).mono ?_; rintro e w' ⟨rfl, rfl⟩)
    | (go_at_call 45; with_reducible refine (within40 _ _).mono ?_; rintro e w' ⟨rfl, rfl⟩))
  go_ret
  exact ⟨rfl, tx_below (grownBy_refl _ _)⟩
set_option maxRecDepth 20000 in
theorem rcheck4_c0l (t : Tx) (ht : t.Ok) (w : World) (h1 : Tx.acct t.frm = true) (h2 : Tx.acct t.to = true) (h3 : Tx.num t.nonce = true) (h4 : Tx.num t.fee = true) (h5 : t.lane = true) (h6 : Tx.num t.round = true) (h7 : Tx.num t.turn = true) (h8 : t.data.size ≤ 256)  :
    Calls Try.prog 30 #[t.v] w fun e w' => e = .returned (.int .i64 0) ∧ Below w.heap.size w w' := by
  obtain ⟨c0, c1, c2, c3, c4, c5, c6, c7⟩ := tx_box ht (Row.new w 36 t.cells)
  have hrng := tx_range (Row.new w 36 t.cells)
  have hlen := Tx.cells_length ht
  have HL := Lib.hid hlen
  have Hrng := Lib.hid hrng
  have Hrow := Lib.hid (Row.new w 36 t.cells)
  have Ht := Lib.hid ht
  clear hlen hrng
  have h8' : (t.data.size : Int) ≤ 256 := by omega
  clear ht
  show Calls _ _ #[.agg t.cells.toArray] _ _
  go_enter Try.func30, Try.ntmps30
  go_wp2_with (first
    | (go_at_call 45; with_reducible refine (within63 _ _).mono ?_; rintro e w' ⟨rfl, rfl⟩)
    | (go_at_call 45; with_reducible refine (within40 _ _).mono ?_; rintro e w' ⟨rfl, rfl⟩))
  go_ret
  exact ⟨rfl, tx_below (grownBy_refl _ _)⟩
set_option maxRecDepth 20000 in
theorem rcheck4x_c3p (t : Tx) (ht : t.Ok) (w : World) (h1 : Tx.acct t.frm = true) (h2 : Tx.acct t.to = true) (h3 : Tx.num t.nonce = true) (h4 : Tx.num t.fee = true) (h5 : t.lane = false)  (h8 : 256 < t.data.size) (k1 : (t.round == 0) = true) (k2 : (t.turn == 0) = true) (k3 : t.bY = Tx.zero) :
    Calls Try.prog 30 #[t.v] w fun e w' => e = .returned (.int .i64 3) ∧ Below w.heap.size w w' := by
  obtain ⟨c0, c1, c2, c3, c4, c5, c6, c7⟩ := tx_box ht (Row.new w 36 t.cells)
  have hrng := tx_range (Row.new w 36 t.cells)
  have hlen := Tx.cells_length ht
  have HL := Lib.hid hlen
  have Hrng := Lib.hid hrng
  have Hrow := Lib.hid (Row.new w 36 t.cells)
  have Ht := Lib.hid ht
  clear hlen hrng
  have h8' : (256 : Int) < (t.data.size : Int) := by omega
  have Hby := Lib.hid (tx_hash_at Ht.out Hrow.out).1
  have Hb32 := Lib.hid (Tx.bRow_len _ Ht.out.bY)
  have k1' : (t.round != 0) = false := by simpa using k1
  have k2' : (t.turn != 0) = false := by simpa using k2
  have heqs : ∀ W, (Op.equalIn 10000 34 (.agg (bRow t.bY)) (.agg #[.int .u8 0, .int .u8 0, .int .u8 0, .int .u8 0, .int .u8 0, .int .u8 0, .int .u8 0, .int .u8 0, .int .u8 0, .int .u8 0, .int .u8 0, .int .u8 0, .int .u8 0, .int .u8 0, .int .u8 0, .int .u8 0, .int .u8 0, .int .u8 0, .int .u8 0, .int .u8 0, .int .u8 0, .int .u8 0, .int .u8 0, .int .u8 0, .int .u8 0, .int .u8 0, .int .u8 0, .int .u8 0, .int .u8 0, .int .u8 0, .int .u8 0, .int .u8 0])).run Try.prog W = .ok true W := fun W => by rw [← zero_lit]; exact (hash_eq W t.bY Tx.zero Ht.out.bY rfl).trans (by rw [decide_eq_true k3])
  clear k3
  clear ht
  show Calls _ _ #[.agg t.cells.toArray] _ _
  go_enter Try.func30, Try.ntmps30
  go_wp2_with (first
    | (go_at_call 45; with_reducible refine (within63 _ _).mono ?_; rintro e w' ⟨rfl, rfl⟩)
    | (go_at_call 45; with_reducible refine (within40 _ _).mono ?_; rintro e w' ⟨rfl, rfl⟩)
    | (with_reducible show wpList _ _ _ (⟨_, .load 34 _, _, _, _, _⟩ :: _) _ _; refine wpList_load_tx rfl 34 (.tmp 44) rfl w.heap.size 8 rfl (bRow t.bY).toList _ Hby.out Try.underlying34 rfl (by rw [hash_info, Hb32.out]) ?_))
  go_ret
  exact ⟨rfl, tx_below (grownBy_refl _ _)⟩
set_option maxRecDepth 20000 in
theorem rcheck4x_c0p (t : Tx) (ht : t.Ok) (w : World) (h1 : Tx.acct t.frm = true) (h2 : Tx.acct t.to = true) (h3 : Tx.num t.nonce = true) (h4 : Tx.num t.fee = true) (h5 : t.lane = false)  (h8 : t.data.size ≤ 256) (k1 : (t.round == 0) = true) (k2 : (t.turn == 0) = true) (k3 : t.bY = Tx.zero) :
    Calls Try.prog 30 #[t.v] w fun e w' => e = .returned (.int .i64 0) ∧ Below w.heap.size w w' := by
  obtain ⟨c0, c1, c2, c3, c4, c5, c6, c7⟩ := tx_box ht (Row.new w 36 t.cells)
  have hrng := tx_range (Row.new w 36 t.cells)
  have hlen := Tx.cells_length ht
  have HL := Lib.hid hlen
  have Hrng := Lib.hid hrng
  have Hrow := Lib.hid (Row.new w 36 t.cells)
  have Ht := Lib.hid ht
  clear hlen hrng
  have h8' : (t.data.size : Int) ≤ 256 := by omega
  have Hby := Lib.hid (tx_hash_at Ht.out Hrow.out).1
  have Hb32 := Lib.hid (Tx.bRow_len _ Ht.out.bY)
  have k1' : (t.round != 0) = false := by simpa using k1
  have k2' : (t.turn != 0) = false := by simpa using k2
  have heqs : ∀ W, (Op.equalIn 10000 34 (.agg (bRow t.bY)) (.agg #[.int .u8 0, .int .u8 0, .int .u8 0, .int .u8 0, .int .u8 0, .int .u8 0, .int .u8 0, .int .u8 0, .int .u8 0, .int .u8 0, .int .u8 0, .int .u8 0, .int .u8 0, .int .u8 0, .int .u8 0, .int .u8 0, .int .u8 0, .int .u8 0, .int .u8 0, .int .u8 0, .int .u8 0, .int .u8 0, .int .u8 0, .int .u8 0, .int .u8 0, .int .u8 0, .int .u8 0, .int .u8 0, .int .u8 0, .int .u8 0, .int .u8 0, .int .u8 0])).run Try.prog W = .ok true W := fun W => by rw [← zero_lit]; exact (hash_eq W t.bY Tx.zero Ht.out.bY rfl).trans (by rw [decide_eq_true k3])
  clear k3
  clear ht
  show Calls _ _ #[.agg t.cells.toArray] _ _
  go_enter Try.func30, Try.ntmps30
  go_wp2_with (first
    | (go_at_call 45; with_reducible refine (within63 _ _).mono ?_; rintro e w' ⟨rfl, rfl⟩)
    | (go_at_call 45; with_reducible refine (within40 _ _).mono ?_; rintro e w' ⟨rfl, rfl⟩)
    | (with_reducible show wpList _ _ _ (⟨_, .load 34 _, _, _, _, _⟩ :: _) _ _; refine wpList_load_tx rfl 34 (.tmp 44) rfl w.heap.size 8 rfl (bRow t.bY).toList _ Hby.out Try.underlying34 rfl (by rw [hash_info, Hb32.out]) ?_))
  go_ret
  exact ⟨rfl, tx_below (grownBy_refl _ _)⟩
theorem Tx.plain_iff {t : Tx} : t.plain = true ↔ ((t.round == 0) = true ∧ (t.turn == 0) = true ∧ t.bY = Tx.zero) := by simp [Tx.plain]
theorem rcheck4_c2e (t : Tx) (ht : t.Ok) (w : World) (h1 : Tx.acct t.frm = true) (h2 : Tx.acct t.to = true) (h3 : Tx.num t.nonce = true) (h4 : Tx.num t.fee = true) (h5 : t.lane = false) (h6 : t.plain = false) :
    Calls Try.prog 30 #[t.v] w fun e w' => e = .returned (.int .i64 2) ∧ Below w.heap.size w w' := by
  rcases Bool.eq_false_or_eq_true (t.round == 0) with k1 | k1
  · rcases Bool.eq_false_or_eq_true (t.turn == 0) with k2 | k2
    · by_cases k3 : t.bY = Tx.zero
      · rw [Tx.plain_iff.2 ⟨k1, k2, k3⟩] at h6; cases h6
      · exact rcheck4x_c2eb t ht w h1 h2 h3 h4 h5 k1 k2 k3
    · exact rcheck4x_c2et t ht w h1 h2 h3 h4 h5 k1 k2
  · exact rcheck4x_c2er t ht w h1 h2 h3 h4 h5 k1
theorem rcheck4_c3p (t : Tx) (ht : t.Ok) (w : World) (h1 : Tx.acct t.frm = true) (h2 : Tx.acct t.to = true) (h3 : Tx.num t.nonce = true) (h4 : Tx.num t.fee = true) (h5 : t.lane = false) (h6 : t.plain = true) (h8 : 256 < t.data.size) :
    Calls Try.prog 30 #[t.v] w fun e w' => e = .returned (.int .i64 3) ∧ Below w.heap.size w w' := by
  obtain ⟨k1, k2, k3⟩ := Tx.plain_iff.1 h6
  exact rcheck4x_c3p t ht w h1 h2 h3 h4 h5 h8 k1 k2 k3
theorem rcheck4_c0p (t : Tx) (ht : t.Ok) (w : World) (h1 : Tx.acct t.frm = true) (h2 : Tx.acct t.to = true) (h3 : Tx.num t.nonce = true) (h4 : Tx.num t.fee = true) (h5 : t.lane = false) (h6 : t.plain = true) (h8 : t.data.size ≤ 256) :
    Calls Try.prog 30 #[t.v] w fun e w' => e = .returned (.int .i64 0) ∧ Below w.heap.size w w' := by
  obtain ⟨k1, k2, k3⟩ := Tx.plain_iff.1 h6
  exact rcheck4x_c0p t ht w h1 h2 h3 h4 h5 h8 k1 k2 k3
theorem rcheck4_any (t : Tx) (ht : t.Ok) (w : World) :
    Calls Try.prog 30 #[t.v] w fun e w' => e = .returned (.int .i64 t.err) ∧ Below w.heap.size w w' := by
  rcases Bool.eq_false_or_eq_true (Tx.acct t.frm) with h1 | h1
  · rcases Bool.eq_false_or_eq_true (Tx.acct t.to) with h2 | h2
    · rcases Bool.eq_false_or_eq_true (Tx.num t.nonce) with h3 | h3
      · rcases Bool.eq_false_or_eq_true (Tx.num t.fee) with h4 | h4
        · rcases Bool.eq_false_or_eq_true t.lane with h5 | h5
          · rcases Bool.eq_false_or_eq_true (Tx.num t.round) with h6 | h6
            · rcases Bool.eq_false_or_eq_true (Tx.num t.turn) with h7 | h7
              · rcases Nat.lt_or_ge 256 t.data.size with h8 | h8
                · rw [Tx.err_c3l h1 h2 h3 h4 h5 h6 h7 h8]; exact rcheck4_c3l t ht w h1 h2 h3 h4 h5 h6 h7 h8
                · rw [Tx.err_c0l h1 h2 h3 h4 h5 h6 h7 h8]; exact rcheck4_c0l t ht w h1 h2 h3 h4 h5 h6 h7 h8
              · rw [Tx.err_c2d h1 h2 h3 h4 h5 h6 h7]; exact rcheck4_c2d t ht w h1 h2 h3 h4 h5 h6 h7
            · rw [Tx.err_c2c h1 h2 h3 h4 h5 h6]; exact rcheck4_c2c t ht w h1 h2 h3 h4 h5 h6
          · rcases Bool.eq_false_or_eq_true t.plain with h6 | h6
            · rcases Nat.lt_or_ge 256 t.data.size with h8 | h8
              · rw [Tx.err_c3p h1 h2 h3 h4 h5 h6 h8]; exact rcheck4_c3p t ht w h1 h2 h3 h4 h5 h6 h8
              · rw [Tx.err_c0p h1 h2 h3 h4 h5 h6 h8]; exact rcheck4_c0p t ht w h1 h2 h3 h4 h5 h6 h8
            · rw [Tx.err_c2e h1 h2 h3 h4 h5 h6]; exact rcheck4_c2e t ht w h1 h2 h3 h4 h5 h6
        · rw [Tx.err_c2b h1 h2 h3 h4]; exact rcheck4_c2b t ht w h1 h2 h3 h4
      · rw [Tx.err_c2a h1 h2 h3]; exact rcheck4_c2a t ht w h1 h2 h3
    · rw [Tx.err_c20b h1 h2]; exact rcheck4_c20b t ht w h1 h2
  · rw [Tx.err_c20a h1]; exact rcheck4_c20a t ht w h1
end Go.Proofs.Ytoicpidiejhjeaa

/- ---- OwnStep ---- -/
/- append onto a slice of the call's own, as one step of a region that draws its order. -/
namespace Go.Proofs.Ytoicpidiejhjeaa
open Go.RowKit
set_option linter.unusedVariables false
set_option linter.unusedSimpArgs false

theorem step_append_own {P : Program} {ops : Array Oper} {o : Oper} {a : Act} {w : World} {K : Act → World → Prop} {Q : Exit → Act → World → Prop} {E : Prop}
    (hg : o.guard = none) (s x : Operand) (t : TypeId) (hop : o.op = Op.call { callee := Callee.builtin Builtin.append, args := #[s, x], argTypes := #[t, t] })
    (base : Nat) (e : TypeId) (i : TypeInfo) (z : Value) (size bytes : Nat) (ht : P.underlying t = some (.slice e)) (hi : P.info? e = some i) (hz : i.zero = some z)
    (hsize : i.size = size) (hby : i.bytes = bytes) (hzs : z.cells.size = size) (hsz : 0 < size)
    (v : Value) (n : Nat) (xs : List Value) (hs : a.eval s = v) (hown : w.ownsRow base e size v n xs)
    (ad : Addr) (m c : Nat) (news : List Value) (hx : a.eval x = .slice (some ad) m c) (hl : news.length = m * size) (hnews : ∀ j u, news[j]? = some u → w.cell? (ad.add j) = some u) (h1 : ∀ u ∈ news, u.oneCell' = true) (hm : 0 < m)
    (h63 : n + m ≤ maxLen) (hbytes : ((n + m) + (n + m) / 4 + 192) * bytes ≤ 281474976710656) (hbase : base ≤ w.heap.size)
    (h : ∀ g cap w', w'.ownsRow base e size (.slice (some ⟨g, 0, none⟩) (n + m) cap) (n + m) (xs ++ news) → w.grownBy w' v.ownBlock → K (a.put o.dst (.slice (some ⟨g, 0, none⟩) (n + m) cap)) w') :
    if Region.wanted o (yielded ops a.tmps) = true then Oper.wp P o a w K Q else E := by
  have hw : Region.wanted o (yielded ops a.tmps) = true := by simp [Region.wanted, hg]
  rw [if_pos hw]
  refine wp_append_own_wide w s x t hop base e i z size bytes ht hi hz hsize hby hzs hsz v n xs hs hown ad m c news hx hl hnews h1 h63 hbytes hbase fun v' w' h2 h3 h4 => ?_
  obtain ⟨m', rfl⟩ : ∃ m', m = m' + 1 := ⟨m - 1, by omega⟩
  obtain ⟨g, cap, rfl⟩ := ownsRow_succ h2
  exact h g cap w' h2 h3
end Go.Proofs.Ytoicpidiejhjeaa

/- ---- TxBodies ---- -/
/- tx.Body: its closure lay, and Body. -/
/- tx.Body. -/
namespace Go.Proofs.Ytoicpidiejhjeaa
open Go.RowKit
set_option linter.unusedVariables false
set_option linter.unusedSimpArgs false

end Go.Proofs.Ytoicpidiejhjeaa
namespace Go.Proofs.Ytoicpidiejhjeaa
open Go.RowKit
set_option linter.unusedVariables false
set_option linter.unusedSimpArgs false

namespace Tx
def lays (t : Tx) : List (List UInt8) := [Oct.num t.frm.toNat, Oct.num t.nonce.toNat, Oct.num t.fee.toNat, Oct.num t.to.toNat]
def fields (t : Tx) : List (List UInt8) := (t.lays ++ [t.data.data.toList]) ++ (if t.lane = true then [Oct.num t.round.toNat, Oct.num t.turn.toNat] else [])
def bodyE (t : Tx) : List UInt8 × Int := if t.err = 0 then Oct.listE t.fields else ([], t.err)
end Tx
theorem below_own {w0 W W' : World} {r : Option Nat} (h : Below w0.heap.size w0 W) (hg : W.grownBy W' r) (hr : ∀ k, r = some k → w0.heap.size ≤ k) : Below w0.heap.size w0 W' := h.grown hg h.size hr
end Go.Proofs.Ytoicpidiejhjeaa

/- ---- TxText ---- -/
/- tx.Text. -/
namespace Go.Proofs.Ytoicpidiejhjeaa
open Go.RowKit
set_option linter.unusedVariables false
set_option linter.unusedSimpArgs false

namespace Tx
def outer (t : Tx) (b : List UInt8) : List (List UInt8) := if t.lane = true then [b, t.tag, t.bY] else [b, t.tag]
def textE (t : Tx) : List UInt8 × Int := if t.bodyE.2 = 0 then Oct.listE (t.outer t.bodyE.1) else ([], t.bodyE.2)
end Tx
theorem two_below' {w w1 w2 : World} (h1 : Below w.heap.size w w1) (h2 : Below w1.heap.size w1 w2) : Below w.heap.size w w2 := h1.grown (grownBy_of_below h2 none) h1.size (fun k hk => by cases hk)
end Go.Proofs.Ytoicpidiejhjeaa

/- ---- TxRow ---- -/
/- Rows loaded and stored, whole or in the middle of a block; a result that lies in a block. -/
namespace Go.Proofs.Ytoicpidiejhjeaa
open Go.RowKit
set_option linter.unusedVariables false
set_option linter.unusedSimpArgs false

theorem row_setCells {g : Nat} {T : TypeId} : ∀ (l : List Value) (off : Nat) (w : World) (xs : List Value), Row w g T xs → off + l.length ≤ xs.length →
    Row (w.setCells g off l) g T (xs.take off ++ (l ++ xs.drop (off + l.length))) ∧ w.grownBy (w.setCells g off l) (some g)
  | [], off, w, xs, h, hl => by
    refine ⟨?_, grownBy_refl _ _⟩
    simp only [List.nil_append, List.length_nil, Nat.add_zero, List.take_append_drop]
    exact h
  | v :: l, off, w, xs, h, hl => by
    simp only [List.length_cons] at hl
    obtain ⟨h1, h2⟩ := row_setCells l (off + 1) (w.setCell ⟨g, off, none⟩ v) (xs.set off v) (h.set off v (by omega)) (by rw [List.length_set]; omega)
    refine ⟨?_, (grownBy_set w g off v).trans h2⟩
    have e1 : (xs.set off v).take (off + 1) = xs.take off ++ [v] := by
      rw [List.take_succ_eq_append_getElem (by rw [List.length_set]; omega), List.take_set_of_le (Nat.le_refl _)]
      simp
    have e2 : (xs.set off v).drop (off + 1 + l.length) = xs.drop (off + 1 + l.length) := by rw [List.drop_set_of_lt (by omega)]
    rw [e1, e2, List.append_assoc] at h1
    simp only [List.length_cons]
    rw [show off + (l.length + 1) = off + 1 + l.length by omega]
    exact h1
/-- a value of many cells stored into a block's middle -/
theorem wpList_store_at {P : Program} {ops : Array Oper} {rest : List Oper} {op : Oper} {a : Act} {w : World} {Q : Exit → Act → World → Prop} (hgd : op.guard = none) (ty : TypeId) (x y : Operand) (ho : op.op = .store ty x y)
    (g off : Nat) (l xs : List Value) (T : TypeId) (hx : a.eval x = .pointer (some ⟨g, off, none⟩)) (hy : a.eval y = .agg l.toArray) (hg : Row w g T xs) (hoff : off + l.length ≤ xs.length)
    (hi : (P.info? ty).map (·.size) = some l.length) (h1 : ∀ v ∈ l, v.oneCell' = true)
    (h : ∀ w', Row w' g T (xs.take off ++ (l ++ xs.drop (off + l.length))) → w.grownBy w' (some g) → wpList P ops Q rest (a.put op.dst undef) w') : wpList P ops Q (op :: rest) a w := by
  obtain ⟨r1, r2⟩ := row_setCells l off w xs hg hoff
  exact wpList_store_mid hgd ty x y ho g off l.toArray hx hy (fun j hj => ⟨by
    have hj' : j < l.length := by simpa using hj
    rw [hg.cell (off + j) (by omega)]; rfl, hg.free _⟩) (by simpa using hi) (all_oneCell_toArray h1) (h _ r1 r2)
theorem results_rowL {P : Program} {fn : Func} {p u : Tmp} {ty : TypeId} (h : fn.results = #[.cell p ty, .tmp u]) (tmps : Array Value) (w : World) (g : Nat) (T : TypeId) (xs : List Value) (d : TypeDesc)
    (hp : tmps.getD p undef = .pointer (some ⟨g, 0, none⟩)) (hg : Row w g T xs)
    (hu : P.underlying ty = some d) (hd : (match d with | .struct _ | .array _ _ => true | _ => false) = true) (hi : (P.info? ty).map (·.size) = some xs.toArray.size) (x : Value) (hx : tmps.getD u undef = x) :
    (results fn tmps).run P w = .ok (.tuple #[.agg xs.toArray, x]) w := by
  rw [results_cell_tmp h, hp]
  have hl := run_loadVar_row w g T ty xs.toArray (0, 0) d hg hu hd hi
  have ha : (asAddr (.pointer (some ⟨g, 0, none⟩))).run P w = .ok ⟨g, 0, none⟩ w := rfl
  rw [ha]
  simp only [Result.andThen, hl, hx]
theorem row_range {w : World} {g : Nat} {T : TypeId} {xs : List Value} (h : Row w g T xs) : w.rangeAt g 0 xs := by
  intro j v hv
  obtain ⟨hlt, he⟩ := List.getElem?_eq_some_iff.1 hv
  rw [Nat.zero_add, h.cell j hlt, he]
theorem hash_one (R : List UInt8) (h : R.length = 32) : ∀ v ∈ (bRow R).toList, v.oneCell' = true := by
  rw [bRow_yRow R h]
  unfold yRow
  intro v hv
  simp at hv
  obtain ⟨b, _, rfl⟩ := hv
  rfl
theorem Tx.cells_one {t : Tx} (h : t.Ok) : ∀ v ∈ t.cells, v.oneCell' = true := by
  intro v hv
  unfold Tx.cells Tx.head at hv
  rcases List.mem_append.1 hv with h1 | h1
  · simp at h1
    rcases h1 with rfl | rfl | rfl | rfl | rfl | rfl | rfl | rfl <;> rfl
  · rcases List.mem_append.1 h1 with h2 | h2
    · exact hash_one _ h.bY v h2
    · exact hash_one _ h.tag v h2
theorem Tx.none_ok : Tx.none.Ok := ⟨rfl, rfl, by decide, fits0, fits0, fits0, fits0, fits0, fits0⟩
theorem tx_zv (w : World) : (zeroValue 36).run Try.prog w = .ok (.agg Tx.none.arr) w := by kernel_rfl
theorem hash_zv (w : World) : (zeroValue 34).run Try.prog w = .ok (.agg (bRow Tx.zero)) w := by kernel_rfl
theorem tx_built0 : Try.prog.built 36 [] = some Tx.none.arr := by kernel_rfl
/-- a list's bytes are few -/
theorem listGo_len : ∀ (L : List (List UInt8)) (left : Nat) (b : List UInt8), Oct.listGo left L = some b → b.length ≤ left + 9 * L.length
  | [], left, b, h => by
    simp only [Oct.listGo, Option.some.injEq] at h
    subst h
    simp
  | s :: r, left, b, h => by
    unfold Oct.listGo at h
    split at h
    · cases h
    · obtain ⟨c, hc, rfl⟩ := Option.map_eq_some_iff.1 h
      have := listGo_len r (left - s.length) c hc
      have h2 := Oct.num_length_le s.length
      have h3 : (Oct.text s).length = (Oct.num s.length).length + s.length := by unfold Oct.text; rw [List.length_append]
      rw [List.length_append, h3, List.length_cons]
      omega
theorem listE_len (L : List (List UInt8)) : (Oct.listE L).1.length ≤ 100000 := by
  unfold Oct.listE
  split
  · simp
  · next hl =>
    cases h : Oct.listGo 65536 L with
    | none => simp
    | some b =>
      have h1 := listGo_len L 65536 b h
      have h2 := Oct.num_length_le L.length
      simp only [List.length_append]
      omega
theorem Tx.body_len (t : Tx) : t.bodyE.1.length ≤ 100000 := by
  unfold Tx.bodyE
  split
  · exact listE_len _
  · simp
theorem Tx.text_len (t : Tx) : t.textE.1.length ≤ 100000 := by
  unfold Tx.textE
  split
  · exact listE_len _
  · simp
end Go.Proofs.Ytoicpidiejhjeaa

/- ---- TxSigns ---- -/
/- tx.Name, Sign, Hand, Signed. -/
/- tx.Sign, Hand. -/
namespace Go.Proofs.Ytoicpidiejhjeaa
open Go.RowKit
set_option linter.unusedVariables false
set_option linter.unusedSimpArgs false

theorem splice_all {xs l : List Value} (h : l.length = xs.length) : xs.take 0 ++ (l ++ xs.drop (0 + l.length)) = l := by
  rw [List.take_zero, List.nil_append, List.drop_of_length_le (by omega), List.append_nil]
theorem row_two (w : World) (A B : Array Value) (t1 t2 : TypeId) : Row ((w.alloc (.cells A t1)).alloc (.cells B t2)) (w.heap.size + 1) t2 B.toList ∧ Below w.heap.size w ((w.alloc (.cells A t1)).alloc (.cells B t2)) ∧ Row ((w.alloc (.cells A t1)).alloc (.cells B t2)) w.heap.size t1 A.toList := by
  have h := Row.new (w.alloc (.cells A t1)) t2 B.toList
  rw [show ∀ (W : World) (o : Obj), (W.alloc o).heap.size = W.heap.size + 1 from fun W o => by simp] at h
  exact ⟨h, ((Below.refl w.heap.size w).alloc (Nat.le_refl _) _).alloc (by simp) _, (Row.new w t1 A.toList).kept (grownBy_alloc _ _ none) (by simp)⟩
namespace Tx
end Tx

end Go.Proofs.Ytoicpidiejhjeaa
namespace Go.Proofs.Ytoicpidiejhjeaa
open Go.RowKit
set_option linter.unusedVariables false
set_option linter.unusedSimpArgs false

end Go.Proofs.Ytoicpidiejhjeaa

/- ---- TxAwk ---- -/
/- cavalcadelaw04.awake: what it returns. -/
namespace Go.Proofs.Ytoicpidiejhjeaa
open Go.RowKit
set_option linter.unusedVariables false
set_option linter.unusedSimpArgs false

namespace Tx
end Tx
theorem tx_same (W : World) {t : Tx} (ht : t.Ok) : (Op.equalIn 10000 36 (.agg t.cells.toArray) (.agg t.cells.toArray)).run Try.prog W = .ok true W := by
  obtain ⟨r, hr, hi⟩ := tx_eq W t t ht ht
  rw [hi.2 rfl] at hr
  exact hr
end Go.Proofs.Ytoicpidiejhjeaa
