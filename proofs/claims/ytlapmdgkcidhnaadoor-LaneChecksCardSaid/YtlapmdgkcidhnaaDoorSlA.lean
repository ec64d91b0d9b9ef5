/- What later texts need of the earlier layers. -/
import Derived.Test.YtlapmdgkcidhnaaDoorSlO
import Derived.Test.YtlapmdgkcidhnaaDoorSlS
import Derived.Test.YtlapmdgkcidhnaaDoorSlT
import Derived.Test.YtlapmdgkcidhnaaDoorSlC
import Derived.Deep.RegionLaw
import Derived.Deep.DeepAppendWide
import Derived.RangeFuncBox
import Derived.Deep.RegionHeld3
import Derived.Laws.ResultCell
import Derived.Laws.Closers25
import Derived.Deep.Onto
import Derived.Laws.CopyOwn
import Derived.Lib.BufferWrite
/- ---- TxCheck ---- -/
/- tx.Check and the reference's Check. -/
namespace Go.Proofs.YtlapmdgkcidhnaaDoor
open Go.RowKit
set_option linter.unusedVariables false
set_option linter.unusedSimpArgs false

theorem tx_box {W : World} {g : Nat} {T : TypeId} {t : Tx} (ht : t.Ok) (h : Row W g T t.cells) :
    W.cell? ⟨g, 0, none⟩ = some (.int .i64 t.frm) ∧ W.cell? ⟨g, 1, none⟩ = some (.int .i64 t.nonce) ∧ W.cell? ⟨g, 2, none⟩ = some (.int .i64 t.fee) ∧ W.cell? ⟨g, 3, none⟩ = some (.int .i64 t.to) ∧
    W.cell? ⟨g, 4, none⟩ = some (.string t.data) ∧ W.cell? ⟨g, 5, none⟩ = some (.bool t.lane) ∧ W.cell? ⟨g, 6, none⟩ = some (.int .i64 t.round) ∧ W.cell? ⟨g, 7, none⟩ = some (.int .i64 t.turn) := by
  have hl := Tx.cells_length ht
  exact ⟨h.cell 0 (by omega), h.cell 1 (by omega), h.cell 2 (by omega), h.cell 3 (by omega), h.cell 4 (by omega), h.cell 5 (by omega), h.cell 6 (by omega), h.cell 7 (by omega)⟩
theorem tx_below {w w1 : World} {o : Obj} (h : (w.alloc o).grownBy w1 none) : Below w.heap.size w w1 := ((Below.refl w.heap.size w).alloc (Nat.le_refl _) o).grown h (by simp) (fun k hk => by cases hk)
theorem Tx.err_c20a {t : Tx} (h1 : Tx.acct t.frm = false) : t.err = 20 := by
  unfold Tx.err
  rw [if_pos (.inl h1)]
theorem Tx.err_c20b {t : Tx} (h1 : Tx.acct t.frm = true) (h2 : Tx.acct t.to = false) : t.err = 20 := by
  unfold Tx.err
  rw [if_pos (.inr h2)]
theorem Tx.err_c2a {t : Tx} (h1 : Tx.acct t.frm = true) (h2 : Tx.acct t.to = true) (h3 : Tx.num t.nonce = false) : t.err = 2 := by
  unfold Tx.err
  rw [if_neg (by rw [h1, h2]; simp), if_pos (.inl h3)]
theorem Tx.err_c2b {t : Tx} (h1 : Tx.acct t.frm = true) (h2 : Tx.acct t.to = true) (h3 : Tx.num t.nonce = true) (h4 : Tx.num t.fee = false) : t.err = 2 := by
  unfold Tx.err
  rw [if_neg (by rw [h1, h2]; simp), if_pos (.inr h4)]
theorem Tx.err_c2c {t : Tx} (h1 : Tx.acct t.frm = true) (h2 : Tx.acct t.to = true) (h3 : Tx.num t.nonce = true) (h4 : Tx.num t.fee = true) (h5 : t.lane = true) (h6 : Tx.num t.round = false) : t.err = 2 := by
  unfold Tx.err
  rw [if_neg (by rw [h1, h2]; simp), if_neg (by rw [h3, h4]; simp), if_pos (.inl ⟨h5, .inl h6⟩)]
theorem Tx.err_c2d {t : Tx} (h1 : Tx.acct t.frm = true) (h2 : Tx.acct t.to = true) (h3 : Tx.num t.nonce = true) (h4 : Tx.num t.fee = true) (h5 : t.lane = true) (h6 : Tx.num t.round = true) (h7 : Tx.num t.turn = false) : t.err = 2 := by
  unfold Tx.err
  rw [if_neg (by rw [h1, h2]; simp), if_neg (by rw [h3, h4]; simp), if_pos (.inl ⟨h5, .inr h7⟩)]
theorem Tx.err_c2e {t : Tx} (h1 : Tx.acct t.frm = true) (h2 : Tx.acct t.to = true) (h3 : Tx.num t.nonce = true) (h4 : Tx.num t.fee = true) (h5 : t.lane = false) (h6 : t.plain = false) : t.err = 2 := by
  unfold Tx.err
  rw [if_neg (by rw [h1, h2]; simp), if_neg (by rw [h3, h4]; simp), if_pos (.inr ⟨h5, h6⟩)]
theorem Tx.err_c3l {t : Tx} (h1 : Tx.acct t.frm = true) (h2 : Tx.acct t.to = true) (h3 : Tx.num t.nonce = true) (h4 : Tx.num t.fee = true) (h5 : t.lane = true) (h6 : Tx.num t.round = true) (h7 : Tx.num t.turn = true) (h8 : 256 < t.data.size) : t.err = 3 := by
  unfold Tx.err
  rw [if_neg (by rw [h1, h2]; simp), if_neg (by rw [h3, h4]; simp), if_neg (by rw [h5, h6, h7]; simp), if_pos h8]
theorem Tx.err_c0l {t : Tx} (h1 : Tx.acct t.frm = true) (h2 : Tx.acct t.to = true) (h3 : Tx.num t.nonce = true) (h4 : Tx.num t.fee = true) (h5 : t.lane = true) (h6 : Tx.num t.round = true) (h7 : Tx.num t.turn = true) (h8 : t.data.size ≤ 256) : t.err = 0 := by
  unfold Tx.err
  rw [if_neg (by rw [h1, h2]; simp), if_neg (by rw [h3, h4]; simp), if_neg (by rw [h5, h6, h7]; simp), if_neg (by omega)]
theorem Tx.err_c3p {t : Tx} (h1 : Tx.acct t.frm = true) (h2 : Tx.acct t.to = true) (h3 : Tx.num t.nonce = true) (h4 : Tx.num t.fee = true) (h5 : t.lane = false) (h6 : t.plain = true) (h8 : 256 < t.data.size) : t.err = 3 := by
  unfold Tx.err
  rw [if_neg (by rw [h1, h2]; simp), if_neg (by rw [h3, h4]; simp), if_neg (by rw [h5, h6]; simp), if_pos h8]
theorem Tx.err_c0p {t : Tx} (h1 : Tx.acct t.frm = true) (h2 : Tx.acct t.to = true) (h3 : Tx.num t.nonce = true) (h4 : Tx.num t.fee = true) (h5 : t.lane = false) (h6 : t.plain = true) (h8 : t.data.size ≤ 256) : t.err = 0 := by
  unfold Tx.err
  rw [if_neg (by rw [h1, h2]; simp), if_neg (by rw [h3, h4]; simp), if_neg (by rw [h5, h6]; simp), if_neg (by omega)]
set_option maxRecDepth 20000 in
theorem check4_c20a (t : Tx) (ht : t.Ok) (w : World) (h1 : Tx.acct t.frm = false) :
    Calls Tryd.prog 90 #[t.v] w fun e w' => e = .returned (.int .i64 20) ∧ Below w.heap.size w w' := by
  obtain ⟨c0, c1, c2, c3, c4, c5, c6, c7⟩ := tx_box ht (Row.new w 74 t.cells)
  have hrng := tx_range (Row.new w 74 t.cells)
  have hlen := Tx.cells_length ht
  have HL := Lib.hid hlen
  have Hrng := Lib.hid hrng
  have Hrow := Lib.hid (Row.new w 74 t.cells)
  have Ht := Lib.hid ht
  clear hlen hrng
  clear ht
  show Calls _ _ #[.agg t.cells.toArray] _ _
  go_enter Tryd.func90, Tryd.ntmps90
  go_wp2_with (first
    | (go_at_call 117; with_reducible refine (account_any _ _).mono ?_; rintro e w' ⟨rfl, rfl⟩)
    | (go_at_call 118; with_reducible refine (number4_any _ _).mono ?_; rintro e w' ⟨rfl, rfl⟩))
  go_ret
  exact ⟨rfl, tx_below (grownBy_refl _ _)⟩
set_option maxRecDepth 20000 in
theorem check4_c20b (t : Tx) (ht : t.Ok) (w : World) (h1 : Tx.acct t.frm = true) (h2 : Tx.acct t.to = false) :
    Calls Tryd.prog 90 #[t.v] w fun e w' => e = .returned (.int .i64 20) ∧ Below w.heap.size w w' := by
  obtain ⟨c0, c1, c2, c3, c4, c5, c6, c7⟩ := tx_box ht (Row.new w 74 t.cells)
  have hrng := tx_range (Row.new w 74 t.cells)
  have hlen := Tx.cells_length ht
  have HL := Lib.hid hlen
  have Hrng := Lib.hid hrng
  have Hrow := Lib.hid (Row.new w 74 t.cells)
  have Ht := Lib.hid ht
  clear hlen hrng
  clear ht
  show Calls _ _ #[.agg t.cells.toArray] _ _
  go_enter Tryd.func90, Tryd.ntmps90
  go_wp2_with (first
    | (go_at_call 117; with_reducible refine (account_any _ _).mono ?_; rintro e w' ⟨rfl, rfl⟩)
    | (go_at_call 118; with_reducible refine (number4_any _ _).mono ?_; rintro e w' ⟨rfl, rfl⟩))
  go_ret
  exact ⟨rfl, tx_below (grownBy_refl _ _)⟩
set_option maxRecDepth 20000 in
theorem check4_c2a (t : Tx) (ht : t.Ok) (w : World) (h1 : Tx.acct t.frm = true) (h2 : Tx.acct t.to = true) (h3 : Tx.num t.nonce = false) :
    Calls Tryd.prog 90 #[t.v] w fun e w' => e = .returned (.int .i64 2) ∧ Below w.heap.size w w' := by
  obtain ⟨c0, c1, c2, c3, c4, c5, c6, c7⟩ := tx_box ht (Row.new w 74 t.cells)
  have hrng := tx_range (Row.new w 74 t.cells)
  have hlen := Tx.cells_length ht
  have HL := Lib.hid hlen
  have Hrng := Lib.hid hrng
  have Hrow := Lib.hid (Row.new w 74 t.cells)
  have Ht := Lib.hid ht
  clear hlen hrng
  clear ht
  show Calls _ _ #[.agg t.cells.toArray] _ _
  go_enter Tryd.func90, Tryd.ntmps90
  go_wp2_with (first
    | (go_at_call 117; with_reducible refine (account_any _ _).mono ?_; rintro e w' ⟨rfl, rfl⟩)
    | (go_at_call 118; with_reducible refine (number4_any _ _).mono ?_; rintro e w' ⟨rfl, rfl⟩))
  go_ret
  exact ⟨rfl, tx_below (grownBy_refl _ _)⟩
set_option maxRecDepth 20000 in
theorem check4_c2b (t : Tx) (ht : t.Ok) (w : World) (h1 : Tx.acct t.frm = true) (h2 : Tx.acct t.to = true) (h3 : Tx.num t.nonce = true) (h4 : Tx.num t.fee = false) :
    Calls Tryd.prog 90 #[t.v] w fun e w' => e = .returned (.int .i64 2) ∧ Below w.heap.size w w' := by
  obtain ⟨c0, c1, c2, c3, c4, c5, c6, c7⟩ := tx_box ht (Row.new w 74 t.cells)
  have hrng := tx_range (Row.new w 74 t.cells)
  have hlen := Tx.cells_length ht
  have HL := Lib.hid hlen
  have Hrng := Lib.hid hrng
  have Hrow := Lib.hid (Row.new w 74 t.cells)
  have Ht := Lib.hid ht
  clear hlen hrng
  clear ht
  show Calls _ _ #[.agg t.cells.toArray] _ _
  go_enter Tryd.func90, Tryd.ntmps90
  go_wp2_with (first
    | (go_at_call 117; with_reducible refine (account_any _ _).mono ?_; rintro e w' ⟨rfl, rfl⟩)
    | (go_at_call 118; with_reducible refine (number4_any _ _).mono ?_; rintro e w' ⟨rfl, rfl⟩))
  go_ret
  exact ⟨rfl, tx_below (grownBy_refl _ _)⟩
set_option maxRecDepth 20000 in
theorem check4_c2c (t : Tx) (ht : t.Ok) (w : World) (h1 : Tx.acct t.frm = true) (h2 : Tx.acct t.to = true) (h3 : Tx.num t.nonce = true) (h4 : Tx.num t.fee = true) (h5 : t.lane = true) (h6 : Tx.num t.round = false) :
    Calls Tryd.prog 90 #[t.v] w fun e w' => e = .returned (.int .i64 2) ∧ Below w.heap.size w w' := by
  obtain ⟨c0, c1, c2, c3, c4, c5, c6, c7⟩ := tx_box ht (Row.new w 74 t.cells)
  have hrng := tx_range (Row.new w 74 t.cells)
  have hlen := Tx.cells_length ht
  have HL := Lib.hid hlen
  have Hrng := Lib.hid hrng
  have Hrow := Lib.hid (Row.new w 74 t.cells)
  have Ht := Lib.hid ht
  clear hlen hrng
  clear ht
  show Calls _ _ #[.agg t.cells.toArray] _ _
  go_enter Tryd.func90, Tryd.ntmps90
  go_wp2_with (first
    | (go_at_call 117; with_reducible refine (account_any _ _).mono ?_; rintro e w' ⟨rfl, rfl⟩)
    | (go_at_call 118; with_reducible refine (number4_any _ _).mono ?_; rintro e w' ⟨rfl, rfl⟩))
  go_ret
  exact ⟨rfl, tx_below (grownBy_refl _ _)⟩
set_option maxRecDepth 20000 in
theorem check4_c2d (t : Tx) (ht : t.Ok) (w : World) (h1 : Tx.acct t.frm = true) (h2 : Tx.acct t.to = true) (h3 : Tx.num t.nonce = true) (h4 : Tx.num t.fee = true) (h5 : t.lane = true) (h6 : Tx.num t.round = true) (h7 : Tx.num t.turn = false) :
    Calls Tryd.prog 90 #[t.v] w fun e w' => e = .returned (.int .i64 2) ∧ Below w.heap.size w w' := by
  obtain ⟨c0, c1, c2, c3, c4, c5, c6, c7⟩ := tx_box ht (Row.new w 74 t.cells)
  have hrng := tx_range (Row.new w 74 t.cells)
  have hlen := Tx.cells_length ht
  have HL := Lib.hid hlen
  have Hrng := Lib.hid hrng
  have Hrow := Lib.hid (Row.new w 74 t.cells)
  have Ht := Lib.hid ht
  clear hlen hrng
  clear ht
  show Calls _ _ #[.agg t.cells.toArray] _ _
  go_enter Tryd.func90, Tryd.ntmps90
  go_wp2_with (first
    | (go_at_call 117; with_reducible refine (account_any _ _).mono ?_; rintro e w' ⟨rfl, rfl⟩)
    | (go_at_call 118; with_reducible refine (number4_any _ _).mono ?_; rintro e w' ⟨rfl, rfl⟩))
  go_ret
  exact ⟨rfl, tx_below (grownBy_refl _ _)⟩
set_option maxRecDepth 20000 in
theorem check4_c2e (t : Tx) (ht : t.Ok) (w : World) (h1 : Tx.acct t.frm = true) (h2 : Tx.acct t.to = true) (h3 : Tx.num t.nonce = true) (h4 : Tx.num t.fee = true) (h5 : t.lane = false) (h6 : t.plain = false) :
    Calls Tryd.prog 90 #[t.v] w fun e w' => e = .returned (.int .i64 2) ∧ Below w.heap.size w w' := by
  obtain ⟨c0, c1, c2, c3, c4, c5, c6, c7⟩ := tx_box ht (Row.new w 74 t.cells)
  have hrng := tx_range (Row.new w 74 t.cells)
  have hlen := Tx.cells_length ht
  have HL := Lib.hid hlen
  have Hrng := Lib.hid hrng
  have Hrow := Lib.hid (Row.new w 74 t.cells)
  have Ht := Lib.hid ht
  clear hlen hrng
  have PL : Hid (∀ W, Calls Tryd.prog 119 #[.agg t.cells.toArray] W fun e w' => e = .returned (.bool t.plain) ∧ W.grownBy w' none) := fun W => plain_any t Ht.out h5 W
  clear ht
  show Calls _ _ #[.agg t.cells.toArray] _ _
  go_enter Tryd.func90, Tryd.ntmps90
  go_wp2_with (first
    | (go_at_call 117; with_reducible refine (account_any _ _).mono ?_; rintro e w' ⟨rfl, rfl⟩)
    | (go_at_call 118; with_reducible refine (number4_any _ _).mono ?_; rintro e w' ⟨rfl, rfl⟩)
    | (with_reducible show wpList _ _ _ (⟨_, .load 74 _, _, _, _, _⟩ :: _) _ _; refine wpList_load_tx rfl 74 (.tmp 1) rfl w.heap.size 0 rfl t.cells _ Hrng.out Tryd.underlying74 rfl (by rw [tx_info, HL.out]) ?_)
    | (go_at_call 119; refine (PL.out _).mono ?_; rintro e w1 ⟨rfl, hg1⟩
       have c4' := hg1.cell c4 (by simp)
       have Hg1 := Lib.hid hg1
       clear hg1 c0 c1 c2 c3 c4 c5 c6 c7))
  go_ret
  exact ⟨rfl, tx_below Hg1.out⟩
set_option maxRecDepth 20000 in
theorem check4_c3l (t : Tx) (ht : t.Ok) (w : World) (h1 : Tx.acct t.frm = true) (h2 : Tx.acct t.to = true) (h3 : Tx.num t.nonce = true) (h4 : Tx.num t.fee = true) (h5 : t.lane = true) (h6 : Tx.num t.round = true) (h7 : Tx.num t.turn = true) (h8 : 256 < t.data.size) :
    Calls Tryd.prog 90 #[t.v] w fun e w' => e = .returned (.int .i64 3) ∧ Below w.heap.size w w' := by
  obtain ⟨c0, c1, c2, c3, c4, c5, c6, c7⟩ := tx_box ht (Row.new w 74 t.cells)
  have hrng := tx_range (Row.new w 74 t.cells)
  have hlen := Tx.cells_length ht
  have HL := Lib.hid hlen
  have Hrng := Lib.hid hrng
  have Hrow := Lib.hid (Row.new w 74 t.cells)
  have Ht := Lib.hid ht
  clear hlen hrng
  have h8' : (256 : Int) < (t.data.size : Int) := by omega
  clear ht
  show Calls _ _ #[.agg t.cells.toArray] _ _
  go_enter Tryd.func90, Tryd.ntmps90
  go_wp2_with (first
    | (go_at_call 117; with_reducible refine (account_any _ _).mono ?_; rintro e w' ⟨rfl, rfl⟩)
    | (go_at_call 118; with_reducible refine (number4_any _ _).mono ?_; rintro e w' ⟨rfl, rfl⟩))
  go_ret
  exact ⟨rfl, tx_below (grownBy_refl _ _)⟩
set_option maxRecDepth 20000 in
theorem check4_c0l (t : Tx) (ht : t.Ok) (w : World) (h1 : Tx.acct t.frm = true) (h2 : Tx.acct t.to = true) (h3 : Tx.num t.nonce = true) (h4 : Tx.num t.fee = true) (h5 : t.lane = true) (h6 : Tx.num t.round = true) (h7 : Tx.num t.turn = true) (h8 : t.data.size ≤ 256) :
    Calls Tryd.prog 90 #[t.v] w fun e w' => e = .returned (.int .i64 0) ∧ Below w.heap.size w w' := by
  obtain ⟨c0, c1, c2, c3, c4, c5, c6, c7⟩ := tx_box ht (Row.new w 74 t.cells)
  have hrng := tx_range (Row.new w 74 t.cells)
  have hlen := Tx.cells_length ht
  have HL := Lib.hid hlen
  have Hrng := Lib.hid hrng
  have Hrow := Lib.hid (Row.new w 74 t.cells)
  have Ht := Lib.hid ht
  clear hlen hrng
  have h8' : (t.data.size : Int) ≤ 256 := by omega
  clear ht
  show Calls _ _ #[.agg t.cells.toArray] _ _
  go_enter Tryd.func90, Tryd.ntmps90
  go_wp2_with (first
    | (go_at_call 117; with_reducible refine (account_any _ _).mono ?_; rintro e w' ⟨rfl, rfl⟩)
    | (go_at_call 118; with_reducible refine (number4_any _ _).mono ?_; rintro e w' ⟨rfl, rfl⟩))
  go_ret
  exact ⟨rfl, tx_below (grownBy_refl _ _)⟩
set_option maxRecDepth 20000 in
theorem check4_c3p (t : Tx) (ht : t.Ok) (w : World) (h1 : Tx.acct t.frm = true) (h2 : Tx.acct t.to = true) (h3 : Tx.num t.nonce = true) (h4 : Tx.num t.fee = true) (h5 : t.lane = false) (h6 : t.plain = true) (h8 : 256 < t.data.size) :
    Calls Tryd.prog 90 #[t.v] w fun e w' => e = .returned (.int .i64 3) ∧ Below w.heap.size w w' := by
  obtain ⟨c0, c1, c2, c3, c4, c5, c6, c7⟩ := tx_box ht (Row.new w 74 t.cells)
  have hrng := tx_range (Row.new w 74 t.cells)
  have hlen := Tx.cells_length ht
  have HL := Lib.hid hlen
  have Hrng := Lib.hid hrng
  have Hrow := Lib.hid (Row.new w 74 t.cells)
  have Ht := Lib.hid ht
  clear hlen hrng
  have PL : Hid (∀ W, Calls Tryd.prog 119 #[.agg t.cells.toArray] W fun e w' => e = .returned (.bool t.plain) ∧ W.grownBy w' none) := fun W => plain_any t Ht.out h5 W
  have h8' : (256 : Int) < (t.data.size : Int) := by omega
  clear ht
  show Calls _ _ #[.agg t.cells.toArray] _ _
  go_enter Tryd.func90, Tryd.ntmps90
  go_wp2_with (first
    | (go_at_call 117; with_reducible refine (account_any _ _).mono ?_; rintro e w' ⟨rfl, rfl⟩)
    | (go_at_call 118; with_reducible refine (number4_any _ _).mono ?_; rintro e w' ⟨rfl, rfl⟩)
    | (with_reducible show wpList _ _ _ (⟨_, .load 74 _, _, _, _, _⟩ :: _) _ _; refine wpList_load_tx rfl 74 (.tmp 1) rfl w.heap.size 0 rfl t.cells _ Hrng.out Tryd.underlying74 rfl (by rw [tx_info, HL.out]) ?_)
    | (go_at_call 119; refine (PL.out _).mono ?_; rintro e w1 ⟨rfl, hg1⟩
       have c4' := hg1.cell c4 (by simp)
       have Hg1 := Lib.hid hg1
       clear hg1 c0 c1 c2 c3 c4 c5 c6 c7))
  go_ret
  exact ⟨rfl, tx_below Hg1.out⟩
set_option maxRecDepth 20000 in
theorem check4_c0p (t : Tx) (ht : t.Ok) (w : World) (h1 : Tx.acct t.frm = true) (h2 : Tx.acct t.to = true) (h3 : Tx.num t.nonce = true) (h4 : Tx.num t.fee = true) (h5 : t.lane = false) (h6 : t.plain = true) (h8 : t.data.size ≤ 256) :
    Calls Tryd.prog 90 #[t.v] w fun e w' => e = .returned (.int .i64 0) ∧ Below w.heap.size w w' := by
  obtain ⟨c0, c1, c2, c3, c4, c5, c6, c7⟩ := tx_box ht (Row.new w 74 t.cells)
  have hrng := tx_range (Row.new w 74 t.cells)
  have hlen := Tx.cells_length ht
  have HL := Lib.hid hlen
  have Hrng := Lib.hid hrng
  have Hrow := Lib.hid (Row.new w 74 t.cells)
  have Ht := Lib.hid ht
  clear hlen hrng
  have PL : Hid (∀ W, Calls Tryd.prog 119 #[.agg t.cells.toArray] W fun e w' => e = .returned (.bool t.plain) ∧ W.grownBy w' none) := fun W => plain_any t Ht.out h5 W
  have h8' : (t.data.size : Int) ≤ 256 := by omega
  clear ht
  show Calls _ _ #[.agg t.cells.toArray] _ _
  go_enter Tryd.func90, Tryd.ntmps90
  go_wp2_with (first
    | (go_at_call 117; with_reducible refine (account_any _ _).mono ?_; rintro e w' ⟨rfl, rfl⟩)
    | (go_at_call 118; with_reducible refine (number4_any _ _).mono ?_; rintro e w' ⟨rfl, rfl⟩)
    | (with_reducible show wpList _ _ _ (⟨_, .load 74 _, _, _, _, _⟩ :: _) _ _; refine wpList_load_tx rfl 74 (.tmp 1) rfl w.heap.size 0 rfl t.cells _ Hrng.out Tryd.underlying74 rfl (by rw [tx_info, HL.out]) ?_)
    | (go_at_call 119; refine (PL.out _).mono ?_; rintro e w1 ⟨rfl, hg1⟩
       have c4' := hg1.cell c4 (by simp)
       have Hg1 := Lib.hid hg1
       clear hg1 c0 c1 c2 c3 c4 c5 c6 c7))
  go_ret
  exact ⟨rfl, tx_below Hg1.out⟩
theorem check4_any (t : Tx) (ht : t.Ok) (w : World) :
    Calls Tryd.prog 90 #[t.v] w fun e w' => e = .returned (.int .i64 t.err) ∧ Below w.heap.size w w' := by
  rcases Bool.eq_false_or_eq_true (Tx.acct t.frm) with h1 | h1
  · rcases Bool.eq_false_or_eq_true (Tx.acct t.to) with h2 | h2
    · rcases Bool.eq_false_or_eq_true (Tx.num t.nonce) with h3 | h3
      · rcases Bool.eq_false_or_eq_true (Tx.num t.fee) with h4 | h4
        · rcases Bool.eq_false_or_eq_true t.lane with h5 | h5
          · rcases Bool.eq_false_or_eq_true (Tx.num t.round) with h6 | h6
            · rcases Bool.eq_false_or_eq_true (Tx.num t.turn) with h7 | h7
              · rcases Nat.lt_or_ge 256 t.data.size with h8 | h8
                · rw [Tx.err_c3l h1 h2 h3 h4 h5 h6 h7 h8]; exact check4_c3l t ht w h1 h2 h3 h4 h5 h6 h7 h8
                · rw [Tx.err_c0l h1 h2 h3 h4 h5 h6 h7 h8]; exact check4_c0l t ht w h1 h2 h3 h4 h5 h6 h7 h8
              · rw [Tx.err_c2d h1 h2 h3 h4 h5 h6 h7]; exact check4_c2d t ht w h1 h2 h3 h4 h5 h6 h7
            · rw [Tx.err_c2c h1 h2 h3 h4 h5 h6]; exact check4_c2c t ht w h1 h2 h3 h4 h5 h6
          · rcases Bool.eq_false_or_eq_true t.plain with h6 | h6
            · rcases Nat.lt_or_ge 256 t.data.size with h8 | h8
              · rw [Tx.err_c3p h1 h2 h3 h4 h5 h6 h8]; exact check4_c3p t ht w h1 h2 h3 h4 h5 h6 h8
              · rw [Tx.err_c0p h1 h2 h3 h4 h5 h6 h8]; exact check4_c0p t ht w h1 h2 h3 h4 h5 h6 h8
            · rw [Tx.err_c2e h1 h2 h3 h4 h5 h6]; exact check4_c2e t ht w h1 h2 h3 h4 h5 h6
        · rw [Tx.err_c2b h1 h2 h3 h4]; exact check4_c2b t ht w h1 h2 h3 h4
      · rw [Tx.err_c2a h1 h2 h3]; exact check4_c2a t ht w h1 h2 h3
    · rw [Tx.err_c20b h1 h2]; exact check4_c20b t ht w h1 h2
  · rw [Tx.err_c20a h1]; exact check4_c20a t ht w h1
theorem within63 (n : Int) (w : World) : Calls Tryd.prog 86 #[.int .i64 n, .int .i64 63] w fun e w' => e = .returned (.bool (Tx.acct n)) ∧ w = w' := within4_any n 63 w
theorem within40 (n : Int) (w : World) : Calls Tryd.prog 86 #[.int .i64 n, .int .i64 1099511627776] w fun e w' => e = .returned (.bool (Tx.num n)) ∧ w = w' := within4_any n 1099511627776 w
theorem zero_lit : bRow Tx.zero = #[.int .u8 0, .int .u8 0, .int .u8 0, .int .u8 0, .int .u8 0, .int .u8 0, .int .u8 0, .int .u8 0, .int .u8 0, .int .u8 0, .int .u8 0, .int .u8 0, .int .u8 0, .int .u8 0, .int .u8 0, .int .u8 0, .int .u8 0, .int .u8 0, .int .u8 0, .int .u8 0, .int .u8 0, .int .u8 0, .int .u8 0, .int .u8 0, .int .u8 0, .int .u8 0, .int .u8 0, .int .u8 0, .int .u8 0, .int .u8 0, .int .u8 0, .int .u8 0] := by kernel_rfl
theorem hash_built : Tryd.prog.built 28 [] = some (bRow Tx.zero) := by kernel_rfl
set_option maxRecDepth 20000 in
theorem rcheck4_c20a (t : Tx) (ht : t.Ok) (w : World) (h1 : Tx.acct t.frm = false)  :
    Calls Tryd.prog 115 #[t.v] w fun e w' => e = .returned (.int .i64 20) ∧ Below w.heap.size w w' := by
  obtain ⟨c0, c1, c2, c3, c4, c5, c6, c7⟩ := tx_box ht (Row.new w 74 t.cells)
  have hrng := tx_range (Row.new w 74 t.cells)
  have hlen := Tx.cells_length ht
  have HL := Lib.hid hlen
  have Hrng := Lib.hid hrng
  have Hrow := Lib.hid (Row.new w 74 t.cells)
  have Ht := Lib.hid ht
  clear hlen hrng
  clear ht
  show Calls _ _ #[.agg t.cells.toArray] _ _
  go_enter Tryd.func115, Tryd.ntmps115
  go_wp2_with (first
    | (go_at_call 86; with_reducible refine (within63 _ _).mono ?_; rintro e w' ⟨rfl, rfl⟩)
    | (go_at_call 86; with_reducible refine (within40 _ _).mono ?_; rintro e w' ⟨rfl, rfl⟩))
  go_ret
  exact ⟨rfl, tx_below (grownBy_refl _ _)⟩
set_option maxRecDepth 20000 in
theorem rcheck4_c20b (t : Tx) (ht : t.Ok) (w : World) (h1 : Tx.acct t.frm = true) (h2 : Tx.acct t.to = false)  :
    Calls Tryd.prog 115 #[t.v] w fun e w' => e = .returned (.int .i64 20) ∧ Below w.heap.size w w' := by
  obtain ⟨c0, c1, c2, c3, c4, c5, c6, c7⟩ := tx_box ht (Row.new w 74 t.cells)
  have hrng := tx_range (Row.new w 74 t.cells)
  have hlen := Tx.cells_length ht
  have HL := Lib.hid hlen
  have Hrng := Lib.hid hrng
  have Hrow := Lib.hid (Row.new w 74 t.cells)
  have Ht := Lib.hid ht
  clear hlen hrng
  clear ht
  show Calls _ _ #[.agg t.cells.toArray] _ _
  go_enter Tryd.func115, Tryd.ntmps115
  go_wp2_with (first
    | (go_at_call 86; with_reducible refine (within63 _ _).mono ?_; rintro e w' ⟨rfl, rfl⟩)
    | (go_at_call 86; with_reducible refine (within40 _ _).mono ?_; rintro e w' ⟨rfl, rfl⟩))
  go_ret
  exact ⟨rfl, tx_below (grownBy_refl _ _)⟩
set_option maxRecDepth 20000 in
theorem rcheck4_c2a (t : Tx) (ht : t.Ok) (w : World) (h1 : Tx.acct t.frm = true) (h2 : Tx.acct t.to = true) (h3 : Tx.num t.nonce = false)  :
    Calls Tryd.prog 115 #[t.v] w fun e w' => e = .returned (.int .i64 2) ∧ Below w.heap.size w w' := by
  obtain ⟨c0, c1, c2, c3, c4, c5, c6, c7⟩ := tx_box ht (Row.new w 74 t.cells)
  have hrng := tx_range (Row.new w 74 t.cells)
  have hlen := Tx.cells_length ht
  have HL := Lib.hid hlen
  have Hrng := Lib.hid hrng
  have Hrow := Lib.hid (Row.new w 74 t.cells)
  have Ht := Lib.hid ht
  clear hlen hrng
  clear ht
  show Calls _ _ #[.agg t.cells.toArray] _ _
  go_enter Tryd.func115, Tryd.ntmps115
  go_wp2_with (first
    | (go_at_call 86; with_reducible refine (within63 _ _).mono ?_; rintro e w' ⟨rfl, rfl⟩)
    | (go_at_call 86; with_reducible refine (within40 _ _).mono ?_; rintro e w' ⟨rfl, rfl⟩))
  go_ret
  exact ⟨rfl, tx_below (grownBy_refl _ _)⟩
set_option maxRecDepth 20000 in
theorem rcheck4_c2b (t : Tx) (ht : t.Ok) (w : World) (h1 : Tx.acct t.frm = true) (h2 : Tx.acct t.to = true) (h3 : Tx.num t.nonce = true) (h4 : Tx.num t.fee = false)  :
    Calls Tryd.prog 115 #[t.v] w fun e w' => e = .returned (.int .i64 2) ∧ Below w.heap.size w w' := by
  obtain ⟨c0, c1, c2, c3, c4, c5, c6, c7⟩ := tx_box ht (Row.new w 74 t.cells)
  have hrng := tx_range (Row.new w 74 t.cells)
  have hlen := Tx.cells_length ht
  have HL := Lib.hid hlen
  have Hrng := Lib.hid hrng
  have Hrow := Lib.hid (Row.new w 74 t.cells)
  have Ht := Lib.hid ht
  clear hlen hrng
  clear ht
  show Calls _ _ #[.agg t.cells.toArray] _ _
  go_enter Tryd.func115, Tryd.ntmps115
  go_wp2_with (first
    | (go_at_call 86; with_reducible refine (within63 _ _).mono ?_; rintro e w' ⟨rfl, rfl⟩)
    | (go_at_call 86; with_reducible refine (within40 _ _).mono ?_; rintro e w' ⟨rfl, rfl⟩))
  go_ret
  exact ⟨rfl, tx_below (grownBy_refl _ _)⟩
set_option maxRecDepth 20000 in
theorem rcheck4_c2c (t : Tx) (ht : t.Ok) (w : World) (h1 : Tx.acct t.frm = true) (h2 : Tx.acct t.to = true) (h3 : Tx.num t.nonce = true) (h4 : Tx.num t.fee = true) (h5 : t.lane = true) (h6 : Tx.num t.round = false)  :
    Calls Tryd.prog 115 #[t.v] w fun e w' => e = .returned (.int .i64 2) ∧ Below w.heap.size w w' := by
  obtain ⟨c0, c1, c2, c3, c4, c5, c6, c7⟩ := tx_box ht (Row.new w 74 t.cells)
  have hrng := tx_range (Row.new w 74 t.cells)
  have hlen := Tx.cells_length ht
  have HL := Lib.hid hlen
  have Hrng := Lib.hid hrng
  have Hrow := Lib.hid (Row.new w 74 t.cells)
  have Ht := Lib.hid ht
  clear hlen hrng
  clear ht
  show Calls _ _ #[.agg t.cells.toArray] _ _
  go_enter Tryd.func115, Tryd.ntmps115
  go_wp2_with (first
    | (go_at_call 86; with_reducible refine (within63 _ _).mono ?_; rintro e w' ⟨rfl, rfl⟩)
    | (go_at_call 86; with_reducible refine (within40 _ _).mono ?_; rintro e w' ⟨rfl, rfl⟩))
  go_ret
  exact ⟨rfl, tx_below (grownBy_refl _ _)⟩
set_option maxRecDepth 20000 in
theorem rcheck4_c2d (t : Tx) (ht : t.Ok) (w : World) (h1 : Tx.acct t.frm = true) (h2 : Tx.acct t.to = true) (h3 : Tx.num t.nonce = true) (h4 : Tx.num t.fee = true) (h5 : t.lane = true) (h6 : Tx.num t.round = true) (h7 : Tx.num t.turn = false)  :
    Calls Tryd.prog 115 #[t.v] w fun e w' => e = .returned (.int .i64 2) ∧ Below w.heap.size w w' := by
  obtain ⟨c0, c1, c2, c3, c4, c5, c6, c7⟩ := tx_box ht (Row.new w 74 t.cells)
  have hrng := tx_range (Row.new w 74 t.cells)
  have hlen := Tx.cells_length ht
  have HL := Lib.hid hlen
  have Hrng := Lib.hid hrng
  have Hrow := Lib.hid (Row.new w 74 t.cells)
  have Ht := Lib.hid ht
  clear hlen hrng
  clear ht
  show Calls _ _ #[.agg t.cells.toArray] _ _
  go_enter Tryd.func115, Tryd.ntmps115
  go_wp2_with (first
    | (go_at_call 86; with_reducible refine (within63 _ _).mono ?_; rintro e w' ⟨rfl, rfl⟩)
    | (go_at_call 86; with_reducible refine (within40 _ _).mono ?_; rintro e w' ⟨rfl, rfl⟩))
  go_ret
  exact ⟨rfl, tx_below (grownBy_refl _ _)⟩
set_option maxRecDepth 20000 in
theorem rcheck4x_c2er (t : Tx) (ht : t.Ok) (w : World) (h1 : Tx.acct t.frm = true) (h2 : Tx.acct t.to = true) (h3 : Tx.num t.nonce = true) (h4 : Tx.num t.fee = true) (h5 : t.lane = false)  (k1 : (t.round == 0) = false) :
    Calls Tryd.prog 115 #[t.v] w fun e w' => e = .returned (.int .i64 2) ∧ Below w.heap.size w w' := by
  obtain ⟨c0, c1, c2, c3, c4, c5, c6, c7⟩ := tx_box ht (Row.new w 74 t.cells)
  have hrng := tx_range (Row.new w 74 t.cells)
  have hlen := Tx.cells_length ht
  have HL := Lib.hid hlen
  have Hrng := Lib.hid hrng
  have Hrow := Lib.hid (Row.new w 74 t.cells)
  have Ht := Lib.hid ht
  clear hlen hrng
  have Hby := Lib.hid (tx_hash_at Ht.out Hrow.out).1
  have Hb32 := Lib.hid (Tx.bRow_len _ Ht.out.bY)
  have k1' : (t.round != 0) = true := by simpa using k1
  clear ht
  show Calls _ _ #[.agg t.cells.toArray] _ _
  go_enter Tryd.func115, Tryd.ntmps115
  go_wp2_with (first
    | (go_at_call 86; with_reducible refine (within63 _ _).mono ?_; rintro e w' ⟨rfl, rfl⟩)
    | (go_at_call 86; with_reducible refine (within40 _ _).mono ?_; rintro e w' ⟨rfl, rfl⟩))
  go_ret
  exact ⟨rfl, tx_below (grownBy_refl _ _)⟩
set_option maxRecDepth 20000 in
theorem rcheck4x_c2et (t : Tx) (ht : t.Ok) (w : World) (h1 : Tx.acct t.frm = true) (h2 : Tx.acct t.to = true) (h3 : Tx.num t.nonce = true) (h4 : Tx.num t.fee = true) (h5 : t.lane = false)  (k1 : (t.round == 0) = true) (k2 : (t.turn == 0) = false) :
    Calls Tryd.prog 115 #[t.v] w fun e w' => e = .returned (.int .i64 2) ∧ Below w.heap.size w w' := by
  obtain ⟨c0, c1, c2, c3, c4, c5, c6, c7⟩ := tx_box ht (Row.new w 74 t.cells)
  have hrng := tx_range (Row.new w 74 t.cells)
  have hlen := Tx.cells_length ht
  have HL := Lib.hid hlen
  have Hrng := Lib.hid hrng
  have Hrow := Lib.hid (Row.new w 74 t.cells)
  have Ht := Lib.hid ht
  clear hlen hrng
  have Hby := Lib.hid (tx_hash_at Ht.out Hrow.out).1
  have Hb32 := Lib.hid (Tx.bRow_len _ Ht.out.bY)
  have k1' : (t.round != 0) = false := by simpa using k1
  have k2' : (t.turn != 0) = true := by simpa using k2
  clear ht
  show Calls _ _ #[.agg t.cells.toArray] _ _
  go_enter Tryd.func115, Tryd.ntmps115
  go_wp2_with (first
    | (go_at_call 86; with_reducible refine (within63 _ _).mono ?_; rintro e w' ⟨rfl, rfl⟩)
    | (go_at_call 86; with_reducible refine (within40 _ _).mono ?_; rintro e w' ⟨rfl, rfl⟩))
  go_ret
  exact ⟨rfl, tx_below (grownBy_refl _ _)⟩
set_option maxRecDepth 20000 in
theorem rcheck4x_c2eb (t : Tx) (ht : t.Ok) (w : World) (h1 : Tx.acct t.frm = true) (h2 : Tx.acct t.to = true) (h3 : Tx.num t.nonce = true) (h4 : Tx.num t.fee = true) (h5 : t.lane = false)  (k1 : (t.round == 0) = true) (k2 : (t.turn == 0) = true) (k3 : t.bY ≠ Tx.zero) :
    Calls Tryd.prog 115 #[t.v] w fun e w' => e = .returned (.int .i64 2) ∧ Below w.heap.size w w' := by
  obtain ⟨c0, c1, c2, c3, c4, c5, c6, c7⟩ := tx_box ht (Row.new w 74 t.cells)
  have hrng := tx_range (Row.new w 74 t.cells)
  have hlen := Tx.cells_length ht
  have HL := Lib.hid hlen
  have Hrng := Lib.hid hrng
  have Hrow := Lib.hid (Row.new w 74 t.cells)
  have Ht := Lib.hid ht
  clear hlen hrng
  have Hby := Lib.hid (tx_hash_at Ht.out Hrow.out).1
  have Hb32 := Lib.hid (Tx.bRow_len _ Ht.out.bY)
  have k1' : (t.round != 0) = false := by simpa using k1
  have k2' : (t.turn != 0) = false := by simpa using k2
  have heqs : ∀ W, (Op.equalIn 10000 28 (.agg (bRow t.bY)) (.agg #[.int .u8 0, .int .u8 0, .int .u8 0, .int .u8 0, .int .u8 0, .int .u8 0, .int .u8 0, .int .u8 0, .int .u8 0, .int .u8 0, .int .u8 0, .int .u8 0, .int .u8 0, .int .u8 0, .int .u8 0, .int .u8 0, .int .u8 0, .int .u8 0, .int .u8 0, .int .u8 0, .int .u8 0, .int .u8 0, .int .u8 0, .int .u8 0, .int .u8 0, .int .u8 0, .int .u8 0, .int .u8 0, .int .u8 0, .int .u8 0, .int .u8 0, .int .u8 0])).run Tryd.prog W = .ok false W := fun W => by rw [← zero_lit]; exact (hash_eq W t.bY Tx.zero Ht.out.bY rfl).trans (by rw [decide_eq_false k3])
  clear k3
  clear ht
  show Calls _ _ #[.agg t.cells.toArray] _ _
  go_enter Tryd.func115, Tryd.ntmps115
  go_wp2_with (first
    | (go_at_call 86; with_reducible refine (within63 _ _).mono ?_; rintro e w' ⟨rfl, rfl⟩)
    | (go_at_call 86; with_reducible refine (within40 _ _).mono ?_; rintro e w' ⟨rfl, rfl⟩)
    | (with_reducible show wpList _ _ _ (⟨_, .load 28 _, _, _, _, _⟩ :: _) _ _; refine wpList_load_tx rfl 28 (.tmp 44) rfl w.heap.size 8 rfl (bRow t.bY).toList _ Hby.out Tryd.underlying28 rfl (by rw [hash_info, Hb32.out]) ?_))
  go_ret
  exact ⟨rfl, tx_below (grownBy_refl _ _)⟩
set_option maxRecDepth 20000 in
theorem rcheck4_c3l (t : Tx) (ht : t.Ok) (w : World) (h1 : Tx.acct t.frm = true) (h2 : Tx.acct t.to = true) (h3 : Tx.num t.nonce = true) (h4 : Tx.num t.fee = true) (h5 : t.lane = true) (h6 : Tx.num t.round = true) (h7 : Tx.num t.turn = true) (h8 : 256 < t.data.size)  :
    Calls Tryd.prog 115 #[t.v] w fun e w' => e = .returned (.int .i64 3) ∧ Below w.heap.size w w' := by
  obtain ⟨c0, c1, c2, c3, c4, c5, c6, c7⟩ := tx_box ht (Row.new w 74 t.cells)
  have hrng := tx_range (Row.new w 74 t.cells)
  have hlen := Tx.cells_length ht
  have HL := Lib.hid hlen
  have Hrng := Lib.hid hrng
  have Hrow := Lib.hid (Row.new w 74 t.cells)
  have Ht := Lib.hid ht
  clear hlen hrng
  have h8' : (256 : Int) < (t.data.size : Int) := by omega
  clear ht
  show Calls _ _ #[.agg t.cells.toArray] _ _
  go_enter Tryd.func115, Tryd.ntmps115
  go_wp2_with (first
    | (go_at_call 86; with_reducible refine (within63 _ _).mono ?_; rintro e w' ⟨rfl, rfl⟩)
    | (go_at_call 86; with_reducible refine (within40 _ _).mono ?_; rintro e w' ⟨rfl, rfl⟩))
  go_ret
  exact ⟨rfl, tx_below (grownBy_refl _ _)⟩
set_option maxRecDepth 20000 in
theorem rcheck4_c0l (t : Tx) (ht : t.Ok) (w : World) (h1 : Tx.acct t.frm = true) (h2 : Tx.acct t.to = true) (h3 : Tx.num t.nonce = true) (h4 : Tx.num t.fee = true) (h5 : t.lane = true) (h6 : Tx.num t.round = true) (h7 : Tx.num t.turn = true) (h8 : t.data.size ≤ 256)  :
    Calls Tryd.prog 115 #[t.v] w fun e w' => e = .returned (.int .i64 0) ∧ Below w.heap.size w w' := by
  obtain ⟨c0, c1, c2, c3, c4, c5, c6, c7⟩ := tx_box ht (Row.new w 74 t.cells)
  have hrng := tx_range (Row.new w 74 t.cells)
  have hlen := Tx.cells_length ht
  have HL := Lib.hid hlen
  have Hrng := Lib.hid hrng
  have Hrow := Lib.hid (Row.new w 74 t.cells)
  have Ht := Lib.hid ht
  clear hlen hrng
  have h8' : (t.data.size : Int) ≤ 256 := by omega
  clear ht
  show Calls _ _ #[.agg t.cells.toArray] _ _
  go_enter Tryd.func115, Tryd.ntmps115
  go_wp2_with (first
    | (go_at_call 86; with_reducible refine (within63 _ _).mono ?_; rintro e w' ⟨rfl, rfl⟩)
    | (go_at_call 86; with_reducible refine (within40 _ _).mono ?_; rintro e w' ⟨rfl, rfl⟩))
  go_ret
  exact ⟨rfl, tx_below (grownBy_refl _ _)⟩
set_option maxRecDepth 20000 in
theorem rcheck4x_c3p (t : Tx) (ht : t.Ok) (w : World) (h1 : Tx.acct t.frm = true) (h2 : Tx.acct t.to = true) (h3 : Tx.num t.nonce = true) (h4 : Tx.num t.fee = true) (h5 : t.lane = false)  (h8 : 256 < t.data.size) (k1 : (t.round == 0) = true) (k2 : (t.turn == 0) = true) (k3 : t.bY = Tx.zero) :
    Calls Tryd.prog 115 #[t.v] w fun e w' => e = .returned (.int .i64 3) ∧ Below w.heap.size w w' := by
  obtain ⟨c0, c1, c2, c3, c4, c5, c6, c7⟩ := tx_box ht (Row.new w 74 t.cells)
  have hrng := tx_range (Row.new w 74 t.cells)
  have hlen := Tx.cells_length ht
  have HL := Lib.hid hlen
  have Hrng := Lib.hid hrng
  have Hrow := Lib.hid (Row.new w 74 t.cells)
  have Ht := Lib.hid ht
  clear hlen hrng
  have h8' : (256 : Int) < (t.data.size : Int) := by omega
  have Hby := Lib.hid (tx_hash_at Ht.out Hrow.out).1
  have Hb32 := Lib.hid (Tx.bRow_len _ Ht.out.bY)
  have k1' : (t.round != 0) = false := by simpa using k1
  have k2' : (t.turn != 0) = false := by simpa using k2
  have heqs : ∀ W, (Op.equalIn 10000 28 (.agg (bRow t.bY)) (.agg #[.int .u8 0, .int .u8 0, .int .u8 0, .int .u8 0, .int .u8 0, .int .u8 0, .int .u8 0, .int .u8 0, .int .u8 0, .int .u8 0, .int .u8 0, .int .u8 0, .int .u8 0, .int .u8 0, .int .u8 0, .int .u8 0, .int .u8 0, .int .u8 0, .int .u8 0, .int .u8 0, .int .u8 0, .int .u8 0, .int .u8 0, .int .u8 0, .int .u8 0, .int .u8 0, .int .u8 0, .int .u8 0, .int .u8 0, .int .u8 0, .int .u8 0, .int .u8 0])).run Tryd.prog W = .ok true W := fun W => by rw [← zero_lit]; exact (hash_eq W t.bY Tx.zero Ht.out.bY rfl).trans (by rw [decide_eq_true k3])
  clear k3
  clear ht
  show Calls _ _ #[.agg t.cells.toArray] _ _
  go_enter Tryd.func115, Tryd.ntmps115
  go_wp2_with (first
    | (go_at_call 86; with_reducible refine (within63 _ _).mono ?_; rintro e w' ⟨rfl, rfl⟩)
    | (go_at_call 86; with_reducible refine (within40 _ _).mono ?_; rintro e w' ⟨rfl, rfl⟩)
    | (with_reducible show wpList _ _ _ (⟨_, .load 28 _, _, _, _, _⟩ :: _) _ _; refine wpList_load_tx rfl 28 (.tmp 44) rfl w.heap.size 8 rfl (bRow t.bY).toList _ Hby.out Tryd.underlying28 rfl (by rw [hash_info, Hb32.out]) ?_))
  go_ret
  exact ⟨rfl, tx_below (grownBy_refl _ _)⟩
set_option maxRecDepth 20000 in
theorem rcheck4x_c0p (t : Tx) (ht : t.Ok) (w : World) (h1 : Tx.acct t.frm = true) (h2 : Tx.acct t.to = true) (h3 : Tx.num t.nonce = true) (h4 : Tx.num t.fee = true) (h5 : t.lane = false)  (h8 : t.data.size ≤ 256) (k1 : (t.round == 0) = true) (k2 : (t.turn == 0) = true) (k3 : t.bY = Tx.zero) :
    Calls Tryd.prog 115 #[t.v] w fun e w' => e = .returned (.int .i64 0) ∧ Below w.heap.size w w' := by
  obtain ⟨c0, c1, c2, c3, c4, c5, c6, c7⟩ := tx_box ht (Row.new w 74 t.cells)
  have hrng := tx_range (Row.new w 74 t.cells)
  have hlen := Tx.cells_length ht
  have HL := Lib.hid hlen
  have Hrng := Lib.hid hrng
  have Hrow := Lib.hid (Row.new w 74 t.cells)
  have Ht := Lib.hid ht
  clear hlen hrng
  have h8' : (t.data.size : Int) ≤ 256 := by omega
  have Hby := Lib.hid (tx_hash_at Ht.out Hrow.out).1
  have Hb32 := Lib.hid (Tx.bRow_len _ Ht.out.bY)
  have k1' : (t.round != 0) = false := by simpa using k1
  have k2' : (t.turn != 0) = false := by simpa using k2
  have heqs : ∀ W, (Op.equalIn 10000 28 (.agg (bRow t.bY)) (.agg #[.int .u8 0, .int .u8 0, .int .u8 0, .int .u8 0, .int .u8 0, .int .u8 0, .int .u8 0, .int .u8 0, .int .u8 0, .int .u8 0, .int .u8 0, .int .u8 0, .int .u8 0, .int .u8 0, .int .u8 0, .int .u8 0, .int .u8 0, .int .u8 0, .int .u8 0, .int .u8 0, .int .u8 0, .int .u8 0, .int .u8 0, .int .u8 0, .int .u8 0, .int .u8 0, .int .u8 0, .int .u8 0, .int .u8 0, .int .u8 0, .int .u8 0, .int .u8 0])).run Tryd.prog W = .ok true W := fun W => by rw [← zero_lit]; exact (hash_eq W t.bY Tx.zero Ht.out.bY rfl).trans (by rw [decide_eq_true k3])
  clear k3
  clear ht
  show Calls _ _ #[.agg t.cells.toArray] _ _
  go_enter Tryd.func115, Tryd.ntmps115
  go_wp2_with (first
    | (go_at_call 86; with_reducible refine (within63 _ _).mono ?_; rintro e w' ⟨rfl, rfl⟩)
    | (go_at_call 86; with_reducible refine (within40 _ _).mono ?_; rintro e w' ⟨rfl, rfl⟩)
    | (with_reducible show wpList _ _ _ (⟨_, .load 28 _, _, _, _, _⟩ :: _) _ _; refine wpList_load_tx rfl 28 (.tmp 44) rfl w.heap.size 8 rfl (bRow t.bY).toList _ Hby.out Tryd.underlying28 rfl (by rw [hash_info, Hb32.out]) ?_))
  go_ret
  exact ⟨rfl, tx_below (grownBy_refl _ _)⟩
theorem Tx.plain_iff {t : Tx} : t.plain = true ↔ ((t.round == 0) = true ∧ (t.turn == 0) = true ∧ t.bY = Tx.zero) := by simp [Tx.plain]
theorem rcheck4_c2e (t : Tx) (ht : t.Ok) (w : World) (h1 : Tx.acct t.frm = true) (h2 : Tx.acct t.to = true) (h3 : Tx.num t.nonce = true) (h4 : Tx.num t.fee = true) (h5 : t.lane = false) (h6 : t.plain = false) :
    Calls Tryd.prog 115 #[t.v] w fun e w' => e = .returned (.int .i64 2) ∧ Below w.heap.size w w' := by
  rcases Bool.eq_false_or_eq_true (t.round == 0) with k1 | k1
  · rcases Bool.eq_false_or_eq_true (t.turn == 0) with k2 | k2
    · by_cases k3 : t.bY = Tx.zero
      · rw [Tx.plain_iff.2 ⟨k1, k2, k3⟩] at h6; cases h6
      · exact rcheck4x_c2eb t ht w h1 h2 h3 h4 h5 k1 k2 k3
    · exact rcheck4x_c2et t ht w h1 h2 h3 h4 h5 k1 k2
  · exact rcheck4x_c2er t ht w h1 h2 h3 h4 h5 k1
theorem rcheck4_c3p (t : Tx) (ht : t.Ok) (w : World) (h1 : Tx.acct t.frm = true) (h2 : Tx.acct t.to = true) (h3 : Tx.num t.nonce = true) (h4 : Tx.num t.fee = true) (h5 : t.lane = false) (h6 : t.plain = true) (h8 : 256 < t.data.size) :
    Calls Tryd.prog 115 #[t.v] w fun e w' => e = .returned (.int .i64 3) ∧ Below w.heap.size w w' := by
  obtain ⟨k1, k2, k3⟩ := Tx.plain_iff.1 h6
  exact rcheck4x_c3p t ht w h1 h2 h3 h4 h5 h8 k1 k2 k3
theorem rcheck4_c0p (t : Tx) (ht : t.Ok) (w : World) (h1 : Tx.acct t.frm = true) (h2 : Tx.acct t.to = true) (h3 : Tx.num t.nonce = true) (h4 : Tx.num t.fee = true) (h5 : t.lane = false) (h6 : t.plain = true) (h8 : t.data.size ≤ 256) :
    Calls Tryd.prog 115 #[t.v] w fun e w' => e = .returned (.int .i64 0) ∧ Below w.heap.size w w' := by
  obtain ⟨k1, k2, k3⟩ := Tx.plain_iff.1 h6
  exact rcheck4x_c0p t ht w h1 h2 h3 h4 h5 h8 k1 k2 k3
theorem rcheck4_any (t : Tx) (ht : t.Ok) (w : World) :
    Calls Tryd.prog 115 #[t.v] w fun e w' => e = .returned (.int .i64 t.err) ∧ Below w.heap.size w w' := by
  rcases Bool.eq_false_or_eq_true (Tx.acct t.frm) with h1 | h1
  · rcases Bool.eq_false_or_eq_true (Tx.acct t.to) with h2 | h2
    · rcases Bool.eq_false_or_eq_true (Tx.num t.nonce) with h3 | h3
      · rcases Bool.eq_false_or_eq_true (Tx.num t.fee) with h4 | h4
        · rcases Bool.eq_false_or_eq_true t.lane with h5 | h5
          · rcases Bool.eq_false_or_eq_true (Tx.num t.round) with h6 | h6
            · rcases Bool.eq_false_or_eq_true (Tx.num t.turn) with h7 | h7
              · rcases Nat.lt_or_ge 256 t.data.size with h8 | h8
                · rw [Tx.err_c3l h1 h2 h3 h4 h5 h6 h7 h8]; exact rcheck4_c3l t ht w h1 h2 h3 h4 h5 h6 h7 h8
                · rw [Tx.err_c0l h1 h2 h3 h4 h5 h6 h7 h8]; exact rcheck4_c0l t ht w h1 h2 h3 h4 h5 h6 h7 h8
              · rw [Tx.err_c2d h1 h2 h3 h4 h5 h6 h7]; exact rcheck4_c2d t ht w h1 h2 h3 h4 h5 h6 h7
            · rw [Tx.err_c2c h1 h2 h3 h4 h5 h6]; exact rcheck4_c2c t ht w h1 h2 h3 h4 h5 h6
          · rcases Bool.eq_false_or_eq_true t.plain with h6 | h6
            · rcases Nat.lt_or_ge 256 t.data.size with h8 | h8
              · rw [Tx.err_c3p h1 h2 h3 h4 h5 h6 h8]; exact rcheck4_c3p t ht w h1 h2 h3 h4 h5 h6 h8
              · rw [Tx.err_c0p h1 h2 h3 h4 h5 h6 h8]; exact rcheck4_c0p t ht w h1 h2 h3 h4 h5 h6 h8
            · rw [Tx.err_c2e h1 h2 h3 h4 h5 h6]; exact rcheck4_c2e t ht w h1 h2 h3 h4 h5 h6
        · rw [Tx.err_c2b h1 h2 h3 h4]; exact rcheck4_c2b t ht w h1 h2 h3 h4
      · rw [Tx.err_c2a h1 h2 h3]; exact rcheck4_c2a t ht w h1 h2 h3
    · rw [Tx.err_c20b h1 h2]; exact rcheck4_c20b t ht w h1 h2
  · rw [Tx.err_c20a h1]; exact rcheck4_c20a t ht w h1
end Go.Proofs.YtlapmdgkcidhnaaDoor

/- ---- OwnStep ---- -/
/- append onto a slice of the call's own, as one step of a region that draws its order. -/
namespace Go.Proofs.YtlapmdgkcidhnaaDoor
open Go.RowKit
set_option linter.unusedVariables false
set_option linter.unusedSimpArgs false

theorem step_append_own {P : Program} {ops : Array Oper} {o : Oper} {a : Act} {w : World} {K : Act → World → Prop} {Q : Exit → Act → World → Prop} {E : Prop}
    (hg : o.guard = none) (s x : Operand) (t : TypeId) (hop : o.op = Op.call { callee := Callee.builtin Builtin.append, args := #[s, x], argTypes := #[t, t] })
    (base : Nat) (e : TypeId) (i : TypeInfo) (z : Value) (size bytes : Nat) (ht : P.underlying t = some (.slice e)) (hi : P.info? e = some i) (hz : i.zero = some z)
    (hsize : i.size = size) (hby : i.bytes = bytes) (hzs : z.cells.size = size) (hsz : 0 < size)
    (v : Value) (n : Nat) (xs : List Value) (hs : a.eval s = v) (hown : w.ownsRow base e size v n xs)
    (ad : Addr) (m c : Nat) (news : List Value) (hx : a.eval x = .slice (some ad) m c) (hl : news.length = m * size) (hnews : ∀ j u, news[j]? = some u → w.cell? (ad.add j) = some u) (h1 : ∀ u ∈ news, u.oneCell' = true) (hm : 0 < m)
    (h63 : n + m ≤ maxLen) (hbytes : ((n + m) + (n + m) / 4 + 192) * bytes ≤ 281474976710656) (hbase : base ≤ w.heap.size)
    (h : ∀ g cap w', w'.ownsRow base e size (.slice (some ⟨g, 0, none⟩) (n + m) cap) (n + m) (xs ++ news) → w.grownBy w' v.ownBlock → K (a.put o.dst (.slice (some ⟨g, 0, none⟩) (n + m) cap)) w') :
    if Region.wanted o (yielded ops a.tmps) = true then Oper.wp P o a w K Q else E := by
  have hw : Region.wanted o (yielded ops a.tmps) = true := by simp [Region.wanted, hg]
  rw [if_pos hw]
  refine wp_append_own_wide w s x t hop base e i z size bytes ht hi hz hsize hby hzs hsz v n xs hs hown ad m c news hx hl hnews h1 h63 hbytes hbase fun v' w' h2 h3 h4 => ?_
  obtain ⟨m', rfl⟩ : ∃ m', m = m' + 1 := ⟨m - 1, by omega⟩
  obtain ⟨g, cap, rfl⟩ := ownsRow_succ h2
  exact h g cap w' h2 h3
end Go.Proofs.YtlapmdgkcidhnaaDoor

/- ---- TxBodies ---- -/
/- tx.Body: its closure lay, and Body. -/
/- tx.Body. -/
namespace Go.Proofs.YtlapmdgkcidhnaaDoor
open Go.RowKit
set_option linter.unusedVariables false
set_option linter.unusedSimpArgs false

/-- the variable in block B holds a slice of texts of the call's own -/
def VarT (w : World) (base B : Nat) (L : List (List UInt8)) : Prop :=
  ∃ v, Row w B 133 [v] ∧ w.ownsRow base 9 1 v L.length (L.map S)
theorem apart_of {w : World} {base B n : Nat} {t : TypeId} {v : Value} {xs ys : List Value} (hv : Row w B t ys) (ht : t ≠ 9) (hown : w.ownsRow base 9 1 v n xs) : some B ≠ v.ownBlock := by
  intro e
  rcases hown.2 with ⟨rfl, _⟩ | ⟨g, cap, cur, rfl, hg, hh, _⟩
  · simp [Value.ownBlock] at e
  · simp only [Value.ownBlock, Option.some.injEq] at e
    subst e
    unfold Row at hv
    rw [hh] at hv
    simp at hv
    exact ht hv.2.symm
theorem number_ok (n : Int) (w : World) (h0 : 0 ≤ n) (h1 : n ≤ 9223372036854775807) :
    Calls Tryd.prog 121 #[.int .i64 n] w fun e w' => e = .returned (.tuple #[S (Oct.num n.toNat), .int .i64 0]) ∧ Below w.heap.size w w' := by
  have := Number_any n w h1
  unfold Oct.numE at this
  rw [if_neg (by omega)] at this
  exact this
/-- a text put behind those of the variable -/
theorem varT_push {w w1 : World} {base B nb : Nat} {L : List (List UInt8)} {v v' : Value} {s : List UInt8} {Q : List Value} {tq : TypeId} (hv : Row w B 133 [v]) (hown : w.ownsRow base 9 1 v L.length (L.map S))
    (hown' : w1.ownsRow base 9 1 v' (L.length + 1) (L.map S ++ [S s])) (hgrow : w.grownBy w1 v.ownBlock) (hB : base ≤ B) :
    w1.cell? ⟨B, 0, none⟩ = some v ∧ w1.frozen? ⟨B, 0, none⟩ = false ∧ VarT (w1.setCell ⟨B, 0, none⟩ v') base B (L ++ [s]) ∧ (∀ a, Below base a w → Below base a (w1.setCell ⟨B, 0, none⟩ v')) := by
  have hv1 := hv.kept hgrow (apart_of hv (by decide) hown)
  have hv1c := hv1.cell 0 (by simp)
  refine ⟨hv1c, hv1.free 0, ⟨v', hv1.set 0 v' (by simp), ?_⟩, fun a ha => ?_⟩
  · have := ownsRow_setCell_other hown' (fun e => apart_of hv1 (by decide) hown' e.symm) (a := ⟨B, 0, none⟩) v'
    simpa using this
  · exact (ha.grown hgrow (by have := ha.size; have := hv.lt; omega) (fun k hk => (hown.lt k hk).1)).setCell hB _
theorem nums_kept {w w1 : World} {base B nb : Nat} {L : List (List UInt8)} {v v' : Value} {ns : List Int} (hv : Row w B 133 [v]) (hown : w.ownsRow base 9 1 v L.length (L.map S)) (hgrow : w.grownBy w1 v.ownBlock) (hN : Row w nb 3 (Is ns)) :
    Row (w1.setCell ⟨B, 0, none⟩ v') nb 3 (Is ns) := by
  have hne : nb ≠ B := by
    rintro rfl
    unfold Row at hv hN
    rw [hv] at hN
    simp at hN
  exact (hN.kept hgrow (apart_of hN (by decide) hown)).kept (grownBy_set w1 B 0 v') (by simpa using hne)
theorem str_info5 : (Tryd.prog.info? 9).map (fun i => (i.zero, i.size, i.bytes)) = some (some (.string ByteArray.empty), 1, 16) := by kernel_rfl
theorem one_text (w : World) (t : TypeId) (s : List UInt8) : ∀ j u, [S s][j]? = some u → (w.alloc (.cells #[S s] t)).cell? ((⟨w.heap.size, 0, none⟩ : Addr).add j) = some u := by
  intro j u hj
  match j, hj with
  | 0, hj =>
    simp at hj
    subst hj
    simp [Addr.add]
theorem one_textc (s : List UInt8) : ∀ u ∈ [S s], u.oneCell' = true := by
  intro u hu
  simp at hu
  subst hu
  rfl
set_option maxRecDepth 20000 in
set_option maxHeartbeats 400000 in
theorem lay_any (ns : List Int) (c : Nat) (hns : ∀ n ∈ ns, 0 ≤ n ∧ n ≤ 9223372036854775807) (w : World) (base B nb : Nat) (L : List (List UInt8)) (hV : VarT w base B L) (hB : base ≤ B) (hN : Row w nb 3 (Is ns)) (hlen : L.length + ns.length ≤ 1000) :
    Calls Tryd.prog 120 #[.slice (some ⟨nb, 0, none⟩) ns.length c, .pointer (some ⟨B, 0, none⟩)] w fun e w' => e = .returned (.tuple #[]) ∧ VarT w' base B (L ++ ns.map fun n => Oct.num n.toNat) ∧ Below base w w' := by
  obtain ⟨i0, hi, h2⟩ := Option.map_eq_some_iff.1 str_info5
  simp only [Prod.mk.injEq] at h2
  obtain ⟨hz, hs, hby⟩ := h2
  have Hi := Lib.hid hi
  have Hz := Lib.hid hz
  have Hs := Lib.hid hs
  have Hby := Lib.hid hby
  have HV := Lib.hid hV
  have HN := Lib.hid hN
  have Hns := Lib.hid hns
  have hBw : base ≤ w.heap.size := by obtain ⟨v, h, _⟩ := hV; have := h.lt; omega
  obtain ⟨m, hm⟩ : ∃ m, m = ns.length := ⟨_, rfl⟩
  rw [← hm] at hlen ⊢
  have Hm := Lib.hid hm
  clear hi hz hs hby hV hN hns hm
  go_enter Tryd.func120, Tryd.ntmps120
  go_wp2_with fail
  go_loopw [9] (fun i wr => ∃ k : Nat, k ≤ m ∧ i = .int .i64 k ∧ VarT wr base B (L ++ (ns.take k).map fun n => Oct.num n.toNat) ∧ Row wr nb 3 (Is ns) ∧ Below base w wr) (fun i _ => m - (intOf i).toNat)
  case atStart => exact ⟨0, Nat.zero_le _, rfl, by simpa using HV.out, HN.out, Below.refl _ _⟩
  case round =>
    obtain ⟨k, hk, rfl, hVr, hNr, hbr⟩ := hrel
    obtain ⟨v, hv, hown⟩ := hVr
    have HNr := Lib.hid hNr
    have Hbr := Lib.hid hbr
    have Hv := Lib.hid hv
    have Hown := Lib.hid hown
    clear hNr hbr hv hown
    by_cases hlt : k < m
    · have hki : (k : Int) < (m : Int) := by omega
      have hkn : k < ns.length := by rw [← Hm.out]; exact hlt
      have cn := HNr.out.num k hkn
      obtain ⟨x, hx⟩ : ∃ x, x = ns.getD k 0 := ⟨_, rfl⟩
      have hxn : ns[k] = x := by rw [hx]; simp [List.getD, hkn]
      have hxb := Hns.out x (by rw [← hxn]; exact List.getElem_mem hkn)
      have htk : (L ++ (ns.take (k + 1)).map fun n => Oct.num n.toNat) = (L ++ (ns.take k).map fun n => Oct.num n.toNat) ++ [Oct.num x.toNat] := by
        rw [List.take_succ_eq_append_getElem hkn, List.map_append, List.append_assoc, hxn]; rfl
      rw [← hx] at cn
      have Htk := Lib.hid htk
      have hLl : (L ++ (ns.take k).map fun n => Oct.num n.toNat).length ≤ 1000 := by
        rw [List.length_append, List.length_map, List.length_take]; omega
      generalize (L ++ (ns.take k).map fun n => Oct.num n.toNat) = K at *
      clear htk hx hxn hkn
      go_wp2_with fail
      refine (number_ok x _ hxb.1 hxb.2).mono ?_
      rintro _ w1 ⟨rfl, hb1⟩
      have hg1 := grownBy_of_below hb1 none
      have hv1 := Hv.out.kept hg1 (by simp)
      have hown1 := Hown.out.kept hg1 (by cases v.ownBlock <;> simp)
      have hN1 := HNr.out.kept hg1 (by simp)
      have hb1' : Below base w w1 := Hbr.out.grown hg1 (Nat.le_trans hBw Hbr.out.size) (fun k hk => by cases hk)
      have hv2 := hv1.kept (grownBy_alloc w1 (.cells #[S (Oct.num x.toNat)] 9) none) (by simp)
      have hown2 := hown1.alloc (.cells #[S (Oct.num x.toNat)] 9)
      have hN2 := hN1.kept (grownBy_alloc w1 (.cells #[S (Oct.num x.toNat)] 9) none) (by simp)
      have hb2 : Below base w (w1.alloc (.cells #[S (Oct.num x.toNat)] 9)) := hb1'.alloc (Nat.le_trans hBw hb1'.size) _
      have cv := hv1.cell 0 (by simp)
      have hlt1 := hv1.lt
      simp only [List.getElem_cons_zero] at cv
      have hsz2 : base ≤ (w1.alloc (.cells #[S (Oct.num x.toNat)] 9)).heap.size := Nat.le_trans hBw hb2.size
      have hk63 : K.length + 1 ≤ maxLen := by unfold maxLen; omega
      have hk48 : ((K.length + 1) + (K.length + 1) / 4 + 192) * 16 ≤ 281474976710656 := by omega
      have Hv2 := Lib.hid hv2
      have Hown2 := Lib.hid hown2
      have HN2 := Lib.hid hN2
      have Hb2 := Lib.hid hb2
      clear hb1 hg1 hv1 hown1 hN1 hb1' hv2 hown2 hN2 hb2 Hv Hown HNr Hbr cn
      go_wp2_with (at_builtin; refine wpList_append_own_wide _ rfl (.tmp 18) (.tmp 20) 133 rfl base 9 i0 (.string ByteArray.empty) 1 16 Tryd.underlying133 Hi.out Hz.out Hs.out Hby.out rfl (by decide) _ _ _ rfl Hown2.out ⟨w1.heap.size, 0, none⟩ 1 1 [S (Oct.num x.toNat)] rfl rfl (one_text _ _ _) (one_textc _) hk63 hk48 hsz2 ?_
                   intro v' w3 hown3 hgrow3 _
                   obtain ⟨g, cap, rfl⟩ := ownsRow_succ hown3
                   obtain ⟨cB, fB, hV3, hb3⟩ := varT_push (nb := nb) (Q := []) (tq := 0) Hv2.out Hown2.out hown3 hgrow3 hB
                   have hN3 := nums_kept (v' := .slice (some ⟨g, 0, none⟩) (K.length + 1) cap) Hv2.out Hown2.out hgrow3 HN2.out
                   have HV3 := Lib.hid hV3
                   have Hb3 := Lib.hid (hb3 w Hb2.out)
                   have HN3 := Lib.hid hN3
                   clear hown3 hgrow3 hV3 hb3 hN3 cv)
      refine ⟨⟨k + 1, hlt, by go_num, by rw [Htk.out]; exact HV3.out, HN3.out, Hb3.out⟩, by simp [intOf]; omega⟩
    · have hki : (m : Int) ≤ (k : Int) := by omega
      have ekm : k = m := by omega
      have hfin : VarT wr base B (L ++ ns.map fun n => Oct.num n.toNat) := by
        refine ⟨v, Hv.out, ?_⟩
        have h := Hown.out
        rw [show ns.take k = ns by rw [ekm, Hm.out, List.take_length]] at h
        exact h
      have Hfin := Lib.hid hfin
      clear hfin ekm
      go_wp2_with fail
      go_end0
      exact ⟨rfl, Hfin.out, Hbr.out⟩
end Go.Proofs.YtlapmdgkcidhnaaDoor
namespace Go.Proofs.YtlapmdgkcidhnaaDoor
open Go.RowKit
set_option linter.unusedVariables false
set_option linter.unusedSimpArgs false

namespace Tx
def lays (t : Tx) : List (List UInt8) := [Oct.num t.frm.toNat, Oct.num t.nonce.toNat, Oct.num t.fee.toNat, Oct.num t.to.toNat]
def fields (t : Tx) : List (List UInt8) := (t.lays ++ [t.data.data.toList]) ++ (if t.lane = true then [Oct.num t.round.toNat, Oct.num t.turn.toNat] else [])
def bodyE (t : Tx) : List UInt8 × Int := if t.err = 0 then Oct.listE t.fields else ([], t.err)
theorem err_ok {t : Tx} (h : t.err = 0) : (0 ≤ t.frm ∧ t.frm ≤ 63) ∧ (0 ≤ t.nonce ∧ t.nonce ≤ 1099511627776) ∧ (0 ≤ t.fee ∧ t.fee ≤ 1099511627776) ∧ (0 ≤ t.to ∧ t.to ≤ 63) ∧ (t.lane = true → (0 ≤ t.round ∧ t.round ≤ 1099511627776) ∧ (0 ≤ t.turn ∧ t.turn ≤ 1099511627776)) ∧ (t.lane = false → t.round = 0 ∧ t.turn = 0 ∧ t.bY = zero) ∧ t.data.size ≤ 256 := by
  unfold err at h
  split at h
  · omega
  next h1 =>
  split at h
  · omega
  next h2 =>
  split at h
  · omega
  next h3 =>
  split at h
  · omega
  next h4 =>
  simp only [not_or, Bool.not_eq_false, not_and, acct, num, plain, Bool.and_eq_true, decide_eq_true_eq] at h1 h2 h3
  refine ⟨h1.1, h2.1, h2.2, h1.2, fun hl => ?_, fun hl => ?_, by omega⟩
  · have := h3.1 hl
    exact this
  · exact h3.2 hl
end Tx
theorem row_under {w w' : World} {base g : Nat} {t : TypeId} {xs : List Value} (h : Row w g t xs) (hb : Below base w w') (hlt : g < base) : Row w' g t xs := (hb.block g hlt).trans h
theorem below_own {w0 W W' : World} {r : Option Nat} (h : Below w0.heap.size w0 W) (hg : W.grownBy W' r) (hr : ∀ k, r = some k → w0.heap.size ≤ k) : Below w0.heap.size w0 W' := h.grown hg h.size hr
theorem below_set {w0 W : World} {g i : Nat} {v : Value} (h : Below w0.heap.size w0 W) (hg : w0.heap.size ≤ g) : Below w0.heap.size w0 (W.setCell ⟨g, i, none⟩ v) :=
  h.grown (grownBy_set W g i v) h.size (fun k hk => by cases hk; exact hg)
/-- octets.List over texts of the call's own -/
theorem list_own (L : List (List UInt8)) (base g k cap : Nat) (W : World) (h : W.ownsRow base 9 1 (.slice (some ⟨g, 0, none⟩) k cap) k (L.map S)) (hk : k = L.length) :
    Calls Tryd.prog 80 #[.slice (some ⟨g, 0, none⟩) k cap] W fun e w' => e = .returned (.tuple #[S (Oct.listE L).1, .int .i64 (Oct.listE L).2]) ∧ Below W.heap.size W w' := by
  subst hk
  obtain ⟨A, c, hA, hT⟩ := texts_own h
  obtain ⟨rfl, rfl⟩ : some (⟨g, 0, none⟩ : Addr) = A ∧ cap = c := by simpa using hA
  exact List_any _ _ L W hT
theorem own_push {w w1 : World} {base B : Nat} {L : List (List UInt8)} {v v' : Value} {s : List UInt8} (hv : Row w B 133 [v]) (hown : w.ownsRow base 9 1 v L.length (L.map S))
    (hown' : w1.ownsRow base 9 1 v' (L.length + 1) (L.map S ++ [S s])) (hgrow : w.grownBy w1 v.ownBlock) : (w1.setCell ⟨B, 0, none⟩ v').ownsRow base 9 1 v' (L.length + 1) ((L ++ [s]).map S) := by
  have hv1 := hv.kept hgrow (apart_of hv (by decide) hown)
  have := ownsRow_setCell_other hown' (fun e => apart_of hv1 (by decide) hown' e.symm) (a := ⟨B, 0, none⟩) v'
  simpa using this
set_option maxRecDepth 20000 in
theorem body_no (t : Tx) (ht : t.Ok) (w : World) (he : t.err ≠ 0) :
    Calls Tryd.prog 95 #[t.v] w fun e w' => e = .returned (two (t.bodyE).1 (t.bodyE).2) ∧ Below w.heap.size w w' := by
  unfold Tx.bodyE
  rw [if_neg he]
  have hrng := tx_range (Row.new w 74 t.cells)
  have hlen := Tx.cells_length ht
  have CH : Hid (∀ W, Calls Tryd.prog 90 #[.agg t.cells.toArray] W fun e w' => e = .returned (.int .i64 t.err) ∧ Below W.heap.size W w') := fun W => check4_any t ht W
  have hne : (t.err != 0) = true := by simpa using he
  show Calls _ _ #[.agg t.cells.toArray] _ _
  generalize t.cells = C at *
  generalize t.err = er at *
  have HL := Lib.hid hlen
  have Hrng := Lib.hid hrng
  clear hlen hrng he ht
  go_enter Tryd.func95, Tryd.ntmps95
  go_wp2_with (with_reducible show wpList _ _ _ (⟨_, .load 74 _, _, _, _, _⟩ :: _) _ _; refine wpList_load_tx rfl 74 (.tmp 1) rfl w.heap.size 0 rfl C _ Hrng.out Tryd.underlying74 rfl (by rw [tx_info, HL.out]) ?_)
  refine (CH.out _).mono ?_
  rintro _ w1 ⟨rfl, hb1⟩
  have Hb1 := Lib.hid (tx_below (grownBy_of_below hb1 none))
  clear hb1
  go_wp2_with fail
  go_ret2
  exact ⟨rfl, Hb1.out⟩
set_option maxRecDepth 20000 in
set_option maxHeartbeats 800000 in
theorem body_ok (t : Tx) (ht : t.Ok) (w : World) (he : t.err = 0) :
    Calls Tryd.prog 95 #[t.v] w fun e w' => e = .returned (two (t.bodyE).1 (t.bodyE).2) ∧ Below w.heap.size w w' := by
  have hB : t.bodyE = Oct.listE t.fields := by unfold Tx.bodyE; rw [if_pos he]
  rw [hB]
  obtain ⟨i0, hi, h2⟩ := Option.map_eq_some_iff.1 str_info5
  simp only [Prod.mk.injEq] at h2
  obtain ⟨hz, hs, hby⟩ := h2
  have Hi := Lib.hid hi
  have Hz := Lib.hid hz
  have Hs := Lib.hid hs
  have Hby := Lib.hid hby
  obtain ⟨k1, k2, k3, k4, k5, k6, k7⟩ := Tx.err_ok he
  have hrow0 := Row.new w 74 t.cells
  have hrng := tx_range hrow0
  have hlen := Tx.cells_length ht
  have CH : Hid (∀ W, Calls Tryd.prog 90 #[.agg t.cells.toArray] W fun e w' => e = .returned (.int .i64 0) ∧ Below W.heap.size W w') := fun W => by
    have := check4_any t ht W
    rw [he] at this
    exact this
  have BX : Hid (∀ (W : World) (g : Nat) (T : TypeId), Row W g T t.cells → W.cell? ⟨g, 0, none⟩ = some (.int .i64 t.frm) ∧ W.cell? ⟨g, 1, none⟩ = some (.int .i64 t.nonce) ∧ W.cell? ⟨g, 2, none⟩ = some (.int .i64 t.fee) ∧ W.cell? ⟨g, 3, none⟩ = some (.int .i64 t.to) ∧
    W.cell? ⟨g, 4, none⟩ = some (.string t.data) ∧ W.cell? ⟨g, 5, none⟩ = some (.bool t.lane) ∧ W.cell? ⟨g, 6, none⟩ = some (.int .i64 t.round) ∧ W.cell? ⟨g, 7, none⟩ = some (.int .i64 t.turn)) := fun W g T h => tx_box ht h
  have L1 : Hid (∀ (W : World) (B nb : Nat), VarT W B B [] → Row W nb 3 (Is [t.frm, t.nonce, t.fee, t.to]) → Calls Tryd.prog 120 #[.slice (some ⟨nb, 0, none⟩) 4 4, .pointer (some ⟨B, 0, none⟩)] W fun e w' => e = .returned (.tuple #[]) ∧ VarT w' B B t.lays ∧ Below B W w') := fun W B nb hV hN => by
    have := lay_any [t.frm, t.nonce, t.fee, t.to] 4 (by intro n hn; simp at hn; rcases hn with rfl | rfl | rfl | rfl <;> omega) W B B nb [] hV (Nat.le_refl _) hN (by simp)
    exact this
  have L2 : Hid (∀ (W : World) (B nb : Nat), VarT W B B (t.lays ++ [t.data.data.toList]) → t.lane = true → Row W nb 3 (Is [t.round, t.turn]) → Calls Tryd.prog 120 #[.slice (some ⟨nb, 0, none⟩) 2 2, .pointer (some ⟨B, 0, none⟩)] W fun e w' => e = .returned (.tuple #[]) ∧ VarT w' B B t.fields ∧ Below B W w') := fun W B nb hV hl hN => by
    have hb := k5 hl
    have := lay_any [t.round, t.turn] 2 (by intro n hn; simp at hn; rcases hn with rfl | rfl <;> omega) W B B nb (t.lays ++ [t.data.data.toList]) hV (Nat.le_refl _) hN (by simp [Tx.lays])
    unfold Tx.fields
    rw [if_pos hl]
    exact this
  have hfl : t.lane = false → t.fields = t.lays ++ [t.data.data.toList] := by
    intro h
    unfold Tx.fields
    rw [if_neg (by rw [h]; simp), List.append_nil]
  have Hfl := Lib.hid hfl
  have hmf : ∀ (fn : Fn) (first cap : Array Value) (w : World), (Instr.makeFunc fn first cap).run Tryd.prog w = .ok (.func fn first cap) w := fun _ _ _ _ => rfl
  have hS : S t.data.data.toList = .string t.data := rfl
  have hl5 : t.lays.length = 4 := rfl
  show Calls _ _ #[.agg t.cells.toArray] _ _
  generalize hLy : t.lays = Ly at *
  generalize t.cells = C at *
  have HL := Lib.hid hlen
  have Hrng := Lib.hid hrng
  have Hrow0 := Lib.hid hrow0
  have HSd := Lib.hid hS
  have Hl5 := Lib.hid hl5
  clear hi hz hs hby hrow0 hlen hrng hfl hB he ht k1 k2 k3 k4 k5 k6 k7 hLy hS hl5
  go_enter Tryd.func95, Tryd.ntmps95
  go_wp2_with (with_reducible show wpList _ _ _ (⟨_, .load 74 _, _, _, _, _⟩ :: _) _ _; refine wpList_load_tx rfl 74 (.tmp 1) rfl w.heap.size 0 rfl C _ Hrng.out Tryd.underlying74 rfl (by rw [tx_info, HL.out]) ?_)
  refine (CH.out _).mono ?_
  rintro _ w1 ⟨rfl, hb1⟩
  have hg1 := grownBy_of_below hb1 none
  have hr1 := Hrow0.out.kept hg1 (by simp)
  obtain ⟨c0, c1, c2, c3, c4, c5, c6, c7⟩ := BX.out _ _ _ hr1
  have hlt1 := hr1.lt
  have Hb1 := Lib.hid (tx_below hg1)
  have Hr1 := Lib.hid hr1
  clear hb1 hg1 hr1 Hrng
  go_wp2_with fail
  have hV0 : VarT ((w1.alloc (.cells #[.slice none 0 0] 133)).alloc (.cells #[.int .i64 t.frm, .int .i64 t.nonce, .int .i64 t.fee, .int .i64 t.to] 3)) w1.heap.size w1.heap.size [] :=
    ⟨.slice none 0 0, (Row.new w1 _ [.slice none 0 0]).kept (grownBy_alloc _ _ none) (by simp), World.ownsRow_nil _ _ _ _⟩
  have hN0 : Row ((w1.alloc (.cells #[.slice none 0 0] 133)).alloc (.cells #[.int .i64 t.frm, .int .i64 t.nonce, .int .i64 t.fee, .int .i64 t.to] 3)) (w1.heap.size + 1) 3 (Is [t.frm, t.nonce, t.fee, t.to]) := by
    have h := Row.new (w1.alloc (.cells #[.slice none 0 0] 133)) 3 (Is [t.frm, t.nonce, t.fee, t.to])
    rw [show ∀ (W : World) (o : Obj), (W.alloc o).heap.size = W.heap.size + 1 from fun W o => by simp] at h
    exact h
  have hR0 : Row ((w1.alloc (.cells #[.slice none 0 0] 133)).alloc (.cells #[.int .i64 t.frm, .int .i64 t.nonce, .int .i64 t.fee, .int .i64 t.to] 3)) w.heap.size 74 C :=
    (Hr1.out.kept (grownBy_alloc _ _ none) (by simp)).kept (grownBy_alloc _ _ none) (by simp)
  have hB0 : Below w.heap.size w ((w1.alloc (.cells #[.slice none 0 0] 133)).alloc (.cells #[.int .i64 t.frm, .int .i64 t.nonce, .int .i64 t.fee, .int .i64 t.to] 3)) :=
    (Hb1.out.alloc Hb1.out.size _).alloc (by have := Hb1.out.size; simp; omega) _
  refine (L1.out _ _ _ hV0 hN0).mono ?_
  rintro _ w3 ⟨rfl, hV3, hb3⟩
  have hr3 := row_under hR0 hb3 hlt1
  have hbt3 : Below w.heap.size w w3 := hB0.trans (hb3.mono (by omega))
  obtain ⟨v3, hv3, ho3⟩ := hV3
  have cv3 := hv3.cell 0 (by simp)
  simp only [List.getElem_cons_zero] at cv3
  obtain ⟨d0, d1, d2, d3, d4, d5, d6, d7⟩ := BX.out _ _ _ hr3
  have hlt3 := hv3.lt
  have hv3a := hv3.kept (grownBy_alloc w3 (.cells #[S t.data.data.toList] 9) none) (by simp)
  have ho3a := ho3.alloc (.cells #[S t.data.data.toList] 9)
  have hb3a : Below w.heap.size w (w3.alloc (.cells #[S t.data.data.toList] 9)) := hbt3.alloc hbt3.size _
  have hr3a := hr3.kept (grownBy_alloc w3 (.cells #[S t.data.data.toList] 9) none) (by simp)
  have hz3 : w1.heap.size ≤ (w3.alloc (.cells #[S t.data.data.toList] 9)).heap.size := by simp; omega
  have Hv3a := Lib.hid hv3a
  have Ho3a := Lib.hid ho3a
  have Hb3a := Lib.hid hb3a
  have Hr3a := Lib.hid hr3a
  have hk63 : Ly.length + 1 ≤ maxLen := by have := Hl5.out; unfold maxLen; omega
  have hk48 : ((Ly.length + 1) + (Ly.length + 1) / 4 + 192) * 16 ≤ 281474976710656 := by have := Hl5.out; omega
  clear hV0 hN0 hR0 hB0 hb3 hr3 hbt3 hv3 ho3 hv3a ho3a hb3a hr3a c0 c1 c2 c3 c4 c5 c6 c7 d0 d1 d2 d3 d5 d6 d7 Hb1 Hr1
  rcases Bool.eq_false_or_eq_true t.lane with hl | hl
  · have Hlane := Lib.hid hl
    go_wp2_with (at_builtin; refine wpList_append_own_wide _ rfl (.tmp 24) (.tmp 27) 133 rfl w1.heap.size 9 i0 (.string ByteArray.empty) 1 16 Tryd.underlying133 Hi.out Hz.out Hs.out Hby.out rfl (by decide) v3 Ly.length (Ly.map S) rfl Ho3a.out ⟨w3.heap.size, 0, none⟩ 1 1 [S t.data.data.toList] rfl rfl (one_text _ _ _) (one_textc _) hk63 hk48 hz3 ?_
                 intro v' w4 hown4 hgrow4 _
                 obtain ⟨g, cap, rfl⟩ := ownsRow_succ hown4
                 obtain ⟨cB, fB, hV4, hb4⟩ := varT_push (nb := 0) (Q := []) (tq := 0) Hv3a.out Ho3a.out hown4 hgrow4 (Nat.le_refl _)
                 have hr4 : Row (w4.setCell ⟨w1.heap.size, 0, none⟩ (.slice (some ⟨g, 0, none⟩) (Ly.length + 1) cap)) w.heap.size 74 C := (Hr3a.out.kept hgrow4 (apart_of Hr3a.out (by decide) Ho3a.out)).kept (grownBy_set w4 w1.heap.size 0 _) (by simp; omega)
                 have hbt4 : Below w.heap.size w (w4.setCell ⟨w1.heap.size, 0, none⟩ (.slice (some ⟨g, 0, none⟩) (Ly.length + 1) cap)) := below_set (below_own Hb3a.out hgrow4 (fun k hk => by have := (Ho3a.out.lt k hk).1; omega)) (by omega)
                 obtain ⟨e0, e1, e2, e3, e4, e5, e6, e7⟩ := BX.out _ _ _ (Hr3a.out.kept hgrow4 (apart_of Hr3a.out (by decide) Ho3a.out))
                 have ho4 := own_push Hv3a.out Ho3a.out hown4 hgrow4
                 have Ho4 := Lib.hid ho4
                 have HV4 := Lib.hid hV4
                 have Hr4 := Lib.hid hr4
                 have Hbt4 := Lib.hid hbt4
                 clear ho4 hown4 hgrow4 hV4 hb4 hr4 hbt4 cv3 d4)
    have hN4 : Row ((w4.setCell ⟨w1.heap.size, 0, none⟩ (.slice (some ⟨g, 0, none⟩) (Ly.length + 1) cap)).alloc (.cells #[.int .i64 t.round, .int .i64 t.turn] 3)) w4.heap.size 3 (Is [t.round, t.turn]) := by
      have h := Row.new (w4.setCell ⟨w1.heap.size, 0, none⟩ (.slice (some ⟨g, 0, none⟩) (Ly.length + 1) cap)) 3 (Is [t.round, t.turn])
      rw [show (w4.setCell ⟨w1.heap.size, 0, none⟩ (.slice (some ⟨g, 0, none⟩) (Ly.length + 1) cap)).heap.size = w4.heap.size by simp [World.setCell]] at h
      exact h
    have hV4 : VarT ((w4.setCell ⟨w1.heap.size, 0, none⟩ (.slice (some ⟨g, 0, none⟩) (Ly.length + 1) cap)).alloc (.cells #[.int .i64 t.round, .int .i64 t.turn] 3)) w1.heap.size w1.heap.size (Ly ++ [t.data.data.toList]) := by
      obtain ⟨v, h1, h2⟩ := HV4.out
      exact ⟨v, h1.kept (grownBy_alloc _ _ none) (by simp), h2.alloc _⟩
    refine (L2.out _ _ _ hV4 Hlane.out hN4).mono ?_
    rintro _ w5 ⟨rfl, hV5, hb5⟩
    have hbt5 : Below w.heap.size w w5 := (Hbt4.out.alloc Hbt4.out.size _).trans (hb5.mono (by omega))
    obtain ⟨v5, hv5, ho5⟩ := hV5
    have hf7 : t.fields.length = 7 := by unfold Tx.fields; rw [if_pos Hlane.out]; rfl
    rw [hf7] at ho5
    obtain ⟨g5, cap5, rfl⟩ := ownsRow_succ ho5
    have cv5 := hv5.cell 0 (by simp)
    simp only [List.getElem_cons_zero] at cv5
    have Ho5 := Lib.hid ho5
    have Hbt5 := Lib.hid hbt5
    have Hf7 := Lib.hid hf7
    clear hV4 hN4 hb5 hbt5 hv5 ho5 e0 e1 e2 e3 e4 e5 e6 e7 cB fB hf7
    go_wp2_with fail
    refine (list_own t.fields _ _ _ _ _ Ho5.out Hf7.out.symm).mono ?_
    rintro _ w6 ⟨rfl, hb6⟩
    have hb6' : Below w.heap.size w w6 := Hbt5.out.grown (grownBy_of_below hb6 none) Hbt5.out.size (fun k hk => by cases hk)
    have Hb6 := Lib.hid hb6'
    clear hb6 hb6' cv5
    go_wp2_with fail
    go_ret2
    exact ⟨rfl, Hb6.out⟩
  · have Hlane := Lib.hid hl
    go_wp2_with (at_builtin; refine wpList_append_own_wide _ rfl (.tmp 24) (.tmp 27) 133 rfl w1.heap.size 9 i0 (.string ByteArray.empty) 1 16 Tryd.underlying133 Hi.out Hz.out Hs.out Hby.out rfl (by decide) v3 Ly.length (Ly.map S) rfl Ho3a.out ⟨w3.heap.size, 0, none⟩ 1 1 [S t.data.data.toList] rfl rfl (one_text _ _ _) (one_textc _) hk63 hk48 hz3 ?_
                 intro v' w4 hown4 hgrow4 _
                 obtain ⟨g, cap, rfl⟩ := ownsRow_succ hown4
                 obtain ⟨cB, fB, hV4, hb4⟩ := varT_push (nb := 0) (Q := []) (tq := 0) Hv3a.out Ho3a.out hown4 hgrow4 (Nat.le_refl _)
                 have hr4 : Row (w4.setCell ⟨w1.heap.size, 0, none⟩ (.slice (some ⟨g, 0, none⟩) (Ly.length + 1) cap)) w.heap.size 74 C := (Hr3a.out.kept hgrow4 (apart_of Hr3a.out (by decide) Ho3a.out)).kept (grownBy_set w4 w1.heap.size 0 _) (by simp; omega)
                 have hbt4 : Below w.heap.size w (w4.setCell ⟨w1.heap.size, 0, none⟩ (.slice (some ⟨g, 0, none⟩) (Ly.length + 1) cap)) := below_set (below_own Hb3a.out hgrow4 (fun k hk => by have := (Ho3a.out.lt k hk).1; omega)) (by omega)
                 obtain ⟨e0, e1, e2, e3, e4, e5, e6, e7⟩ := BX.out _ _ _ (Hr3a.out.kept hgrow4 (apart_of Hr3a.out (by decide) Ho3a.out))
                 have ho4 := own_push Hv3a.out Ho3a.out hown4 hgrow4
                 have Ho4 := Lib.hid ho4
                 have HV4 := Lib.hid hV4
                 have Hr4 := Lib.hid hr4
                 have Hbt4 := Lib.hid hbt4
                 clear ho4 hown4 hgrow4 hV4 hb4 hr4 hbt4 cv3 d4)
    refine (list_own (Ly ++ [t.data.data.toList]) _ _ _ _ _ Ho4.out (by simp)).mono ?_
    rintro _ w6 ⟨rfl, hb6⟩
    have hb6' : Below w.heap.size w w6 := Hbt4.out.grown (grownBy_of_below hb6 none) Hbt4.out.size (fun k hk => by cases hk)
    have Hb6 := Lib.hid hb6'
    clear hb6 hb6' e0 e1 e2 e3 e4 e5 e6 e7 cB fB
    go_wp2_with fail
    go_ret2
    rw [Hfl.out Hlane.out]
    exact ⟨rfl, Hb6.out⟩
theorem body_any (t : Tx) (ht : t.Ok) (w : World) :
    Calls Tryd.prog 95 #[t.v] w fun e w' => e = .returned (two (t.bodyE).1 (t.bodyE).2) ∧ Below w.heap.size w w' := by
  by_cases he : t.err = 0
  · exact body_ok t ht w he
  · exact body_no t ht w he
end Go.Proofs.YtlapmdgkcidhnaaDoor

/- ---- TxText ---- -/
/- tx.Text. -/
namespace Go.Proofs.YtlapmdgkcidhnaaDoor
open Go.RowKit
set_option linter.unusedVariables false
set_option linter.unusedSimpArgs false

namespace Tx
def outer (t : Tx) (b : List UInt8) : List (List UInt8) := if t.lane = true then [b, t.tag, t.bY] else [b, t.tag]
def textE (t : Tx) : List UInt8 × Int := if t.bodyE.2 = 0 then Oct.listE (t.outer t.bodyE.1) else ([], t.bodyE.2)
end Tx
theorem hash_str4 (W : World) (g o : Nat) (h : List UInt8) (hh : h.length = 32) (hg : W.rangeAt g o (bRow h).toList) :
    (Go.convert 129 9 (.slice (some ⟨g, o, none⟩) 32 32)).run Tryd.prog W = .ok (S h) W := by
  have := run_convert_bytes_arg (P := Tryd.prog) W 129 5 Tryd.underlying129 Tryd.underlying5 g o 32 32 (h.map fun b => (b.toNat : Int)) (by rw [List.length_map, hh]) (fun i hi => by
    have e : (bRow h).toList[i]? = (yRow h)[i]? := by rw [bRow_yRow h hh]; simp
    have := hg i _ (e.trans (yRow_at h i (by omega)))
    exact this) 9 Tryd.underlying9
  rw [bytes_of_] at this
  exact this
theorem texts_new (W : World) (t : TypeId) (L : List (List UInt8)) : Texts (W.alloc (.cells (L.map S).toArray t)) (W.alloc (.cells (L.map S).toArray t)).heap.size (some ⟨W.heap.size, 0, none⟩) L := by
  intro hne
  refine ⟨W.heap.size, 0, rfl, by simp, fun i hi => ?_⟩
  have h := (Row.new W t (L.map S)).cell i (by simpa using hi)
  rw [Nat.zero_add, h]
  simp
theorem list_3 (a b c : List UInt8) (W : World) : Calls Tryd.prog 80 #[.slice (some ⟨W.heap.size, 0, none⟩) 3 3] (W.alloc (.cells #[S a, S b, S c] 9)) fun e w' => e = .returned (.tuple #[S (Oct.listE [a, b, c]).1, .int .i64 (Oct.listE [a, b, c]).2]) ∧ Below (W.alloc (.cells #[S a, S b, S c] 9)).heap.size (W.alloc (.cells #[S a, S b, S c] 9)) w' :=
  List_any _ 3 [a, b, c] _ (texts_new W 9 [a, b, c])
theorem list_2 (a b : List UInt8) (W : World) : Calls Tryd.prog 80 #[.slice (some ⟨W.heap.size, 0, none⟩) 2 2] (W.alloc (.cells #[S a, S b] 9)) fun e w' => e = .returned (.tuple #[S (Oct.listE [a, b]).1, .int .i64 (Oct.listE [a, b]).2]) ∧ Below (W.alloc (.cells #[S a, S b] 9)).heap.size (W.alloc (.cells #[S a, S b] 9)) w' :=
  List_any _ 2 [a, b] _ (texts_new W 9 [a, b])
theorem two_below' {w w1 w2 : World} (h1 : Below w.heap.size w w1) (h2 : Below w1.heap.size w1 w2) : Below w.heap.size w w2 := h1.grown (grownBy_of_below h2 none) h1.size (fun k hk => by cases hk)
end Go.Proofs.YtlapmdgkcidhnaaDoor

/- ---- TxRow ---- -/
/- Rows loaded and stored, whole or in the middle of a block; a result that lies in a block. -/
namespace Go.Proofs.YtlapmdgkcidhnaaDoor
open Go.RowKit
set_option linter.unusedVariables false
set_option linter.unusedSimpArgs false

theorem row_setCells {g : Nat} {T : TypeId} : ∀ (l : List Value) (off : Nat) (w : World) (xs : List Value), Row w g T xs → off + l.length ≤ xs.length →
    Row (w.setCells g off l) g T (xs.take off ++ (l ++ xs.drop (off + l.length))) ∧ w.grownBy (w.setCells g off l) (some g)
  | [], off, w, xs, h, hl => by
    refine ⟨?_, grownBy_refl _ _⟩
    simp only [List.nil_append, List.length_nil, Nat.add_zero, List.take_append_drop]
    exact h
  | v :: l, off, w, xs, h, hl => by
    simp only [List.length_cons] at hl
    obtain ⟨h1, h2⟩ := row_setCells l (off + 1) (w.setCell ⟨g, off, none⟩ v) (xs.set off v) (h.set off v (by omega)) (by rw [List.length_set]; omega)
    refine ⟨?_, (grownBy_set w g off v).trans h2⟩
    have e1 : (xs.set off v).take (off + 1) = xs.take off ++ [v] := by
      rw [List.take_succ_eq_append_getElem (by rw [List.length_set]; omega), List.take_set_of_le (Nat.le_refl _)]
      simp
    have e2 : (xs.set off v).drop (off + 1 + l.length) = xs.drop (off + 1 + l.length) := by rw [List.drop_set_of_lt (by omega)]
    rw [e1, e2, List.append_assoc] at h1
    simp only [List.length_cons]
    rw [show off + (l.length + 1) = off + 1 + l.length by omega]
    exact h1
/-- a value of many cells stored into a block's middle -/
theorem wpList_store_at {P : Program} {ops : Array Oper} {rest : List Oper} {op : Oper} {a : Act} {w : World} {Q : Exit → Act → World → Prop} (hgd : op.guard = none) (ty : TypeId) (x y : Operand) (ho : op.op = .store ty x y)
    (g off : Nat) (l xs : List Value) (T : TypeId) (hx : a.eval x = .pointer (some ⟨g, off, none⟩)) (hy : a.eval y = .agg l.toArray) (hg : Row w g T xs) (hoff : off + l.length ≤ xs.length)
    (hi : (P.info? ty).map (·.size) = some l.length) (h1 : ∀ v ∈ l, v.oneCell' = true)
    (h : ∀ w', Row w' g T (xs.take off ++ (l ++ xs.drop (off + l.length))) → w.grownBy w' (some g) → wpList P ops Q rest (a.put op.dst undef) w') : wpList P ops Q (op :: rest) a w := by
  obtain ⟨r1, r2⟩ := row_setCells l off w xs hg hoff
  exact wpList_store_mid hgd ty x y ho g off l.toArray hx hy (fun j hj => ⟨by
    have hj' : j < l.length := by simpa using hj
    rw [hg.cell (off + j) (by omega)]; rfl, hg.free _⟩) (by simpa using hi) (all_oneCell_toArray h1) (h _ r1 r2)
theorem results_rowL {P : Program} {fn : Func} {p u : Tmp} {ty : TypeId} (h : fn.results = #[.cell p ty, .tmp u]) (tmps : Array Value) (w : World) (g : Nat) (T : TypeId) (xs : List Value) (d : TypeDesc)
    (hp : tmps.getD p undef = .pointer (some ⟨g, 0, none⟩)) (hg : Row w g T xs)
    (hu : P.underlying ty = some d) (hd : (match d with | .struct _ | .array _ _ => true | _ => false) = true) (hi : (P.info? ty).map (·.size) = some xs.toArray.size) (x : Value) (hx : tmps.getD u undef = x) :
    (results fn tmps).run P w = .ok (.tuple #[.agg xs.toArray, x]) w := by
  rw [results_cell_tmp h, hp]
  have hl := run_loadVar_row w g T ty xs.toArray (0, 0) d hg hu hd hi
  have ha : (asAddr (.pointer (some ⟨g, 0, none⟩))).run P w = .ok ⟨g, 0, none⟩ w := rfl
  rw [ha]
  simp only [Result.andThen, hl, hx]
theorem row_range {w : World} {g : Nat} {T : TypeId} {xs : List Value} (h : Row w g T xs) : w.rangeAt g 0 xs := by
  intro j v hv
  obtain ⟨hlt, he⟩ := List.getElem?_eq_some_iff.1 hv
  rw [Nat.zero_add, h.cell j hlt, he]
theorem hash_one (R : List UInt8) (h : R.length = 32) : ∀ v ∈ (bRow R).toList, v.oneCell' = true := by
  rw [bRow_yRow R h]
  unfold yRow
  intro v hv
  simp at hv
  obtain ⟨b, _, rfl⟩ := hv
  rfl
theorem Tx.cells_one {t : Tx} (h : t.Ok) : ∀ v ∈ t.cells, v.oneCell' = true := by
  intro v hv
  unfold Tx.cells Tx.head at hv
  rcases List.mem_append.1 hv with h1 | h1
  · simp at h1
    rcases h1 with rfl | rfl | rfl | rfl | rfl | rfl | rfl | rfl <;> rfl
  · rcases List.mem_append.1 h1 with h2 | h2
    · exact hash_one _ h.bY v h2
    · exact hash_one _ h.tag v h2
theorem Tx.none_ok : Tx.none.Ok := ⟨rfl, rfl, by decide, fits0, fits0, fits0, fits0, fits0, fits0⟩
theorem tx_zv (w : World) : (zeroValue 74).run Tryd.prog w = .ok (.agg Tx.none.arr) w := by kernel_rfl
theorem hash_zv (w : World) : (zeroValue 28).run Tryd.prog w = .ok (.agg (bRow Tx.zero)) w := by kernel_rfl
theorem tx_built0 : Tryd.prog.built 74 [] = some Tx.none.arr := by kernel_rfl
/-- a list's bytes are few -/
theorem listGo_len : ∀ (L : List (List UInt8)) (left : Nat) (b : List UInt8), Oct.listGo left L = some b → b.length ≤ left + 9 * L.length
  | [], left, b, h => by
    simp only [Oct.listGo, Option.some.injEq] at h
    subst h
    simp
  | s :: r, left, b, h => by
    unfold Oct.listGo at h
    split at h
    · cases h
    · obtain ⟨c, hc, rfl⟩ := Option.map_eq_some_iff.1 h
      have := listGo_len r (left - s.length) c hc
      have h2 := Oct.num_length_le s.length
      have h3 : (Oct.text s).length = (Oct.num s.length).length + s.length := by unfold Oct.text; rw [List.length_append]
      rw [List.length_append, h3, List.length_cons]
      omega
theorem listE_len (L : List (List UInt8)) : (Oct.listE L).1.length ≤ 100000 := by
  unfold Oct.listE
  split
  · simp
  · next hl =>
    cases h : Oct.listGo 65536 L with
    | none => simp
    | some b =>
      have h1 := listGo_len L 65536 b h
      have h2 := Oct.num_length_le L.length
      simp only [List.length_append]
      omega
theorem Tx.body_len (t : Tx) : t.bodyE.1.length ≤ 100000 := by
  unfold Tx.bodyE
  split
  · exact listE_len _
  · simp
theorem Tx.text_len (t : Tx) : t.textE.1.length ≤ 100000 := by
  unfold Tx.textE
  split
  · exact listE_len _
  · simp
end Go.Proofs.YtlapmdgkcidhnaaDoor

/- ---- TxSigns ---- -/
/- tx.Name, Sign, Hand, Signed. -/
/- tx.Sign, Hand. -/
namespace Go.Proofs.YtlapmdgkcidhnaaDoor
open Go.RowKit
set_option linter.unusedVariables false
set_option linter.unusedSimpArgs false

theorem splice_all {xs l : List Value} (h : l.length = xs.length) : xs.take 0 ++ (l ++ xs.drop (0 + l.length)) = l := by
  rw [List.take_zero, List.nil_append, List.drop_of_length_le (by omega), List.append_nil]
theorem row_two (w : World) (A B : Array Value) (t1 t2 : TypeId) : Row ((w.alloc (.cells A t1)).alloc (.cells B t2)) (w.heap.size + 1) t2 B.toList ∧ Below w.heap.size w ((w.alloc (.cells A t1)).alloc (.cells B t2)) ∧ Row ((w.alloc (.cells A t1)).alloc (.cells B t2)) w.heap.size t1 A.toList := by
  have h := Row.new (w.alloc (.cells A t1)) t2 B.toList
  rw [show ∀ (W : World) (o : Obj), (W.alloc o).heap.size = W.heap.size + 1 from fun W o => by simp] at h
  exact ⟨h, ((Below.refl w.heap.size w).alloc (Nat.le_refl _) _).alloc (by simp) _, (Row.new w t1 A.toList).kept (grownBy_alloc _ _ none) (by simp)⟩
namespace Tx
/-- signed by its author -/
def sign (t : Tx) : Tx := { t with tag := (Seal.tag t.frm 1 t.bodyE.1).1 }
def signE (t : Tx) : Tx × Int := if t.bodyE.2 = 0 then (t.sign, (Seal.tag t.frm 1 t.bodyE.1).2) else (none, t.bodyE.2)
def hand (t : Tx) (who : Int) : Tx := { t with bY := (Seal.tag who 2 t.bodyE.1).1 }
def handE (t : Tx) (who : Int) : Tx × Int :=
  if t.bodyE.2 ≠ 0 then (none, t.bodyE.2) else if acct who = false then (none, 20) else if t.lane = false then (none, 2) else (t.hand who, (Seal.tag who 2 t.bodyE.1).2)
theorem hand_ok {t : Tx} (h : t.Ok) (who : Int) : (t.hand who).Ok := ⟨Seal.tag_len _ _ _, h.tag, h.data, h.frm, h.nonce, h.fee, h.to, h.round, h.turn⟩
theorem hand_cells {t : Tx} (h : t.Ok) (R : List UInt8) (hR : R.length = 32) : t.cells.take 8 ++ ((bRow R).toList ++ t.cells.drop (8 + (bRow R).toList.length)) = Tx.cells { t with bY := R } := by
  have h1 : (bRow t.bY).toList.length = 32 := bRow_len _ h.bY
  have e1 : t.cells.take 8 = t.head := rfl
  have e2 : t.cells.drop 40 = (bRow t.tag).toList := by
    show (((bRow t.bY).toList ++ (bRow t.tag).toList)).drop 32 = _
    rw [List.drop_left' h1]
  rw [bRow_len R hR, e1, e2]
  rfl
end Tx

end Go.Proofs.YtlapmdgkcidhnaaDoor
namespace Go.Proofs.YtlapmdgkcidhnaaDoor
open Go.RowKit
set_option linter.unusedVariables false
set_option linter.unusedSimpArgs false

theorem Tx.body_err {t : Tx} (h : t.bodyE.2 = 0) : t.err = 0 := by
  unfold Tx.bodyE at h
  split at h
  · assumption
  · exact h
theorem tag_err0 (who dom : Int) (b : List UInt8) (h0 : 0 ≤ who) (h1 : who ≤ 63) (h2 : 1 ≤ dom) (h3 : dom ≤ 4) : (Seal.tag who dom b).2 = 0 := by
  unfold Seal.tag
  rw [if_neg (by omega), if_neg (by omega)]
theorem hand_err0 {t : Tx} {who : Int} (h : Tx.acct who = true) : (Seal.tag who 2 t.bodyE.1).2 = 0 := by
  unfold Tx.acct at h
  simp only [Bool.and_eq_true, decide_eq_true_eq] at h
  exact tag_err0 _ _ _ h.1 h.2 (by decide) (by decide)
def Tx.pairV (x : Tx × Int) : Value := .tuple #[x.1.v, .int .i64 x.2]
end Go.Proofs.YtlapmdgkcidhnaaDoor

/- ---- TxReads ---- -/
/- tx.Read: its mathematics; list, whole. -/
/- tx.readBody. -/
/- tx.readBody: the walk. -/
namespace Go.Proofs.YtlapmdgkcidhnaaDoor
open Go.RowKit
set_option linter.unusedVariables false
set_option linter.unusedSimpArgs false

namespace Tx
end Tx

end Go.Proofs.YtlapmdgkcidhnaaDoor
namespace Go.Proofs.YtlapmdgkcidhnaaDoor
open Go.RowKit
set_option linter.unusedVariables false
set_option linter.unusedSimpArgs false

namespace Tx
/-- the i-th number of a body put in its place -/
def put (t : Tx) (i : Nat) (n : Int) : Tx :=
  if i = 0 then { t with frm := n } else if i = 1 then { t with nonce := n } else if i = 2 then { t with fee := n } else if i = 3 then { t with to := n } else if i = 5 then { t with round := n } else if i = 6 then { t with turn := n } else t
end Tx
end Go.Proofs.YtlapmdgkcidhnaaDoor
namespace Go.Proofs.YtlapmdgkcidhnaaDoor
open Go.RowKit
set_option linter.unusedVariables false
set_option linter.unusedSimpArgs false

end Go.Proofs.YtlapmdgkcidhnaaDoor

/- ---- NoA ---- -/
/- notes: number, account, fields. -/
/- notes: numbers. -/
/- notes: itemMayBe. -/
namespace Go.Proofs.YtlapmdgkcidhnaaDoor
open Go.RowKit
set_option linter.unusedVariables false
set_option linter.unusedSimpArgs false

theorem naccount_any (n : Int) (w : World) :
    Calls Tryd.prog 109 #[.int .i64 n] w fun e w' => e = .returned (.bool (Tx.acct n)) ∧ w = w' := by
  unfold Tx.acct
  by_cases h : 0 ≤ n
  · have hd : decide (0 ≤ n) = true := by simpa using h
    have Hd := Lib.hid hd
    by_cases h2 : n ≤ 63
    · have hd2 : decide (n ≤ 63) = true := by simpa using h2
      have h3 : n < 64 := by omega
      have Hd2 := Lib.hid hd2
      clear hd hd2
      go_enter Tryd.func109, Tryd.ntmps109
      go_wp2
      go_ret
      exact ⟨by first | rfl | (rw [Hd.out, Hd2.out]; rfl) | (rw [Hd2.out]; rfl) | (rw [Hd.out, Hd2.out]; simp [h3]), rfl⟩
    · have hd2 : decide (n ≤ 63) = false := by simpa using h2
      have h3 : ¬ n < 64 := by omega
      have Hd2 := Lib.hid hd2
      clear hd hd2
      go_enter Tryd.func109, Tryd.ntmps109
      go_wp2
      go_ret
      exact ⟨by first | rfl | (rw [Hd.out, Hd2.out]; rfl) | (rw [Hd2.out]; rfl) | (rw [Hd.out, Hd2.out]; simp [h3]), rfl⟩
  · have hd : decide (0 ≤ n) = false := by simpa using h
    have Hd := Lib.hid hd
    clear hd
    go_enter Tryd.func109, Tryd.ntmps109
    go_wp2
    go_ret
    exact ⟨by rw [Hd.out]; rfl, rfl⟩
theorem nnumber_any (n : Int) (w : World) :
    Calls Tryd.prog 110 #[.int .i64 n] w fun e w' => e = .returned (.bool (Tx.num n)) ∧ w = w' := by
  unfold Tx.num
  by_cases h : 0 ≤ n
  · have hd : decide (0 ≤ n) = true := by simpa using h
    have Hd := Lib.hid hd
    clear hd
    go_enter Tryd.func110, Tryd.ntmps110
    go_wp2
    go_ret
    exact ⟨by rw [Hd.out]; rfl, rfl⟩
  · have hd : decide (0 ≤ n) = false := by simpa using h
    have Hd := Lib.hid hd
    clear hd
    go_enter Tryd.func110, Tryd.ntmps110
    go_wp2
    go_ret
    exact ⟨by rw [Hd.out]; rfl, rfl⟩
end Go.Proofs.YtlapmdgkcidhnaaDoor
namespace Go.Proofs.YtlapmdgkcidhnaaDoor
open Go.RowKit
set_option linter.unusedVariables false
set_option linter.unusedSimpArgs false

theorem row_apart {w w1 : World} {base nb n : Nat} {e t : TypeId} {size : Nat} {v : Value} {xs ys : List Value} (h : Row w nb t ys) (hlt : nb < base) (hown : w.ownsRow base e size v n xs) (hg : w.grownBy w1 v.ownBlock) : Row w1 nb t ys :=
  h.kept hg (fun hh => by have := (hown.lt nb hh.symm).1; omega)
theorem below_row {w w1 w2 : World} {base n : Nat} {e : TypeId} {size : Nat} {v : Value} {xs : List Value} (hb : Below base w w1) (hs : base ≤ w1.heap.size) (hown : w1.ownsRow base e size v n xs) (hg : w1.grownBy w2 v.ownBlock) : Below base w w2 :=
  hb.grown hg hs (fun k hk => (hown.lt k hk).1)
set_option maxRecDepth 20000 in
set_option maxHeartbeats 400000 in
theorem numbers_any (ns : List Int) (c : Nat) (hns : ∀ n ∈ ns, 0 ≤ n ∧ n ≤ 9223372036854775807) (w : World) (nb : Nat) (hN : Row w nb 3 (Is ns)) (hlen : ns.length ≤ 900) :
    Calls Tryd.prog 113 #[.slice (some ⟨nb, 0, none⟩) ns.length c] w fun e w' => ∃ v, e = .returned v ∧ w'.ownsRow w.heap.size 9 1 v ns.length ((ns.map fun n => Oct.num n.toNat).map S) ∧ Below w.heap.size w w' := by
  obtain ⟨i0, hi, h2⟩ := Option.map_eq_some_iff.1 str_info5
  simp only [Prod.mk.injEq] at h2
  obtain ⟨hz, hs, hby⟩ := h2
  have Hi := Lib.hid hi
  have Hz := Lib.hid hz
  have Hs := Lib.hid hs
  have Hby := Lib.hid hby
  have HN := Lib.hid hN
  have Hns := Lib.hid hns
  have hnb := hN.lt
  obtain ⟨m, hm⟩ : ∃ m, m = ns.length := ⟨_, rfl⟩
  rw [← hm] at hlen ⊢
  have Hm := Lib.hid hm
  clear hi hz hs hby hN hns hm
  go_enter Tryd.func113, Tryd.ntmps113
  go_wp2_with (with_reducible show wpList _ _ _ (⟨_, .makeSlice _ _ _, _, _, _, _⟩ :: _) _ _
               refine wpList_make_own w rfl _ _ 133 rfl w.heap.size 9 i0 (.string ByteArray.empty) 1 Tryd.underlying133 Hi.out Hz.out Hs.out .i64 .i64 ((m : Int) + 2) (m + 2) rfl rfl (by omega) (by rw [Hby.out]; omega) (by unfold maxLen; omega) (Nat.le_refl _) ?_
               intro w1 hown1 hg1
               have Hown1 := Lib.hid hown1
               have HN1 := Lib.hid (HN.out.kept hg1 (by simp))
               have Hb1 := Lib.hid ((Below.refl w.heap.size w).grown hg1 (Nat.le_refl _) (fun k hk => by cases hk))
               clear hown1 hg1)
  go_loopw [3, 14] (fun v i wr => ∃ k : Nat, k ≤ m ∧ i = .int .i64 k ∧ wr.ownsRow w.heap.size 9 1 v k (((ns.take k).map fun n => Oct.num n.toNat).map S) ∧ Row wr nb 3 (Is ns) ∧ Below w.heap.size w wr) (fun _ i _ => m - (intOf i).toNat)
  case atStart => exact ⟨0, Nat.zero_le _, rfl, by simpa using Hown1.out, HN1.out, Hb1.out⟩
  case round =>
    obtain ⟨k, hk, rfl, hown, hNr, hbr⟩ := hrel
    have HNr := Lib.hid hNr
    have Hbr := Lib.hid hbr
    have Hown := Lib.hid hown
    clear hNr hbr hown Hown1 HN1 Hb1 HN
    by_cases hlt : k < m
    · have hki : (k : Int) < (m : Int) := by omega
      have hkn : k < ns.length := by rw [← Hm.out]; exact hlt
      have cn := HNr.out.num k hkn
      obtain ⟨x, hx⟩ : ∃ x, x = ns.getD k 0 := ⟨_, rfl⟩
      have hxn : ns[k] = x := by rw [hx]; simp [List.getD, hkn]
      have hxb := Hns.out x (by rw [← hxn]; exact List.getElem_mem hkn)
      have htk : ((ns.take (k + 1)).map fun n => Oct.num n.toNat).map S = ((ns.take k).map fun n => Oct.num n.toNat).map S ++ [S (Oct.num x.toNat)] := by
        rw [List.take_succ_eq_append_getElem hkn, List.map_append, List.map_append, hxn]; rfl
      rw [← hx] at cn
      have Htk := Lib.hid htk
      generalize ((ns.take k).map fun n => Oct.num n.toNat).map S = K at *
      clear htk hx hxn hkn
      go_wp2_with fail
      refine (number_ok x _ hxb.1 hxb.2).mono ?_
      rintro _ w1 ⟨rfl, hb1⟩
      have hg1 := grownBy_of_below hb1 none
      have hown1 := Hown.out.kept hg1 (by cases u3.ownBlock <;> simp)
      have hN1 := HNr.out.kept hg1 (by simp)
      have hb1' := two_below' Hbr.out hb1
      have hown2 := hown1.alloc (.cells #[S (Oct.num x.toNat)] 9)
      have hN2 := hN1.kept (grownBy_alloc w1 (.cells #[S (Oct.num x.toNat)] 9) none) (by simp)
      have hb2 : Below w.heap.size w (w1.alloc (.cells #[S (Oct.num x.toNat)] 9)) := hb1'.alloc hb1'.size _
      have hsz2 : w.heap.size ≤ (w1.alloc (.cells #[S (Oct.num x.toNat)] 9)).heap.size := hb2.size
      have hk63 : k + 1 ≤ maxLen := by unfold maxLen; omega
      have hk48 : ((k + 1) + (k + 1) / 4 + 192) * 16 ≤ 281474976710656 := by omega
      have Hown2 := Lib.hid hown2
      have HN2 := Lib.hid hN2
      have Hb2 := Lib.hid hb2
      clear hb1 hg1 hown1 hN1 hb1' hown2 hN2 hb2 Hown HNr Hbr cn
      go_wp2_with (at_builtin; refine wpList_append_own_wide _ rfl (.tmp 23) (.tmp 25) 133 rfl w.heap.size 9 i0 (.string ByteArray.empty) 1 16 Tryd.underlying133 Hi.out Hz.out Hs.out Hby.out rfl (by decide) _ _ _ rfl Hown2.out ⟨w1.heap.size, 0, none⟩ 1 1 [S (Oct.num x.toNat)] rfl rfl (one_text _ _ _) (one_textc _) hk63 hk48 hsz2 ?_
                   intro v' w3 hown3 hgrow3 _
                   obtain ⟨g, cap, rfl⟩ := ownsRow_succ hown3
                   have HN3 := Lib.hid (row_apart HN2.out hnb Hown2.out hgrow3)
                   have Hb3 := Lib.hid (below_row Hb2.out hsz2 Hown2.out hgrow3)
                   have Hown3 := Lib.hid hown3
                   clear hown3 hgrow3)
      refine ⟨⟨k + 1, hlt, by go_num, by rw [Htk.out]; exact Hown3.out, HN3.out, Hb3.out⟩, by simp [intOf]; omega⟩
    · have hki : (m : Int) ≤ (k : Int) := by omega
      have ekm : k = m := by omega
      subst ekm
      have hown := Hown.out
      rw [List.take_of_length_le (by rw [← Hm.out]; omega)] at hown
      have Hown' := Lib.hid hown
      clear hown
      go_wp2_with fail
      go_ret
      exact ⟨_, rfl, Hown'.out, Hbr.out⟩
end Go.Proofs.YtlapmdgkcidhnaaDoor
namespace Go.Proofs.YtlapmdgkcidhnaaDoor
open Go.RowKit
set_option linter.unusedVariables false
set_option linter.unusedSimpArgs false

def Item.v (kd who n : Int) (s : ByteArray) : Value := .agg #[.int .i64 kd, .int .i64 who, .int .i64 n, .string s]
/-- which items there may be -/
def Item.ok (kd who n : Int) (s : ByteArray) : Bool :=
  if (kd == 1) = true ∨ (kd == 3) = true then decide (0 ≤ who ∧ who ≤ 64 ∧ (n == 0) = true ∧ (s.size : Int) ≤ 65472)
  else if (kd == 2) = true ∧ (who == 0) = true ∧ Tx.num n = true then s.toList.isEmpty else false
end Go.Proofs.YtlapmdgkcidhnaaDoor

/- ---- NoMath ---- -/
/- notes, as plain data: items, bids, receipts, batches; their bytes, and what bytes are read as. -/
namespace Go.Proofs.YtlapmdgkcidhnaaDoor
open Go.RowKit
set_option linter.unusedVariables false
set_option linter.unusedSimpArgs false

namespace No
abbrev T8 := List UInt8
theorem empty_iff (s : ByteArray) : s.toList.isEmpty = true ↔ s.data.toList = [] := by
  rw [← decide_eq_emptyBytes, decide_eq_true_eq]
  constructor
  · rintro rfl; rfl
  · intro h
    have : s.data = #[] := Array.toList_inj.1 h
    cases s
    simp only at this
    subst this
    rfl
theorem num_iff {x : Int} : Tx.num x = true ↔ 0 ≤ x ∧ x ≤ 1099511627776 := by unfold Tx.num; simp
theorem acct_iff {x : Int} : Tx.acct x = true ↔ 0 ≤ x ∧ x ≤ 63 := by unfold Tx.acct; simp
end No

/-- an item -/
structure It where
  kind : Int
  who : Int
  n : Int
  text : ByteArray
namespace It
def v (i : It) : Value := .agg #[.int .i64 i.kind, .int .i64 i.who, .int .i64 i.n, .string i.text]
def ok (i : It) : Bool := Item.ok i.kind i.who i.n i.text
def zero : It := ⟨0, 0, 0, ByteArray.empty⟩
def fields (i : It) : List No.T8 := [Oct.num i.kind.toNat, Oct.num i.who.toNat, Oct.num i.n.toNat, i.text.data.toList]
def textE (i : It) : No.T8 × Int := if i.ok = true then Oct.listE i.fields else ([], 2)
def of (ns : List Int) (rest : List No.T8) : Option It :=
  match ns, rest with
  | [a, b, c], [t] => if (It.mk a b c ⟨t.toArray⟩).ok = true then some ⟨a, b, c, ⟨t.toArray⟩⟩ else none
  | _, _ => none
theorem ok_iff (i : It) : i.ok = true ↔ (((i.kind = 1 ∨ i.kind = 3) ∧ 0 ≤ i.who ∧ i.who ≤ 64 ∧ i.n = 0 ∧ (i.text.size : Int) ≤ 65472) ∨ (i.kind = 2 ∧ i.who = 0 ∧ 0 ≤ i.n ∧ i.n ≤ 1099511627776 ∧ i.text.data.toList = [])) := by
  unfold ok Item.ok
  split
  · next h =>
    simp only [beq_iff_eq] at h
    simp only [beq_iff_eq, decide_eq_true_eq]
    constructor
    · intro hh; exact .inl ⟨h, hh⟩
    · rintro (⟨_, hh⟩ | ⟨hh, _⟩)
      · exact hh
      · omega
  · next h =>
    simp only [beq_iff_eq] at h
    split
    · next h2 =>
      simp only [beq_iff_eq, No.num_iff] at h2
      constructor
      · intro hh
        refine .inr ⟨h2.1, h2.2.1, h2.2.2.1, h2.2.2.2, ?_⟩
        exact (No.empty_iff _).1 hh
      · rintro (⟨hh, _⟩ | ⟨_, _, _, _, hh⟩)
        · exact absurd hh h
        · exact (No.empty_iff _).2 hh
    · next h2 =>
      simp only [beq_iff_eq, No.num_iff] at h2
      constructor
      · intro hh; cases hh
      · rintro (⟨hh, _⟩ | ⟨h3, h4, h5, h6, _⟩)
        · exact absurd hh h
        · exact absurd ⟨h3, h4, h5, h6⟩ h2
end It

/-- a bid -/
structure Bd where
  round : Int
  who : Int
  amount : Int
  salt : Int
  tag : List UInt8
namespace Bd
def cells (b : Bd) : List Value := [.int .i64 b.round, .int .i64 b.who, .int .i64 b.amount, .int .i64 b.salt] ++ (bRow b.tag).toList
def v (b : Bd) : Value := .agg b.cells.toArray
def ok (b : Bd) : Bool := Tx.acct b.who && (Tx.num b.round && (Tx.num b.amount && Tx.num b.salt))
def zero : Bd := ⟨0, 0, 0, 0, Tx.zero⟩
def numsL (b : Bd) : List Int := [b.round, b.who, b.amount, b.salt]
def body (b : Bd) : No.T8 := (Oct.listE (b.numsL.map fun x => Oct.num x.toNat)).1
def fields (b : Bd) : List No.T8 := (b.numsL.map fun x => Oct.num x.toNat) ++ [b.tag]
def textE (b : Bd) : No.T8 × Int := if b.ok = true then Oct.listE b.fields else ([], 2)
def of (ns : List Int) (rest : List No.T8) : Option Bd :=
  match ns, rest with
  | [a, b, c, d], [t] => if t.length = 32 ∧ (Bd.mk a b c d t).ok = true then some ⟨a, b, c, d, t⟩ else none
  | _, _ => none
def sign (b : Bd) : Bd := { b with tag := (Seal.tag b.who 3 b.body).1 }
def signE (b : Bd) : Bd × Int := if b.ok = true then (b.sign, 0) else (zero, 2)
def check (b : Bd) : Int := if b.ok = true then Seal.check2 b.who 3 b.body b.tag else 2
structure Fits (b : Bd) : Prop where
  tag : b.tag.length = 32
  round : Tx.fits b.round
  who : Tx.fits b.who
  amount : Tx.fits b.amount
  salt : Tx.fits b.salt
theorem ok_iff (b : Bd) : b.ok = true ↔ (0 ≤ b.who ∧ b.who ≤ 63) ∧ (0 ≤ b.round ∧ b.round ≤ 1099511627776) ∧ (0 ≤ b.amount ∧ b.amount ≤ 1099511627776) ∧ (0 ≤ b.salt ∧ b.salt ≤ 1099511627776) := by
  unfold ok
  simp only [Bool.and_eq_true, No.num_iff, No.acct_iff]
theorem ok_nums {b : Bd} (h : b.ok = true) : ∀ x ∈ b.numsL, 0 ≤ x ∧ x ≤ 9223372036854775807 := by
  rw [ok_iff] at h
  intro x hx
  simp [numsL] at hx
  rcases hx with rfl | rfl | rfl | rfl <;> omega
end Bd

/-- a receipt -/
structure Rp where
  index : Int
  kind : Int
  time : Int
  body : ByteArray
  prev : List UInt8
  hash : List UInt8
namespace Rp
def cells (r : Rp) : List Value := [.int .i64 r.index, .int .i64 r.kind, .int .i64 r.time, .string r.body] ++ ((bRow r.prev).toList ++ (bRow r.hash).toList)
def v (r : Rp) : Value := .agg r.cells.toArray
def ok (r : Rp) : Bool := ((r.kind == 1) || (r.kind == 2)) && (Tx.num r.index && (Tx.num r.time && decide ((r.body.size : Int) ≤ 656)))
def zero : Rp := ⟨0, 0, 0, ByteArray.empty, Tx.zero, Tx.zero⟩
def numsL (r : Rp) : List Int := [r.index, r.kind, r.time]
def texts (r : Rp) : List No.T8 := (r.numsL.map fun x => Oct.num x.toNat) ++ [r.body.data.toList]
/-- the hash that it is to have -/
def link (r : Rp) : List UInt8 := Sha.sum (r.prev ++ (Oct.listE r.texts).1)
def fields (r : Rp) : List No.T8 := r.texts ++ [r.prev, r.hash]
def textE (r : Rp) : No.T8 × Int := if r.ok = true then (if r.hash = r.link then Oct.listE r.fields else ([], 7)) else ([], 2)
def of (ns : List Int) (rest : List No.T8) : Option Rp :=
  match ns, rest with
  | [a, b, c], [t, p, h] => if (p.length = 32 ∧ h.length = 32) ∧ (Rp.mk a b c ⟨t.toArray⟩ p h).ok = true ∧ h = (Rp.mk a b c ⟨t.toArray⟩ p h).link then some ⟨a, b, c, ⟨t.toArray⟩, p, h⟩ else none
  | _, _ => none
structure Fits (r : Rp) : Prop where
  prev : r.prev.length = 32
  hash : r.hash.length = 32
  body : r.body.size ≤ 140737488351232
  index : Tx.fits r.index
  kind : Tx.fits r.kind
  time : Tx.fits r.time
theorem ok_iff (r : Rp) : r.ok = true ↔ (r.kind = 1 ∨ r.kind = 2) ∧ (0 ≤ r.index ∧ r.index ≤ 1099511627776) ∧ (0 ≤ r.time ∧ r.time ≤ 1099511627776) ∧ (r.body.size : Int) ≤ 656 := by
  unfold ok
  simp only [Bool.and_eq_true, Bool.or_eq_true, No.num_iff, beq_iff_eq, decide_eq_true_eq]
theorem ok_nums {r : Rp} (h : r.ok = true) : ∀ x ∈ r.numsL, 0 ≤ x ∧ x ≤ 9223372036854775807 := by
  rw [ok_iff] at h
  intro x hx
  simp [numsL] at hx
  rcases hx with rfl | rfl | rfl <;> omega
end Rp

/-- a batch's part: is it the inbox's, its text -/
abbrev Pt := Bool × List UInt8
namespace Pt
def ok (p : Pt) : Bool := decide (p.2.length ≤ 656) && !(p.1 && !p.2.isEmpty)
def lay (p : Pt) : No.T8 := if p.1 = true then [2] else 1 :: p.2
def of (s : No.T8) : Option Pt := if s = [2] then some (true, []) else match s with
  | c :: r => if c = 1 then some (false, r) else none
  | [] => none
def all : List No.T8 → Option (List Pt)
  | [] => some []
  | s :: r => match of s with
    | none => none
    | some p => (all r).map (p :: ·)
end Pt
/-- a batch -/
structure Bt where
  seq : Int
  first : Int
  before : Int
  parts : List Pt
namespace Bt
def ok (b : Bt) : Bool := (Tx.num b.seq && (Tx.num b.first && Tx.num b.before)) && (decide (b.parts.length ≤ 512) && b.parts.all Pt.ok)
def zero : Bt := ⟨0, 0, 0, []⟩
def numsL (b : Bt) : List Int := [b.seq, b.first, b.before]
def fields (b : Bt) : List No.T8 := (b.numsL.map fun x => Oct.num x.toNat) ++ b.parts.map Pt.lay
def textE (b : Bt) : No.T8 × Int := if b.ok = true then Oct.listE b.fields else ([], 2)
def of (ns : List Int) (rest : List No.T8) : Option Bt :=
  match ns, Pt.all rest with
  | [a, b, c], some ps => if (Bt.mk a b c ps).ok = true then some ⟨a, b, c, ps⟩ else none
  | _, _ => none
theorem ok_iff (b : Bt) : b.ok = true ↔ ((0 ≤ b.seq ∧ b.seq ≤ 1099511627776) ∧ (0 ≤ b.first ∧ b.first ≤ 1099511627776) ∧ (0 ≤ b.before ∧ b.before ≤ 1099511627776)) ∧ b.parts.length ≤ 512 ∧ b.parts.all Pt.ok = true := by
  unfold ok
  simp only [Bool.and_eq_true, No.num_iff, decide_eq_true_eq]
theorem ok_nums {b : Bt} (h : b.ok = true) : ∀ x ∈ b.numsL, 0 ≤ x ∧ x ≤ 9223372036854775807 := by
  rw [ok_iff] at h
  intro x hx
  simp [numsL] at hx
  rcases hx with rfl | rfl | rfl <;> omega
end Bt
end Go.Proofs.YtlapmdgkcidhnaaDoor

/- ---- NoH ---- -/
/- notes: read. -/
/- What is held over a drawn region: a row, and all that was there. -/
namespace Go.Proofs.YtlapmdgkcidhnaaDoor
open Go.RowKit
set_option linter.unusedVariables false
set_option linter.unusedSimpArgs false

namespace No
end No
end Go.Proofs.YtlapmdgkcidhnaaDoor
namespace Go.Proofs.YtlapmdgkcidhnaaDoor
open Go.RowKit
set_option linter.unusedVariables false
set_option linter.unusedSimpArgs false

/-- a block as it was, and all below w0 -/
def RowIn (w0 W : World) (g : Nat) (T : TypeId) (C : List Value) : Prop := Row W g T C ∧ Below w0.heap.size w0 W
theorem RowIn.step {w0 W W' : World} {g : Nat} {T : TypeId} {C : List Value} (h : RowIn w0 W g T C) (hb : Below W.heap.size W W') : RowIn w0 W' g T C :=
  ⟨h.1.kept (grownBy_of_below hb none) (by simp), two_below' h.2 hb⟩
theorem RowIn.grown {w0 W W' : World} {g : Nat} {T : TypeId} {C : List Value} {r : Option Nat} (h : RowIn w0 W g T C) (hg : W.grownBy W' r) (hr : ∀ k, r = some k → w0.heap.size ≤ k) (hne : some g ≠ r) : RowIn w0 W' g T C :=
  ⟨h.1.kept hg hne, h.2.grown hg h.2.size hr⟩
theorem RowIn.drew {w0 W : World} {g : Nat} {T : TypeId} {C : List Value} (h : RowIn w0 W g T C) : RowIn w0 W.drew g T C := h.step (Below.refl _ _).drew
theorem RowIn.size {w0 W : World} {g : Nat} {T : TypeId} {C : List Value} (h : RowIn w0 W g T C) : w0.heap.size ≤ W.heap.size := h.2.size
/-- behind a call that makes memory, ahead of which a value was boxed -/
theorem rowIn_call {w w1 : World} {T : TypeId} {C : List Value} (h : Below (w.alloc (.cells C.toArray T)).heap.size (w.alloc (.cells C.toArray T)) w1) : RowIn w w1 w.heap.size T C :=
  ⟨(Row.new w T C).kept (grownBy_of_below h none) (by simp), tx_below (grownBy_of_below h none)⟩
theorem row_news {W : World} {g : Nat} {T : TypeId} {xs : List Value} (h : Row W g T xs) : ∀ j u, xs[j]? = some u → W.cell? ((⟨g, 0, none⟩ : Addr).add j) = some u := by
  intro j u hj
  obtain ⟨hlt, he⟩ := List.getElem?_eq_some_iff.1 hj
  have e : (⟨g, 0, none⟩ : Addr).add j = ⟨g, j, none⟩ := by unfold Addr.add; split <;> simp_all
  rw [e, h.cell j hlt, he]
theorem own_keeps {w0 W W' : World} {base n : Nat} {v : Value} {xs : List Value} {g : Nat} {T : TypeId} {C : List Value} (h : RowIn w0 W g T C) (hT : T ≠ 9) (hown : W.ownsRow base 9 1 v n xs) (hb : w0.heap.size ≤ base) (hg : W.grownBy W' v.ownBlock) : RowIn w0 W' g T C :=
  h.grown hg (fun k hk => Nat.le_trans hb (hown.lt k hk).1) (apart_of h.1 hT hown)
theorem list_owned (L : List (List UInt8)) {base k : Nat} {v : Value} {W : World} {xs : List Value} (hx : xs = L.map S) (h : W.ownsRow base 9 1 v (k + 1) xs) (hk : k + 1 = L.length) :
    Calls Tryd.prog 80 #[v] W fun e w' => e = .returned (.tuple #[S (Oct.listE L).1, .int .i64 (Oct.listE L).2]) ∧ Below W.heap.size W w' := by
  subst hx
  obtain ⟨g, cap, rfl⟩ := ownsRow_succ h
  exact list_own L base g (k + 1) cap W h hk
end Go.Proofs.YtlapmdgkcidhnaaDoor

/- ---- NoI ---- -/
/- notes: WriteItem. -/
/- notes: hashes. -/
namespace Go.Proofs.YtlapmdgkcidhnaaDoor
open Go.RowKit
set_option linter.unusedVariables false
set_option linter.unusedSimpArgs false

namespace It
def cells (i : It) : List Value := [.int .i64 i.kind, .int .i64 i.who, .int .i64 i.n, .string i.text]
end It
/-- texts behind numbers: an owned row, appended to -/
theorem str5 : ∃ i0 : TypeInfo, Tryd.prog.info? 9 = some i0 ∧ i0.zero = some (.string ByteArray.empty) ∧ i0.size = 1 ∧ i0.bytes = 16 := by
  obtain ⟨i0, hi, h2⟩ := Option.map_eq_some_iff.1 str_info5
  simp only [Prod.mk.injEq] at h2
  exact ⟨i0, hi, h2.1, h2.2.1, h2.2.2⟩
end Go.Proofs.YtlapmdgkcidhnaaDoor
namespace Go.Proofs.YtlapmdgkcidhnaaDoor
open Go.RowKit
set_option linter.unusedVariables false
set_option linter.unusedSimpArgs false

namespace No
end No
end Go.Proofs.YtlapmdgkcidhnaaDoor

/- ---- TxRef ---- -/
/- The reference of layer 4: number, Body. -/
namespace Go.Proofs.YtlapmdgkcidhnaaDoor
open Go.RowKit
set_option linter.unusedVariables false
set_option linter.unusedSimpArgs false

theorem rnumber_any (n : Int) (w : World) (h0 : 0 ≤ n) (h1 : n ≤ 9223372036854775807) :
    Calls Tryd.prog 116 #[.int .i64 n] w fun e w' => e = .returned (S (Oct.num n.toNat)) ∧ Below w.heap.size w w' := by
  have RN : Hid (∀ W, Calls Tryd.prog 107 #[.int .i64 n] W fun e w' => e = .returned (.tuple #[S (Oct.num n.toNat), .int .i64 0]) ∧ Below W.heap.size W w') := fun W => by
    have := refNumber_any n W h1
    unfold Oct.numE at this
    rw [if_neg (by omega)] at this
    exact this
  go_enter Tryd.func116, Tryd.ntmps116
  go_wp2_with fail
  refine (RN.out _).mono ?_
  rintro _ w1 ⟨rfl, hb1⟩
  have Hb1 := Lib.hid hb1
  clear hb1
  go_wp2_with fail
  go_ret
  exact ⟨rfl, Hb1.out⟩
/-- the reference's List over texts of the call's own -/
theorem rlist_own (L : List (List UInt8)) (base g k cap : Nat) (W : World) (h : W.ownsRow base 9 1 (.slice (some ⟨g, 0, none⟩) k cap) k (L.map S)) (hk : k = L.length) :
    Calls Tryd.prog 106 #[.slice (some ⟨g, 0, none⟩) k cap] W fun e w' => e = .returned (.tuple #[S (Oct.listE L).1, .int .i64 (Oct.listE L).2]) ∧ Below W.heap.size W w' := by
  subst hk
  obtain ⟨A, c, hA, hT⟩ := texts_own h
  obtain ⟨rfl, rfl⟩ : some (⟨g, 0, none⟩ : Addr) = A ∧ cap = c := by simpa using hA
  exact refList_any _ _ L W hT
theorem own_lit (w : World) (base k : Nat) (L : List (List UInt8)) (hk : k = L.length) (hb : base ≤ w.heap.size) (hl : k ≤ 1000) : (w.alloc (.cells (L.map S).toArray 9)).ownsRow base 9 1 (.slice (some ⟨w.heap.size, 0, none⟩) k k) k (L.map S) := by
  subst hk
  refine ⟨by simp, .inr ⟨w.heap.size, L.length, (L.map S).toArray, rfl, hb, heap_alloc_new w _, Nat.le_refl _, by unfold maxLen; omega, by simp, by simp [List.take_of_length_le]⟩⟩
/-- what the drawn statements of Body count on -/
def BodyIn (w0 W : World) (g : Nat) (C : List Value) : Prop := Row W g 74 C ∧ Below w0.heap.size w0 W
theorem BodyIn.step {w0 W W' : World} {g : Nat} {C : List Value} (h : BodyIn w0 W g C) (hb : Below W.heap.size W W') : BodyIn w0 W' g C :=
  ⟨h.1.kept (grownBy_of_below hb none) (by simp), two_below' h.2 hb⟩
theorem body_cells {t : Tx} (ht : t.Ok) {w0 W : World} {g : Nat} (h : BodyIn w0 W g t.cells) : BodyIn w0 W g t.cells ∧ W.cell? ⟨g, 0, none⟩ = some (.int .i64 t.frm) ∧ W.cell? ⟨g, 1, none⟩ = some (.int .i64 t.nonce) ∧ W.cell? ⟨g, 2, none⟩ = some (.int .i64 t.fee) ∧ W.cell? ⟨g, 3, none⟩ = some (.int .i64 t.to) ∧
    W.cell? ⟨g, 4, none⟩ = some (.string t.data) ∧ W.cell? ⟨g, 5, none⟩ = some (.bool t.lane) ∧ W.cell? ⟨g, 6, none⟩ = some (.int .i64 t.round) ∧ W.cell? ⟨g, 7, none⟩ = some (.int .i64 t.turn) := ⟨h, tx_box ht h.1⟩
theorem BodyIn.grow {w0 W W' : World} {g k : Nat} {C : List Value} (h : BodyIn w0 W g C) (hg : W.grownBy W' (some k)) (h1 : w0.heap.size ≤ k) (h2 : g ≠ k) : BodyIn w0 W' g C :=
  ⟨h.1.kept hg (by simpa using h2), h.2.grown hg h.2.size (fun j hj => by cases hj; exact h1)⟩
theorem own_chain {W0 W1 W2 : World} {base size n : Nat} {e : TypeId} {v : Value} {xs : List Value} (h : W0.ownsRow base e size v n xs) (h1 : Below W0.heap.size W0 W1) (h2 : Below W1.heap.size W1 W2) : W2.ownsRow base e size v n xs :=
  (h.kept (grownBy_of_below h1 none) (by cases v.ownBlock <;> simp)).kept (grownBy_of_below h2 none) (by cases v.ownBlock <;> simp)
theorem base_chain {W0 W1 W2 : World} {base : Nat} (h0 : base ≤ W0.heap.size) (h1 : Below W0.heap.size W0 W1) (h2 : Below W1.heap.size W1 W2) (o : Obj) : base ≤ (W2.alloc o).heap.size := by
  have a := h1.size
  have b := h2.size
  simp
  omega
theorem two_texts (w : World) (t : TypeId) (a b : List UInt8) : ∀ j u, [S a, S b][j]? = some u → (w.alloc (.cells #[S a, S b] t)).cell? ((⟨w.heap.size, 0, none⟩ : Addr).add j) = some u := by
  intro j u hj
  match j, hj with
  | 0, hj => simp at hj; subst hj; simp [Addr.add]
  | 1, hj => simp at hj; subst hj; simp [Addr.add]
theorem two_textc (a b : List UInt8) : ∀ u ∈ [S a, S b], u.oneCell' = true := by
  intro u hu
  simp at hu
  rcases hu with rfl | rfl <;> rfl
set_option maxRecDepth 20000 in
theorem rbody_no (t : Tx) (ht : t.Ok) (w : World) (he : t.err ≠ 0) :
    Calls Tryd.prog 85 #[t.v] w fun e w' => e = .returned (.tuple #[S t.bodyE.1, .int .i64 t.bodyE.2]) ∧ Below w.heap.size w w' := by
  unfold Tx.bodyE
  rw [if_neg he]
  have hrng := tx_range (Row.new w 74 t.cells)
  have hlen := Tx.cells_length ht
  have CH : Hid (∀ W, Calls Tryd.prog 115 #[.agg t.cells.toArray] W fun e w' => e = .returned (.int .i64 t.err) ∧ Below W.heap.size W w') := fun W => rcheck4_any t ht W
  have hne : (t.err != 0) = true := by simpa using he
  show Calls _ _ #[.agg t.cells.toArray] _ _
  generalize t.cells = C at *
  generalize t.err = er at *
  have HL := Lib.hid hlen
  have Hrng := Lib.hid hrng
  clear hlen hrng he ht
  go_enter Tryd.func85, Tryd.ntmps85
  go_wp2_with (with_reducible show wpList _ _ _ (⟨_, .load 74 _, _, _, _, _⟩ :: _) _ _; refine wpList_load_tx rfl 74 (.tmp 1) rfl w.heap.size 0 rfl C _ Hrng.out Tryd.underlying74 rfl (by rw [tx_info, HL.out]) ?_)
  refine (CH.out _).mono ?_
  rintro _ w1 ⟨rfl, hb1⟩
  have Hb1 := Lib.hid (tx_below (grownBy_of_below hb1 none))
  clear hb1
  go_wp2_with fail
  go_ret2
  exact ⟨rfl, Hb1.out⟩
set_option maxRecDepth 20000 in
set_option maxHeartbeats 1600000 in
theorem rbody_ok (t : Tx) (ht : t.Ok) (w : World) (he : t.err = 0) :
    Calls Tryd.prog 85 #[t.v] w fun e w' => e = .returned (.tuple #[S t.bodyE.1, .int .i64 t.bodyE.2]) ∧ Below w.heap.size w w' := by
  have hB : t.bodyE = Oct.listE t.fields := by unfold Tx.bodyE; rw [if_pos he]
  rw [hB]
  obtain ⟨i0, hi, h2⟩ := Option.map_eq_some_iff.1 str_info5
  simp only [Prod.mk.injEq] at h2
  obtain ⟨hz, hs, hby⟩ := h2
  have Hi := Lib.hid hi
  have Hz := Lib.hid hz
  have Hs := Lib.hid hs
  have Hby := Lib.hid hby
  obtain ⟨k1, k2, k3, k4, k5, k6, k7⟩ := Tx.err_ok he
  have hrow0 := Row.new w 74 t.cells
  have hrng := tx_range hrow0
  have hlen := Tx.cells_length ht
  have CH : Hid (∀ W, Calls Tryd.prog 115 #[.agg t.cells.toArray] W fun e w' => e = .returned (.int .i64 0) ∧ Below W.heap.size W w') := fun W => by
    have := rcheck4_any t ht W
    rw [he] at this
    exact this
  have BX : Hid (∀ {w0 W : World} {g : Nat}, BodyIn w0 W g t.cells → BodyIn w0 W g t.cells ∧ W.cell? ⟨g, 0, none⟩ = some (.int .i64 t.frm) ∧ W.cell? ⟨g, 1, none⟩ = some (.int .i64 t.nonce) ∧ W.cell? ⟨g, 2, none⟩ = some (.int .i64 t.fee) ∧ W.cell? ⟨g, 3, none⟩ = some (.int .i64 t.to) ∧
    W.cell? ⟨g, 4, none⟩ = some (.string t.data) ∧ W.cell? ⟨g, 5, none⟩ = some (.bool t.lane) ∧ W.cell? ⟨g, 6, none⟩ = some (.int .i64 t.round) ∧ W.cell? ⟨g, 7, none⟩ = some (.int .i64 t.turn)) := fun h => body_cells ht h
  have N1 := Lib.hid (fun W => rnumber_any t.frm W k1.1 (by omega))
  have N2 := Lib.hid (fun W => rnumber_any t.nonce W k2.1 (by omega))
  have N3 := Lib.hid (fun W => rnumber_any t.fee W k3.1 (by omega))
  have N4 := Lib.hid (fun W => rnumber_any t.to W k4.1 (by omega))
  have N6 := Lib.hid (fun (hl : t.lane = true) W => rnumber_any t.round W (k5 hl).1.1 (by have := (k5 hl).1; omega))
  have N7 := Lib.hid (fun (hl : t.lane = true) W => rnumber_any t.turn W (k5 hl).2.1 (by have := (k5 hl).2; omega))
  have hfl : t.lane = false → t.fields = t.lays ++ [t.data.data.toList] := by
    intro h
    unfold Tx.fields
    rw [if_neg (by rw [h]; simp), List.append_nil]
  have hfy : t.lane = true → t.fields = (t.lays ++ [t.data.data.toList]) ++ [Oct.num t.round.toNat, Oct.num t.turn.toNat] := by
    intro h
    unfold Tx.fields
    rw [if_pos h]
  have Hfl := Lib.hid hfl
  have Hfy := Lib.hid hfy
  have hly : t.lays = [Oct.num t.frm.toNat, Oct.num t.nonce.toNat, Oct.num t.fee.toNat, Oct.num t.to.toNat] := rfl
  have Hly := Lib.hid hly
  show Calls _ _ #[.agg t.cells.toArray] _ _
  generalize t.lays = Ly at *
  generalize t.cells = C at *
  generalize hn1 : Oct.num t.frm.toNat = m1 at *
  generalize hn2 : Oct.num t.nonce.toNat = m2 at *
  generalize hn3 : Oct.num t.fee.toNat = m3 at *
  generalize hn4 : Oct.num t.to.toNat = m4 at *
  generalize hn6 : Oct.num t.round.toNat = m6 at *
  generalize hn7 : Oct.num t.turn.toNat = m7 at *
  have HL := Lib.hid hlen
  have Hrng := Lib.hid hrng
  have Hrow0 := Lib.hid hrow0
  clear hi hz hs hby hrow0 hlen hrng hfl hfy hly hB he ht k1 k2 k3 k4 k5 k6 k7 hn1 hn2 hn3 hn4 hn6 hn7
  rcases Bool.eq_false_or_eq_true t.lane with hl | hl
  · have Hlane := Lib.hid hl
    go_enter Tryd.func85, Tryd.ntmps85
    go_wp2_with (with_reducible show wpList _ _ _ (⟨_, .load 74 _, _, _, _, _⟩ :: _) _ _; refine wpList_load_tx rfl 74 (.tmp 1) rfl w.heap.size 0 rfl C _ Hrng.out Tryd.underlying74 rfl (by rw [tx_info, HL.out]) ?_)
    refine (CH.out _).mono ?_
    rintro _ w1 ⟨rfl, hb1⟩
    have hg1 := grownBy_of_below hb1 none
    have hS0 := BX.out (show BodyIn w w1.drew w.heap.size C from ⟨(Hrow0.out.kept hg1 (by simp)).kept (grownBy_drew _ none) (by simp), (tx_below hg1).drew⟩)
    have HS0 := Lib.hid hS0
    clear hb1 hg1 hS0
    go_wp2_with fail
    have hS0 := HS0.out
    go_region_held3 (fun W => BodyIn w W w.heap.size C ∧ W.cell? ⟨w.heap.size, 0, none⟩ = some (.int .i64 t.frm) ∧ W.cell? ⟨w.heap.size, 1, none⟩ = some (.int .i64 t.nonce) ∧ W.cell? ⟨w.heap.size, 2, none⟩ = some (.int .i64 t.fee) ∧ W.cell? ⟨w.heap.size, 3, none⟩ = some (.int .i64 t.to) ∧
        W.cell? ⟨w.heap.size, 4, none⟩ = some (.string t.data) ∧ W.cell? ⟨w.heap.size, 5, none⟩ = some (.bool t.lane) ∧ W.cell? ⟨w.heap.size, 6, none⟩ = some (.int .i64 t.round) ∧ W.cell? ⟨w.heap.size, 7, none⟩ = some (.int .i64 t.turn))
      (first | assumption | exact hS0 | (exact BX.out (BodyIn.step (And.left (by assumption)) (by assumption))) | (exact BX.out (BodyIn.step (And.left (by assumption)) ((Below.refl _ _).alloc (Nat.le_refl _) _))))
      (first
        | (go_at_call 116; with_reducible refine Calls.mono (N1.out _) ?_; rintro e w' ⟨rfl, hb⟩)
        | (go_at_call 116; with_reducible refine Calls.mono (N2.out _) ?_; rintro e w' ⟨rfl, hb⟩)
        | (go_at_call 116; with_reducible refine Calls.mono (N3.out _) ?_; rintro e w' ⟨rfl, hb⟩)
        | (go_at_call 116; with_reducible refine Calls.mono (N4.out _) ?_; rintro e w' ⟨rfl, hb⟩))
    rename_i hHeld
    have hin := hHeld.1
    have c5 := hHeld.2.2.2.2.2.2.1
    have hsz : w.heap.size ≤ w'.heap.size := by have := hin.2.size; have h2 := hin.1.lt; simp at this h2; omega
    have hlt : w.heap.size < w'.heap.size + 1 := by have h2 := hin.1.lt; simpa using h2
    have hgne : w.heap.size ≠ w'.heap.size := fun e => by
      have h1 := hin.1
      unfold Row at h1
      rw [e, heap_alloc_new w' _] at h1
      simp at h1
    have hown := own_lit w' w.heap.size 5 [m1, m2, m3, m4, t.data.data.toList] rfl hsz (by decide)
    have Hin := Lib.hid hin
    have Hown := Lib.hid hown
    clear hHeld hin hown HS0 hS0 hb
    generalize hWe : w'.alloc (.cells #[S m1, S m2, S m3, S m4, .string t.data] 9) = W5 at *
    have Hown5 : Hid (W5.ownsRow w.heap.size 9 1 (.slice (some ⟨w'.heap.size, 0, none⟩) 5 5) 5 ([m1, m2, m3, m4, t.data.data.toList].map S)) := by rw [← hWe]; exact Hown
    clear hWe Hown
    generalize w'.heap.size = g5 at *
    have hS0 := BX.out (show BodyIn w W5.drew w.heap.size C from ⟨Hin.out.1.kept (grownBy_drew _ none) (by simp), Hin.out.2.drew⟩)
    have Hownd : Hid (W5.drew.ownsRow w.heap.size 9 1 (.slice (some ⟨g5, 0, none⟩) 5 5) 5 ([m1, m2, m3, m4, t.data.data.toList].map S)) := Lib.hid Hown5.out.drew
    have HS0 := Lib.hid hS0
    have hsz5 : w.heap.size ≤ W5.drew.heap.size := hS0.1.2.size
    have hl63 : 5 + 2 ≤ maxLen := by unfold maxLen; omega
    clear hS0
    go_wp2_with fail
    have hS0 := HS0.out
    go_region_held3 (fun W => BodyIn w W w.heap.size C ∧ W.cell? ⟨w.heap.size, 0, none⟩ = some (.int .i64 t.frm) ∧ W.cell? ⟨w.heap.size, 1, none⟩ = some (.int .i64 t.nonce) ∧ W.cell? ⟨w.heap.size, 2, none⟩ = some (.int .i64 t.fee) ∧ W.cell? ⟨w.heap.size, 3, none⟩ = some (.int .i64 t.to) ∧ W.cell? ⟨w.heap.size, 4, none⟩ = some (.string t.data) ∧ W.cell? ⟨w.heap.size, 5, none⟩ = some (.bool t.lane) ∧ W.cell? ⟨w.heap.size, 6, none⟩ = some (.int .i64 t.round) ∧ W.cell? ⟨w.heap.size, 7, none⟩ = some (.int .i64 t.turn))
      (first | assumption | exact hS0 | (exact BX.out (BodyIn.step (And.left (by assumption)) (by assumption))) | (exact BX.out (BodyIn.step (And.left (by assumption)) ((Below.refl _ _).alloc (Nat.le_refl _) _))) | (exact BX.out (BodyIn.grow (And.left (by assumption)) (by assumption) hsz hgne)))
      (first
        | (go_at_call 116; with_reducible refine Calls.mono (N6.out Hlane.out _) ?_; rintro e w' ⟨rfl, hb⟩)
        | (go_at_call 116; with_reducible refine Calls.mono (N7.out Hlane.out _) ?_; rintro e w' ⟨rfl, hb⟩)
        | (refine step_append_own rfl (.tmp 28) (.tmp 35) 133 rfl w.heap.size 9 i0 (.string ByteArray.empty) 1 16 Tryd.underlying133 Hi.out Hz.out Hs.out Hby.out rfl (by decide) (.slice (some ⟨g5, 0, none⟩) 5 5) 5 ([m1, m2, m3, m4, t.data.data.toList].map S) (by rfl) ((own_chain Hownd.out (by assumption) (by assumption)).alloc _) _ 2 2 [S m6, S m7] (by rfl) rfl (two_texts _ _ _ _) (two_textc _ _) (by decide) hl63 (by decide) (base_chain hsz5 (by assumption) (by assumption) _) ?_; intro g cap w7 hown7 hgrow7))
    rename_i hHeld
    have hb7 := hHeld.1.2
    have hown8 : w7.ownsRow w.heap.size 9 1 (.slice (some ⟨g, 0, none⟩) 7 cap) 7 (t.fields.map S) := by
      rw [Hfy.out Hlane.out, Hly.out]
      exact hown7
    have hf7 : 7 = t.fields.length := by rw [Hfy.out Hlane.out, Hly.out]; rfl
    have Hb7 := Lib.hid hb7
    have Hown8 := Lib.hid hown8
    have Hf7 := Lib.hid hf7
    clear hHeld hb7 hown8 hf7 hown7 hgrow7 hb HS0 hS0 c5
    go_wp2_with fail
    refine (rlist_own t.fields _ _ _ _ _ Hown8.out Hf7.out).mono ?_
    rintro _ w8 ⟨rfl, hb8⟩
    have Hb8 := Lib.hid (two_below' Hb7.out hb8)
    clear hb8
    go_wp2_with fail
    go_ret2
    exact ⟨rfl, Hb8.out⟩
  · have Hlane := Lib.hid hl
    go_enter Tryd.func85, Tryd.ntmps85
    go_wp2_with (with_reducible show wpList _ _ _ (⟨_, .load 74 _, _, _, _, _⟩ :: _) _ _; refine wpList_load_tx rfl 74 (.tmp 1) rfl w.heap.size 0 rfl C _ Hrng.out Tryd.underlying74 rfl (by rw [tx_info, HL.out]) ?_)
    refine (CH.out _).mono ?_
    rintro _ w1 ⟨rfl, hb1⟩
    have hg1 := grownBy_of_below hb1 none
    have hS0 := BX.out (show BodyIn w w1.drew w.heap.size C from ⟨(Hrow0.out.kept hg1 (by simp)).kept (grownBy_drew _ none) (by simp), (tx_below hg1).drew⟩)
    have HS0 := Lib.hid hS0
    clear hb1 hg1 hS0
    go_wp2_with fail
    have hS0 := HS0.out
    go_region_held3 (fun W => BodyIn w W w.heap.size C ∧ W.cell? ⟨w.heap.size, 0, none⟩ = some (.int .i64 t.frm) ∧ W.cell? ⟨w.heap.size, 1, none⟩ = some (.int .i64 t.nonce) ∧ W.cell? ⟨w.heap.size, 2, none⟩ = some (.int .i64 t.fee) ∧ W.cell? ⟨w.heap.size, 3, none⟩ = some (.int .i64 t.to) ∧
        W.cell? ⟨w.heap.size, 4, none⟩ = some (.string t.data) ∧ W.cell? ⟨w.heap.size, 5, none⟩ = some (.bool t.lane) ∧ W.cell? ⟨w.heap.size, 6, none⟩ = some (.int .i64 t.round) ∧ W.cell? ⟨w.heap.size, 7, none⟩ = some (.int .i64 t.turn))
      (first | assumption | exact hS0 | (exact BX.out (BodyIn.step (And.left (by assumption)) (by assumption))) | (exact BX.out (BodyIn.step (And.left (by assumption)) ((Below.refl _ _).alloc (Nat.le_refl _) _))))
      (first
        | (go_at_call 116; with_reducible refine Calls.mono (N1.out _) ?_; rintro e w' ⟨rfl, hb⟩)
        | (go_at_call 116; with_reducible refine Calls.mono (N2.out _) ?_; rintro e w' ⟨rfl, hb⟩)
        | (go_at_call 116; with_reducible refine Calls.mono (N3.out _) ?_; rintro e w' ⟨rfl, hb⟩)
        | (go_at_call 116; with_reducible refine Calls.mono (N4.out _) ?_; rintro e w' ⟨rfl, hb⟩))
    rename_i hHeld
    have hin := hHeld.1
    have c5 := hHeld.2.2.2.2.2.2.1
    have hsz : w.heap.size ≤ w'.heap.size := by have := hin.2.size; have h2 := hin.1.lt; simp at this h2; omega
    have hlt : w.heap.size < w'.heap.size + 1 := by have h2 := hin.1.lt; simpa using h2
    have hgne : w.heap.size ≠ w'.heap.size := fun e => by
      have h1 := hin.1
      unfold Row at h1
      rw [e, heap_alloc_new w' _] at h1
      simp at h1
    have hown := own_lit w' w.heap.size 5 [m1, m2, m3, m4, t.data.data.toList] rfl hsz (by decide)
    have Hin := Lib.hid hin
    have Hown := Lib.hid hown
    clear hHeld hin hown HS0 hS0 hb
    generalize hWe : w'.alloc (.cells #[S m1, S m2, S m3, S m4, .string t.data] 9) = W5 at *
    have Hown5 : Hid (W5.ownsRow w.heap.size 9 1 (.slice (some ⟨w'.heap.size, 0, none⟩) 5 5) 5 ([m1, m2, m3, m4, t.data.data.toList].map S)) := by rw [← hWe]; exact Hown
    clear hWe Hown
    generalize w'.heap.size = g5 at *
    have hown8 : W5.ownsRow w.heap.size 9 1 (.slice (some ⟨g5, 0, none⟩) 5 5) 5 (t.fields.map S) := by
      rw [Hfl.out Hlane.out, Hly.out]
      exact Hown5.out
    have hf7 : 5 = t.fields.length := by rw [Hfl.out Hlane.out, Hly.out]; rfl
    have Hown8 := Lib.hid hown8
    have Hf7 := Lib.hid hf7
    clear hown8 hf7 hgne
    go_wp2_with fail
    refine (rlist_own t.fields _ _ _ _ _ Hown8.out Hf7.out).mono ?_
    rintro _ w8 ⟨rfl, hb8⟩
    have Hb8 := Lib.hid (two_below' Hin.out.2 hb8)
    clear hb8
    go_wp2_with fail
    go_ret2
    exact ⟨rfl, Hb8.out⟩
theorem rbody_any (t : Tx) (ht : t.Ok) (w : World) :
    Calls Tryd.prog 85 #[t.v] w fun e w' => e = .returned (.tuple #[S t.bodyE.1, .int .i64 t.bodyE.2]) ∧ Below w.heap.size w w' := by
  by_cases he : t.err = 0
  · exact rbody_ok t ht w he
  · exact rbody_no t ht w he
end Go.Proofs.YtlapmdgkcidhnaaDoor

/- ---- TxRead4 ---- -/
/- tx.Read. -/
namespace Go.Proofs.YtlapmdgkcidhnaaDoor
open Go.RowKit
set_option linter.unusedVariables false
set_option linter.unusedSimpArgs false

namespace Tx
end Tx
theorem bytes_below (w : World) (e : TypeId) (s : ByteArray) : Below w.heap.size w (Lib.bytesWorld w e s) :=
  ⟨rfl, rfl, rfl, by rw [Lib.bytesWorld_size]; omega, fun k hk => Lib.bytesWorld_at_old w e s k hk⟩
/-- a text of 32 bytes as a new row -/
theorem conv32 (W : World) (x : List UInt8) (hx : x.length = 32) : ∃ cp Wc, (convert 9 129 (S x)).run Tryd.prog W = .ok (.slice (some ⟨W.heap.size, 0, none⟩) 32 cp) Wc ∧ W.grownBy Wc none ∧ Wc.rangeAt W.heap.size 0 (bRow x).toList := by
  have h := Lib.run_convert_string_bytes (P := Tryd.prog) W 9 129 5 ⟨x.toArray⟩ Tryd.underlying9 Tryd.underlying129 Tryd.underlying5
  have hs : (⟨x.toArray⟩ : ByteArray).size = 32 := hx
  rw [hs] at h
  refine ⟨_, _, h, grownBy_of_below (bytes_below W 5 ⟨x.toArray⟩) none, ?_⟩
  intro j v hv
  rw [bRow_yRow x hx] at hv
  unfold yRow at hv
  simp only [List.getElem?_map] at hv
  obtain ⟨b, hb, rfl⟩ := Option.map_eq_some_iff.1 hv
  obtain ⟨hj, hb'⟩ := List.getElem?_eq_some_iff.1 hb
  rw [Nat.zero_add, Lib.bytesWorld_cell W 5 ⟨x.toArray⟩ j (by rw [hs, ← hx]; exact hj)]
  simp [hb]
end Go.Proofs.YtlapmdgkcidhnaaDoor

/- ---- TxRef2 ---- -/
/- The reference of layer 4: Sign, Hand. -/
namespace Go.Proofs.YtlapmdgkcidhnaaDoor
open Go.RowKit
set_option linter.unusedVariables false
set_option linter.unusedSimpArgs false

set_option maxRecDepth 20000 in
set_option maxHeartbeats 1600000 in
theorem rhand4_any (hRS : RefSum) (t : Tx) (ht : t.Ok) (who : Int) (w : World) :
    Calls Tryd.prog 62 #[t.v, .int .i64 who] w fun e w' => e = .returned (Tx.pairV (t.handE who)) ∧ Below w.heap.size w w' := by
  have hrng := tx_range (Row.new w 74 t.cells)
  have hlen := Tx.cells_length ht
  have BD : Hid (∀ W, Calls Tryd.prog 85 #[.agg t.cells.toArray] W fun e w' => e = .returned (.tuple #[S t.bodyE.1, .int .i64 t.bodyE.2]) ∧ Below W.heap.size W w') := fun W => rbody_any t ht W
  have hbl := t.body_len
  have TG : Hid (∀ W, Calls Tryd.prog 78 #[.int .i64 who, .int .i64 2, S t.bodyE.1] W fun e w' => e = .returned (.tuple #[.agg (bRow (Seal.tag who 2 t.bodyE.1).1), .int .i64 (Seal.tag who 2 t.bodyE.1).2]) ∧ Below W.heap.size W w') := fun W => refTag_any hRS who 2 ⟨t.bodyE.1.toArray⟩ W (by show t.bodyE.1.length ≤ _; omega)
  have BX : Hid (∀ (W : World) (g : Nat) (T : TypeId), Row W g T t.cells → W.cell? ⟨g, 0, none⟩ = some (.int .i64 t.frm) ∧ W.cell? ⟨g, 5, none⟩ = some (.bool t.lane)) := fun W g T h => ⟨(tx_box ht h).1, (tx_box ht h).2.2.2.2.2.1⟩
  have hn1 : t.bodyE.2 = 0 → Tx.acct who = true → t.lane = true → Tx.pairV (t.handE who) = .tuple #[.agg (t.hand who).cells.toArray, .int .i64 (Seal.tag who 2 t.bodyE.1).2] := fun h h2 h3 => by unfold Tx.handE; rw [if_neg (by simp [h]), if_neg (by rw [h2]; simp), if_neg (by rw [h3]; simp)]; rfl
  have hn2 : t.bodyE.2 ≠ 0 → Tx.pairV (t.handE who) = .tuple #[.agg Tx.none.cells.toArray, .int .i64 t.bodyE.2] := fun h => by unfold Tx.handE; rw [if_pos h]; rfl
  have hn3 : t.bodyE.2 = 0 → Tx.acct who = false → Tx.pairV (t.handE who) = .tuple #[.agg Tx.none.cells.toArray, .int .i64 20] := fun h h2 => by unfold Tx.handE; rw [if_neg (by simp [h]), if_pos h2]; rfl
  have hn4 : t.bodyE.2 = 0 → Tx.acct who = true → t.lane = false → Tx.pairV (t.handE who) = .tuple #[.agg Tx.none.cells.toArray, .int .i64 2] := fun h h2 h3 => by unfold Tx.handE; rw [if_neg (by simp [h]), if_neg (by rw [h2]; simp), if_pos h3]; rfl
  have hcl := Tx.hand_cells ht (Seal.tag who 2 t.bodyE.1).1 (Seal.tag_len _ _ _)
  have hD1 : ∀ v ∈ (t.hand who).cells, v.oneCell' = true := Tx.cells_one (Tx.hand_ok ht who)
  have hDl : (t.hand who).cells.length = 72 := Tx.cells_length (Tx.hand_ok ht who)
  have hz0 : Tx.acct who = true → (Seal.tag who 2 t.bodyE.1).2 = 0 := fun h => hand_err0 h
  have hce : Tx.cells { t with bY := (Seal.tag who 2 t.bodyE.1).1 } = (t.hand who).cells := rfl
  rw [hce] at hcl
  have htl := Seal.tag_len who 2 t.bodyE.1
  show Calls _ _ #[.agg t.cells.toArray, .int .i64 who] _ _
  generalize (t.hand who).cells = D at *
  generalize t.cells = C at *
  generalize Tx.pairV (t.handE who) = NE at *
  generalize (Seal.tag who 2 t.bodyE.1).2 = tn at *
  generalize (Seal.tag who 2 t.bodyE.1).1 = R at *
  generalize t.bodyE = BE at *
  obtain ⟨bs, be⟩ := BE
  simp only at hn1 hn2 hn3 hn4 BD TG hz0
  have HL := Lib.hid hlen
  have Hrng := Lib.hid hrng
  have Hn1 := Lib.hid hn1
  have Hn2 := Lib.hid hn2
  have Hn3 := Lib.hid hn3
  have Hn4 := Lib.hid hn4
  have Hcl := Lib.hid hcl
  have HD1 := Lib.hid hD1
  have HDl := Lib.hid hDl
  have Hz0 := Lib.hid hz0
  have HR := Lib.hid htl
  have HB32 := Lib.hid (Tx.bRow_len R htl)
  have HZ72 := Lib.hid (Tx.cells_length Tx.none_ok)
  have HZ1 := Lib.hid (Tx.cells_one Tx.none_ok)
  have hzv := tx_zv
  have hzh := hash_zv
  have HZ32 := Lib.hid (Tx.bRow_len Tx.zero rfl)
  clear hlen hrng hn1 hn2 hn3 hn4 hbl ht hcl hD1 hDl hz0 hce htl
  by_cases he : be = 0
  · subst he
    rcases Bool.eq_false_or_eq_true (Tx.acct who) with ha | ha
    · have Hacct := Lib.hid ha
      rcases Bool.eq_false_or_eq_true t.lane with hl | hl
      · have Hlane := Lib.hid hl
        go_enter Tryd.func62, Tryd.ntmps62
        go_wp2_with (with_reducible show wpList _ _ _ (⟨_, .load 74 _, _, _, _, _⟩ :: _) _ _; refine wpList_load_tx rfl 74 (.tmp 2) rfl w.heap.size 0 rfl C _ (World.rangeAt_alloc Hrng.out _) Tryd.underlying74 rfl (by rw [tx_info, HL.out]) ?_)
        refine calls_named ?_
        intro w1 hw1
        have hb1 : Below w.heap.size w w1 := by rw [hw1]; exact (row_two w C.toArray Tx.none.arr 74 74).2.1
        have hr1 : Row w1 (w.heap.size + 1) 74 Tx.none.cells := by rw [hw1]; exact (row_two w C.toArray Tx.none.arr 74 74).1
        have hq1 : Row w1 w.heap.size 74 C := by rw [hw1]; exact (row_two w C.toArray Tx.none.arr 74 74).2.2
        clear hw1
        refine (BD.out w1).mono ?_
        rintro _ w2 ⟨rfl, hb2⟩
        have hr2 := hr1.kept (grownBy_of_below hb2 none) (by simp)
        have hq2 := hq1.kept (grownBy_of_below hb2 none) (by simp)
        obtain ⟨c0, c5⟩ := BX.out _ _ _ hq2
        have hbt2 := two_below' hb1 hb2
        have Hr2 := Lib.hid hr2
        have Hq2 := Lib.hid hq2
        have Hbt2 := Lib.hid hbt2
        clear hb1 hr1 hq1 hb2 hr2 hq2 hbt2
        go_wp2_with (first
          | (go_at_call 86; with_reducible refine (within63 _ _).mono ?_; rintro e w' ⟨rfl, rfl⟩)
          | fail)
        refine (TG.out w2).mono ?_
        rintro _ w3 ⟨rfl, hb3⟩
        have hg3 := grownBy_of_below hb3 none
        have Hr3 := Lib.hid (Hr2.out.kept hg3 (by simp))
        have Hq3 := Lib.hid (Hq2.out.kept hg3 (by simp))
        have Hbt3 := Lib.hid (two_below' Hbt2.out hb3)
        have hlt3 := Hr3.out.lt
        clear hb3 hg3 hzv c0 c5
        go_wp2_with (first
          | (with_reducible show wpList _ _ _ (⟨_, .store 28 (.tmp 8) _, _, _, _, _⟩ :: _) _ _
             refine wpList_store_at rfl 28 (.tmp 8) (.tmp 31) rfl w3.heap.size 0 (bRow R).toList (bRow Tx.zero).toList 28 rfl rfl (Row.new w3 _ _) (by have := HB32.out; have := HZ32.out; omega) (by rw [hash_info, HB32.out]) (hash_one R HR.out) ?_
             intro w4 hr4 hg4
             rw [splice_all (HB32.out.trans HZ32.out.symm)] at hr4
             have Hh4 := Lib.hid hr4
             have Hr4 := Lib.hid ((Hr3.out.kept (grownBy_alloc _ _ none) (by simp)).kept hg4 (by simp; omega))
             have Hq4 := Lib.hid ((Hq3.out.kept (grownBy_alloc _ _ none) (by simp)).kept hg4 (by simp; omega))
             have Hbt4 := Lib.hid (below_own (Hbt3.out.alloc Hbt3.out.size _) hg4 (fun k hk => by cases hk; have := Hbt3.out.size; omega))
             clear hr4 hg4 hzh)
          | (with_reducible show wpList _ _ _ (⟨_, .load 28 _, _, _, _, _⟩ :: _) _ _; refine wpList_load_tx rfl 28 (.tmp 8) rfl w3.heap.size 0 rfl (bRow R).toList _ (row_range Hh4.out) Tryd.underlying28 rfl (by rw [hash_info, HB32.out]) ?_)
          | (with_reducible show wpList _ _ _ (⟨_, .store 28 _ _, _, _, _, _⟩ :: _) _ _
             refine wpList_store_at rfl 28 (.tmp 34) (.tmp 33) rfl w.heap.size 8 (bRow R).toList _ _ rfl rfl Hq4.out (by rw [HB32.out, HL.out]; decide) (by rw [hash_info, HB32.out]) (hash_one R HR.out) ?_
             intro w5 hr5 hg5
             rw [Hcl.out] at hr5
             have Hq5 := Lib.hid hr5
             have Hr5 := Lib.hid (Hr4.out.kept hg5 (by simp))
             have Hbt5 := Lib.hid (below_own Hbt4.out hg5 (fun k hk => by cases hk; omega))
             clear hr5 hg5)
          | (with_reducible show wpList _ _ _ (⟨_, .load 74 _, _, _, _, _⟩ :: _) _ _; refine wpList_load_tx rfl 74 (.tmp 2) rfl w.heap.size 0 rfl D _ (row_range Hq5.out) Tryd.underlying74 rfl (by rw [tx_info, HDl.out]) ?_)
          | (with_reducible show wpList _ _ _ (⟨_, .store 74 _ _, _, _, _, _⟩ :: _) _ _
             refine wpList_store_at rfl 74 (.tmp 4) (.tmp 35) rfl (w.heap.size + 1) 0 D _ _ rfl rfl Hr5.out (by have := HZ72.out; have := HDl.out; omega) (by rw [tx_info, HDl.out]) HD1.out ?_
             intro w6 hr6 hg6
             rw [splice_all (HDl.out.trans HZ72.out.symm)] at hr6
             have Hr6 := Lib.hid hr6
             have Hb6 := Lib.hid (below_own Hbt5.out hg6 (fun k hk => by cases hk; omega))
             clear hr6 hg6))
        refine bodyPost_ret (results_rowL rfl _ _ (w.heap.size + 1) 74 _ _ rfl Hr6.out Tryd.underlying74 rfl (by rw [tx_info, List.size_toArray, HDl.out]) _ rfl) rfl ⟨?_, Hb6.out⟩
        have e := Hn1.out (by first | trivial | rfl) Hacct.out Hlane.out
        rw [Hz0.out Hacct.out] at e
        subst e
        rfl
      · have Hlane := Lib.hid hl
        go_enter Tryd.func62, Tryd.ntmps62
        go_wp2_with (with_reducible show wpList _ _ _ (⟨_, .load 74 _, _, _, _, _⟩ :: _) _ _; refine wpList_load_tx rfl 74 (.tmp 2) rfl w.heap.size 0 rfl C _ (World.rangeAt_alloc Hrng.out _) Tryd.underlying74 rfl (by rw [tx_info, HL.out]) ?_)
        refine calls_named ?_
        intro w1 hw1
        have hb1 : Below w.heap.size w w1 := by rw [hw1]; exact (row_two w C.toArray Tx.none.arr 74 74).2.1
        have hr1 : Row w1 (w.heap.size + 1) 74 Tx.none.cells := by rw [hw1]; exact (row_two w C.toArray Tx.none.arr 74 74).1
        have hq1 : Row w1 w.heap.size 74 C := by rw [hw1]; exact (row_two w C.toArray Tx.none.arr 74 74).2.2
        clear hw1
        refine (BD.out w1).mono ?_
        rintro _ w2 ⟨rfl, hb2⟩
        have hr2 := hr1.kept (grownBy_of_below hb2 none) (by simp)
        have hq2 := hq1.kept (grownBy_of_below hb2 none) (by simp)
        obtain ⟨c0, c5⟩ := BX.out _ _ _ hq2
        have hbt2 := two_below' hb1 hb2
        have Hr2 := Lib.hid hr2
        have Hq2 := Lib.hid hq2
        have Hbt2 := Lib.hid hbt2
        clear hb1 hr1 hq1 hb2 hr2 hq2 hbt2
        go_wp2_with (first
          | (go_at_call 86; with_reducible refine (within63 _ _).mono ?_; rintro e w' ⟨rfl, rfl⟩)
          | (with_reducible show wpList _ _ _ (⟨_, .build 74 _, _, _, _, _⟩ :: _) _ _; refine wpList_buildL rfl 74 [] rfl (some 26) rfl _ rfl _ tx_built0 ?_)
          | (with_reducible show wpList _ _ _ (⟨_, .store 74 _ _, _, _, _, _⟩ :: _) _ _
             refine wpList_store_at rfl 74 (.tmp 4) (.tmp 26) rfl (w.heap.size + 1) 0 Tx.none.cells _ _ rfl rfl Hr2.out (by have := HZ72.out; omega) (by rw [tx_info, HZ72.out]) HZ1.out ?_
             intro w4 hr4 hg4
             rw [splice_all rfl] at hr4
             have Hr4 := Lib.hid hr4
             have Hb4 := Lib.hid (below_own Hbt2.out hg4 (fun k hk => by cases hk; omega))
             clear hr4 hg4))
        refine bodyPost_ret (results_rowL rfl _ _ (w.heap.size + 1) 74 _ _ rfl Hr4.out Tryd.underlying74 rfl (by rw [tx_info, List.size_toArray, HZ72.out]) _ rfl) rfl ⟨?_, Hb4.out⟩
        have e := Hn4.out (by first | trivial | rfl) Hacct.out Hlane.out
        subst e
        rfl
    · have Hacct := Lib.hid ha
      go_enter Tryd.func62, Tryd.ntmps62
      go_wp2_with (with_reducible show wpList _ _ _ (⟨_, .load 74 _, _, _, _, _⟩ :: _) _ _; refine wpList_load_tx rfl 74 (.tmp 2) rfl w.heap.size 0 rfl C _ (World.rangeAt_alloc Hrng.out _) Tryd.underlying74 rfl (by rw [tx_info, HL.out]) ?_)
      refine calls_named ?_
      intro w1 hw1
      have hb1 : Below w.heap.size w w1 := by rw [hw1]; exact (row_two w C.toArray Tx.none.arr 74 74).2.1
      have hr1 : Row w1 (w.heap.size + 1) 74 Tx.none.cells := by rw [hw1]; exact (row_two w C.toArray Tx.none.arr 74 74).1
      have hq1 : Row w1 w.heap.size 74 C := by rw [hw1]; exact (row_two w C.toArray Tx.none.arr 74 74).2.2
      clear hw1
      refine (BD.out w1).mono ?_
      rintro _ w2 ⟨rfl, hb2⟩
      have hr2 := hr1.kept (grownBy_of_below hb2 none) (by simp)
      have hq2 := hq1.kept (grownBy_of_below hb2 none) (by simp)
      obtain ⟨c0, c5⟩ := BX.out _ _ _ hq2
      have hbt2 := two_below' hb1 hb2
      have Hr2 := Lib.hid hr2
      have Hq2 := Lib.hid hq2
      have Hbt2 := Lib.hid hbt2
      clear hb1 hr1 hq1 hb2 hr2 hq2 hbt2
      go_wp2_with (first
        | (go_at_call 86; with_reducible refine (within63 _ _).mono ?_; rintro e w' ⟨rfl, rfl⟩)
        | (with_reducible show wpList _ _ _ (⟨_, .build 74 _, _, _, _, _⟩ :: _) _ _; refine wpList_buildL rfl 74 [] rfl (some 22) rfl _ rfl _ tx_built0 ?_)
        | (with_reducible show wpList _ _ _ (⟨_, .store 74 _ _, _, _, _, _⟩ :: _) _ _
           refine wpList_store_at rfl 74 (.tmp 4) (.tmp 22) rfl (w.heap.size + 1) 0 Tx.none.cells _ _ rfl rfl Hr2.out (by have := HZ72.out; omega) (by rw [tx_info, HZ72.out]) HZ1.out ?_
           intro w4 hr4 hg4
           rw [splice_all rfl] at hr4
           have Hr4 := Lib.hid hr4
           have Hb4 := Lib.hid (below_own Hbt2.out hg4 (fun k hk => by cases hk; omega))
           clear hr4 hg4))
      refine bodyPost_ret (results_rowL rfl _ _ (w.heap.size + 1) 74 _ _ rfl Hr4.out Tryd.underlying74 rfl (by rw [tx_info, List.size_toArray, HZ72.out]) _ rfl) rfl ⟨?_, Hb4.out⟩
      have e := Hn3.out (by first | trivial | rfl) Hacct.out
      subst e
      rfl
  · have hne : (be != 0) = true := by simpa using he
    have Hne := Lib.hid he
    clear he
    go_enter Tryd.func62, Tryd.ntmps62
    go_wp2_with (with_reducible show wpList _ _ _ (⟨_, .load 74 _, _, _, _, _⟩ :: _) _ _; refine wpList_load_tx rfl 74 (.tmp 2) rfl w.heap.size 0 rfl C _ (World.rangeAt_alloc Hrng.out _) Tryd.underlying74 rfl (by rw [tx_info, HL.out]) ?_)
    refine calls_named ?_
    intro w1 hw1
    have hb1 : Below w.heap.size w w1 := by rw [hw1]; exact (row_two w C.toArray Tx.none.arr 74 74).2.1
    have hr1 : Row w1 (w.heap.size + 1) 74 Tx.none.cells := by rw [hw1]; exact (row_two w C.toArray Tx.none.arr 74 74).1
    have hq1 : Row w1 w.heap.size 74 C := by rw [hw1]; exact (row_two w C.toArray Tx.none.arr 74 74).2.2
    clear hw1
    refine (BD.out w1).mono ?_
    rintro _ w2 ⟨rfl, hb2⟩
    have hr2 := hr1.kept (grownBy_of_below hb2 none) (by simp)
    have hq2 := hq1.kept (grownBy_of_below hb2 none) (by simp)
    obtain ⟨c0, c5⟩ := BX.out _ _ _ hq2
    have hbt2 := two_below' hb1 hb2
    have Hr2 := Lib.hid hr2
    have Hq2 := Lib.hid hq2
    have Hbt2 := Lib.hid hbt2
    clear hb1 hr1 hq1 hb2 hr2 hq2 hbt2
    go_wp2_with (first
      | (go_at_call 86; with_reducible refine (within63 _ _).mono ?_; rintro e w' ⟨rfl, rfl⟩)
      | (with_reducible show wpList _ _ _ (⟨_, .build 74 _, _, _, _, _⟩ :: _) _ _; refine wpList_buildL rfl 74 [] rfl (some 17) rfl _ rfl _ tx_built0 ?_)
      | (with_reducible show wpList _ _ _ (⟨_, .store 74 _ _, _, _, _, _⟩ :: _) _ _
         refine wpList_store_at rfl 74 (.tmp 4) (.tmp 17) rfl (w.heap.size + 1) 0 Tx.none.cells _ _ rfl rfl Hr2.out (by have := HZ72.out; omega) (by rw [tx_info, HZ72.out]) HZ1.out ?_
         intro w4 hr4 hg4
         rw [splice_all rfl] at hr4
         have Hr4 := Lib.hid hr4
         have Hb4 := Lib.hid (below_own Hbt2.out hg4 (fun k hk => by cases hk; omega))
         clear hr4 hg4))
    refine bodyPost_ret (results_rowL rfl _ _ (w.heap.size + 1) 74 _ _ rfl Hr4.out Tryd.underlying74 rfl (by rw [tx_info, List.size_toArray, HZ72.out]) _ rfl) rfl ⟨?_, Hb4.out⟩
    have e := Hn2.out Hne.out
    subst e
    rfl
end Go.Proofs.YtlapmdgkcidhnaaDoor
