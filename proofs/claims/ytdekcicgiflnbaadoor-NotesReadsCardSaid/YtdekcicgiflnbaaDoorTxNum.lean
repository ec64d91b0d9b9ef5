/- tx: account, number, plain. -/
import Derived.Test.YtdekcicgiflnbaaDoorTxMath
import Derived.Test.YtdekcicgiflnbaaDoorFill
import Derived.Test.YtdekcicgiflnbaaDoorBuildL
import Derived.Deep.MidRow
import Derived.Laws.Tables
namespace Go.Proofs.YtdekcicgiflnbaaDoor
open Go.RowKit
set_option linter.unusedVariables false
set_option linter.unusedSimpArgs false

theorem account_any (n : Int) (w : World) :
    Calls Tryd.prog 62 #[.int .i64 n] w fun e w' => e = .returned (.bool (Tx.acct n)) ∧ w = w' := by
  unfold Tx.acct
  by_cases h : 0 ≤ n
  · have hd : decide (0 ≤ n) = true := by simpa using h
    have Hd := Lib.hid hd
    by_cases h2 : n ≤ 63
    · have hd2 : decide (n ≤ 63) = true := by simpa using h2
      have h3 : n < 64 := by omega
      have Hd2 := Lib.hid hd2
      clear hd hd2
      go_enter Tryd.func62, Tryd.ntmps62
      go_wp2
      go_ret
      exact ⟨by first | rfl | (rw [Hd.out, Hd2.out]; rfl) | (rw [Hd2.out]; rfl) | (rw [Hd.out, Hd2.out]; simp [h3]), rfl⟩
    · have hd2 : decide (n ≤ 63) = false := by simpa using h2
      have h3 : ¬ n < 64 := by omega
      have Hd2 := Lib.hid hd2
      clear hd hd2
      go_enter Tryd.func62, Tryd.ntmps62
      go_wp2
      go_ret
      exact ⟨by first | rfl | (rw [Hd.out, Hd2.out]; rfl) | (rw [Hd2.out]; rfl) | (rw [Hd.out, Hd2.out]; simp [h3]), rfl⟩
  · have hd : decide (0 ≤ n) = false := by simpa using h
    have Hd := Lib.hid hd
    clear hd
    go_enter Tryd.func62, Tryd.ntmps62
    go_wp2
    go_ret
    exact ⟨by rw [Hd.out]; rfl, rfl⟩
theorem number4_any (n : Int) (w : World) :
    Calls Tryd.prog 63 #[.int .i64 n] w fun e w' => e = .returned (.bool (Tx.num n)) ∧ w = w' := by
  unfold Tx.num
  by_cases h : 0 ≤ n
  · have hd : decide (0 ≤ n) = true := by simpa using h
    have Hd := Lib.hid hd
    clear hd
    go_enter Tryd.func63, Tryd.ntmps63
    go_wp2
    go_ret
    exact ⟨by rw [Hd.out]; rfl, rfl⟩
  · have hd : decide (0 ≤ n) = false := by simpa using h
    have Hd := Lib.hid hd
    clear hd
    go_enter Tryd.func63, Tryd.ntmps63
    go_wp2
    go_ret
    exact ⟨by rw [Hd.out]; rfl, rfl⟩
theorem within4_any (n m : Int) (w : World) :
    Calls Tryd.prog 65 #[.int .i64 n, .int .i64 m] w fun e w' => e = .returned (.bool (decide (0 ≤ n) && decide (n ≤ m))) ∧ w = w' := by
  by_cases h : 0 ≤ n
  · have hd : decide (0 ≤ n) = true := by simpa using h
    have Hd := Lib.hid hd
    clear hd
    go_enter Tryd.func65, Tryd.ntmps65
    go_wp2
    go_ret
    exact ⟨by rw [Hd.out]; rfl, rfl⟩
  · have hd : decide (0 ≤ n) = false := by simpa using h
    have Hd := Lib.hid hd
    clear hd
    go_enter Tryd.func65, Tryd.ntmps65
    go_wp2
    go_ret
    exact ⟨by rw [Hd.out]; rfl, rfl⟩

/-- a transaction lies in a block -/
theorem tx_info : (Tryd.prog.info? 25).map (·.size) = some 72 := by kernel_rfl
theorem tx_range {w : World} {g : Nat} {T : TypeId} {t : Tx} (h : Row w g T t.cells) : w.rangeAt g 0 t.cells := by
  intro j v hv
  obtain ⟨hlt, he⟩ := List.getElem?_eq_some_iff.1 hv
  rw [Nat.zero_add, h.cell j hlt, he]
theorem wpList_load_tx {P : Program} {ops : Array Oper} {rest : List Oper} {op : Oper} {a : Act} {w : World} {Q : Exit → Act → World → Prop} (hw : Region.wanted op (yielded ops a.tmps) = true) (ty : TypeId) (x : Operand) (ho : op.op = .load ty x)
    (b o : Nat) (hx : a.eval x = .pointer (some ⟨b, o, none⟩)) (cs : List Value) (d : TypeDesc) (hc : w.rangeAt b o cs)
    (hu : P.underlying ty = some d) (hd : d.isRow = true) (hi : (P.info? ty).map (·.size) = some cs.length)
    (h : wpList P ops Q rest (a.put op.dst (.agg cs.toArray)) w) : wpList P ops Q (op :: rest) a w :=
  wpList_step fun K hK => by rw [if_pos hw]; exact wp_load_mid ty x ho b o hx cs d hc hu hd hi (hK _ _ h)
theorem tx_hash_at {w : World} {g : Nat} {T : TypeId} {t : Tx} (ht : t.Ok) (h : Row w g T t.cells) : w.rangeAt g 8 (bRow t.bY).toList ∧ w.rangeAt g 40 (bRow t.tag).toList := by
  constructor
  · intro j v hv
    have hj : j < 32 := by have := (List.getElem?_eq_some_iff.1 hv).1; rw [Tx.bRow_len _ ht.bY] at this; exact this
    have e : t.cells[8 + j]? = some v := by
      rw [← hv, ← Tx.cells_by ht, List.getElem?_take_of_lt hj, List.getElem?_drop]
    obtain ⟨hlt, he⟩ := List.getElem?_eq_some_iff.1 e
    rw [h.cell _ hlt, he]
  · intro j v hv
    have hj : j < 32 := by have := (List.getElem?_eq_some_iff.1 hv).1; rw [Tx.bRow_len _ ht.tag] at this; exact this
    have e : t.cells[40 + j]? = some v := by
      rw [← hv, ← Tx.cells_tag ht, List.getElem?_take_of_lt hj, List.getElem?_drop]
    obtain ⟨hlt, he⟩ := List.getElem?_eq_some_iff.1 e
    rw [h.cell _ hlt, he]
theorem hash_info : (Tryd.prog.info? 23).map (·.size) = some 32 := by kernel_rfl



/-- a transaction of zeros -/
def Tx.none : Tx := ⟨0, 0, 0, 0, ByteArray.empty, false, 0, 0, Tx.zero, Tx.zero⟩
theorem tx_zero : (Tryd.prog.info? 25).map (·.zero) = some (some (.agg Tx.none.arr)) := by kernel_rfl
theorem tx_places : (Tryd.prog.underlying 25).map (fun d => match d with | .struct fields => fields.toList.mapM (fun f => (Tryd.prog.info? f.type).map fun i => (f.offset, i.size)) | _ => Option.none) = some (some [(0, 1), (1, 1), (2, 1), (3, 1), (4, 1), (5, 1), (6, 1), (7, 1), (8, 32), (40, 32)]) := by kernel_rfl
theorem tx_built (parts : List (Nat × Value)) : Tryd.prog.built 25 parts = Instr.fill (#[(0, 1), (1, 1), (2, 1), (3, 1), (4, 1), (5, 1), (6, 1), (7, 1), (8, 32), (40, 32)][·]?) Tx.none.cells.toArray parts := by
  obtain ⟨i0, hi, hz⟩ := Option.map_eq_some_iff.1 tx_zero
  have hp := tx_places
  rw [Tryd.underlying25] at hp
  simp only [Option.map_some, Option.some.injEq] at hp
  unfold Program.built
  rw [hi, Tryd.underlying25]
  simp only [hz, hp]
  rfl
theorem fits0 : Tx.fits 0 := ⟨by decide, by decide⟩
theorem tx_five (a b c d : Int) (s : ByteArray) (R : List UInt8) (hR : R.length = 32) :
    Tryd.prog.built 25 [(0, .int .i64 a), (1, .int .i64 b), (2, .int .i64 c), (3, .int .i64 d), (4, .string s), (9, .agg (bRow R))] = some (Tx.arr ⟨a, b, c, d, s, false, 0, 0, Tx.zero, R⟩) := by
  rw [tx_built]
  rw [fill_step _ _ 0 _ [.int .i64 a] _ 0 1 rfl rfl rfl (Nat.le_of_ble_eq_true rfl)]
  rw [fill_step _ _ 1 _ [.int .i64 b] _ 1 1 rfl rfl rfl (Nat.le_of_ble_eq_true rfl)]
  rw [fill_step _ _ 2 _ [.int .i64 c] _ 2 1 rfl rfl rfl (Nat.le_of_ble_eq_true rfl)]
  rw [fill_step _ _ 3 _ [.int .i64 d] _ 3 1 rfl rfl rfl (Nat.le_of_ble_eq_true rfl)]
  rw [fill_step _ _ 4 _ [.string s] _ 4 1 rfl rfl rfl (Nat.le_of_ble_eq_true rfl)]
  rw [fill_step _ _ 9 _ (bRow R).toList _ 40 32 rfl (by rw [Array.toArray_toList]; rfl) (Tx.bRow_len R hR) (Nat.le_of_ble_eq_true rfl), fill_end]
  congr 1
  unfold Tx.arr Tx.cells
  congr 1
  have e : ∀ X : List Value, X ++ ((bRow R).toList ++ []) = X ++ (bRow R).toList := fun X => by rw [List.append_nil]
  exact e _

set_option maxRecDepth 20000 in
theorem plain_any (t : Tx) (ht : t.Ok) (hl : t.lane = false) (w : World) :
    Calls Tryd.prog 64 #[t.v] w fun e w' => e = .returned (.bool t.plain) ∧ w.grownBy w' Option.none := by
  obtain ⟨r, hr, hiff⟩ : ∃ r : Bool, (∀ W, (Op.equalIn 10000 25 (.agg t.cells.toArray) (.agg (Tx.arr ⟨t.frm, t.nonce, t.fee, t.to, t.data, false, 0, 0, Tx.zero, t.tag⟩))).run Tryd.prog W = .ok r W) ∧ (r = true ↔ t = ⟨t.frm, t.nonce, t.fee, t.to, t.data, false, 0, 0, Tx.zero, t.tag⟩) := by
    have hu : Tx.Ok ⟨t.frm, t.nonce, t.fee, t.to, t.data, false, 0, 0, Tx.zero, t.tag⟩ := ⟨rfl, ht.tag, ht.data, ht.frm, ht.nonce, ht.fee, ht.to, fits0, fits0⟩
    obtain ⟨r, _, h2⟩ := tx_eq w t _ ht hu
    refine ⟨r, fun W => ?_, h2⟩
    obtain ⟨r', h1', h2'⟩ := tx_eq W t _ ht hu
    have : r' = r := by rw [Bool.eq_iff_iff, h2', h2]
    rw [this] at h1'
    exact h1'
  have hrp : r = t.plain := by
    rw [Bool.eq_iff_iff, hiff]
    unfold Tx.plain
    obtain ⟨a1, a2, a3, a4, a5, a6, a7, a8, a9, a10⟩ := t
    simp only at hl
    subst hl
    simp
  rw [← hrp]
  have hbt := tx_five t.frm t.nonce t.fee t.to t.data t.tag ht.tag
  have hlen := Tx.cells_length ht
  have hrow := Row.new w 25 t.cells
  have hrng := tx_range hrow
  have hht := (tx_hash_at ht hrow).2
  have c0 := hrow.cell 0 (by omega)
  have c1 := hrow.cell 1 (by omega)
  have c2 := hrow.cell 2 (by omega)
  have c3 := hrow.cell 3 (by omega)
  have c4 := hrow.cell 4 (by omega)
  have c0' : (w.alloc (.cells t.cells.toArray 25)).cell? ⟨w.heap.size, 0, Option.none⟩ = some (.int .i64 t.frm) := c0
  have c1' : (w.alloc (.cells t.cells.toArray 25)).cell? ⟨w.heap.size, 1, Option.none⟩ = some (.int .i64 t.nonce) := c1
  have c2' : (w.alloc (.cells t.cells.toArray 25)).cell? ⟨w.heap.size, 2, Option.none⟩ = some (.int .i64 t.fee) := c2
  have c3' : (w.alloc (.cells t.cells.toArray 25)).cell? ⟨w.heap.size, 3, Option.none⟩ = some (.int .i64 t.to) := c3
  have c4' : (w.alloc (.cells t.cells.toArray 25)).cell? ⟨w.heap.size, 4, Option.none⟩ = some (.string t.data) := c4
  have Hbt := Lib.hid hbt
  have HE := Lib.hid ht
  have hC : t.v = .agg t.cells.toArray := rfl
  rw [hC]
  obtain ⟨C, hCe⟩ : ∃ C, C = t.cells := ⟨_, rfl⟩
  rw [← hCe] at hlen hrow hrng hht hr c0' c1' c2' c3' c4' ⊢
  clear c0 c1 c2 c3 c4
  have Hht := Lib.hid hht
  have Hrng := Lib.hid hrng
  have HL := Lib.hid hlen
  have Ht32 := Lib.hid (Tx.bRow_len _ ht.tag)
  clear hbt hiff hrp hlen hrow hrng hht hCe hC ht HE
  go_enter Tryd.func64, Tryd.ntmps64
  go_wp2_with (first
    | (with_reducible show wpList _ _ _ (⟨_, .load 25 _, _, _, _, _⟩ :: _) _ _; refine wpList_load_tx rfl 25 (.tmp 1) rfl w.heap.size 0 rfl C _ Hrng.out Tryd.underlying25 rfl (by rw [tx_info, HL.out]) ?_)
    | (with_reducible show wpList _ _ _ (⟨_, .load 23 _, _, _, _, _⟩ :: _) _ _; refine wpList_load_tx rfl 23 (.tmp 14) rfl w.heap.size 40 rfl (bRow t.tag).toList _ Hht.out Tryd.underlying23 rfl (by rw [hash_info, Ht32.out]) ?_)
    | (with_reducible show wpList _ _ _ (⟨_, .build 25 _, _, _, _, _⟩ :: _) _ _; refine wpList_buildL rfl 25 [(0, .tmp 5), (1, .tmp 7), (2, .tmp 9), (3, .tmp 11), (4, .tmp 13), (9, .tmp 15)] rfl (some 16) rfl _ rfl _ (by simpa [Act.eval, Act.put] using Hbt.out) ?_))
  go_ret
  exact ⟨rfl, grownBy_alloc _ _ _⟩
end Go.Proofs.YtdekcicgiflnbaaDoor
