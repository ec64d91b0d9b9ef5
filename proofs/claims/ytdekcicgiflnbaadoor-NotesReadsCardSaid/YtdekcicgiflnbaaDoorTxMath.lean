/- Transactions as plain data: which there may be, their bytes. -/
import Derived.Test.YtdekcicgiflnbaaDoorMShaB
namespace Go.Proofs.YtdekcicgiflnbaaDoor
open Go.RowKit
set_option linter.unusedVariables false
set_option linter.unusedSimpArgs false

structure Tx where
  frm : Int
  nonce : Int
  fee : Int
  to : Int
  data : ByteArray
  lane : Bool
  round : Int
  turn : Int
  bY : List UInt8
  tag : List UInt8
namespace Tx
def head (t : Tx) : List Value := [.int .i64 t.frm, .int .i64 t.nonce, .int .i64 t.fee, .int .i64 t.to, .string t.data, .bool t.lane, .int .i64 t.round, .int .i64 t.turn]
def cells (t : Tx) : List Value := t.head ++ ((bRow t.bY).toList ++ (bRow t.tag).toList)
def arr (t : Tx) : Array Value := t.cells.toArray
def v (t : Tx) : Value := .agg t.arr
def fits (n : Int) : Prop := -9223372036854775808 ≤ n ∧ n ≤ 9223372036854775807
structure Ok (t : Tx) : Prop where
  bY : t.bY.length = 32
  tag : t.tag.length = 32
  data : t.data.size ≤ 140737488351232
  frm : fits t.frm
  nonce : fits t.nonce
  fee : fits t.fee
  to : fits t.to
  round : fits t.round
  turn : fits t.turn
def zero : List UInt8 := List.replicate 32 0
def acct (n : Int) : Bool := decide (0 ≤ n) && decide (n ≤ 63)
def num (n : Int) : Bool := decide (0 ≤ n) && decide (n ≤ 1099511627776)
def plain (t : Tx) : Bool := decide (t.round = 0) && (decide (t.turn = 0) && decide (t.bY = zero))
/-- what is wrong with it -/
def err (t : Tx) : Int :=
  if acct t.frm = false ∨ acct t.to = false then 20
  else if num t.nonce = false ∨ num t.fee = false then 2
  else if (t.lane = true ∧ (num t.round = false ∨ num t.turn = false)) ∨ (t.lane = false ∧ t.plain = false) then 2
  else if 256 < t.data.size then 3 else 0
theorem bRow_len (R : List UInt8) (h : R.length = 32) : (bRow R).toList.length = 32 := by rw [Array.length_toList, bRow_size _ (by omega)]
theorem cells_length {t : Tx} (h : t.Ok) : t.cells.length = 72 := by
  unfold cells head
  simp only [List.length_append, bRow_len _ h.bY, bRow_len _ h.tag, List.length_cons, List.length_nil]
theorem arr_size {t : Tx} (h : t.Ok) : t.arr.size = 72 := by simp [arr, cells_length h]
theorem arr0 (t : Tx) : t.arr[0]? = some (.int .i64 t.frm) := rfl
theorem arr1 (t : Tx) : t.arr[1]? = some (.int .i64 t.nonce) := rfl
theorem arr2 (t : Tx) : t.arr[2]? = some (.int .i64 t.fee) := rfl
theorem arr3 (t : Tx) : t.arr[3]? = some (.int .i64 t.to) := rfl
theorem arr4 (t : Tx) : t.arr[4]? = some (.string t.data) := rfl
theorem arr5 (t : Tx) : t.arr[5]? = some (.bool t.lane) := rfl
theorem arr6 (t : Tx) : t.arr[6]? = some (.int .i64 t.round) := rfl
theorem arr7 (t : Tx) : t.arr[7]? = some (.int .i64 t.turn) := rfl
theorem cells_by {t : Tx} (h : t.Ok) : (t.cells.drop 8).take 32 = (bRow t.bY).toList := by
  show (((bRow t.bY).toList ++ (bRow t.tag).toList)).take 32 = _
  rw [List.take_append_of_le_length (by rw [bRow_len _ h.bY]; omega), List.take_of_length_le (by rw [bRow_len _ h.bY]; omega)]
theorem cells_tag {t : Tx} (h : t.Ok) : (t.cells.drop 40).take 32 = (bRow t.tag).toList := by
  have e : t.cells.drop 40 = ((bRow t.bY).toList ++ (bRow t.tag).toList).drop 32 := rfl
  rw [e, List.drop_left' (bRow_len _ h.bY), List.take_of_length_le (by rw [bRow_len _ h.tag]; omega)]
def hlits (R : List UInt8) : List Lit := R.map fun b => Lit.int .u8 (b.toNat : Int)
def lits (t : Tx) : List Lit := [.int .i64 t.frm, .int .i64 t.nonce, .int .i64 t.fee, .int .i64 t.to, .string t.data.data.toList, .bool t.lane, .int .i64 t.round, .int .i64 t.turn] ++ (hlits t.bY ++ hlits t.tag)
theorem hlits_inj {R Q : List UInt8} (h : hlits R = hlits Q) : R = Q := by
  refine List.map_inj_right (fun x y hxy => ?_) |>.1 h
  have : (x.toNat : Int) = (y.toNat : Int) := by injection hxy
  exact UInt8.toNat_inj.1 (by omega)
theorem lits_inj {t u : Tx} (ht : t.Ok) (hu : u.Ok) (h : t.lits = u.lits) : t = u := by
  obtain ⟨a1, a2, a3, a4, a5, a6, a7, a8, a9, a10⟩ := t
  obtain ⟨b1, b2, b3, b4, b5, b6, b7, b8, b9, b10⟩ := u
  have l1 : a9.length = 32 := ht.bY
  have l2 : b9.length = 32 := hu.bY
  simp only [lits, List.cons_append, List.nil_append, List.cons.injEq, Lit.int.injEq, Lit.string.injEq, Lit.bool.injEq, true_and] at h
  obtain ⟨rfl, rfl, rfl, rfl, h5, rfl, rfl, rfl, h9⟩ := h
  have h5' : a5 = b5 := by
    cases a5; cases b5
    congr 1
    exact Array.toList_inj.1 h5
  subst h5'
  obtain ⟨h9a, h9b⟩ := List.append_inj h9 (by simp [hlits, l1, l2])
  rw [hlits_inj h9a, hlits_inj h9b]
end Tx
theorem int_wf {n : Int} (h : Tx.fits n) : (Lit.int .i64 n).wf = true := by
  unfold Tx.fits at h
  simp [Lit.wf, IntKind.min, IntKind.max, IntKind.signed, IntKind.bits]
  omega
theorem lit_int (d : Nat) {n : Int} (h : Tx.fits n) : Tryd.prog.keyLits (d + 1) 3 [.int .i64 n] = some [.int .i64 n] := by
  unfold Program.keyLits
  simp only [Tryd.underlying3]
  rw [if_pos ⟨trivial, int_wf h⟩]
theorem lit_bool (d : Nat) (b : Bool) : Tryd.prog.keyLits (d + 1) 4 [.bool b] = some [.bool b] := by
  unfold Program.keyLits
  simp only [Tryd.underlying4]
theorem lit_str (d : Nat) (s : ByteArray) (h : s.size ≤ maxLen) : Tryd.prog.keyLits (d + 1) 9 [.string s] = some [.string s.data.toList] := by
  unfold Program.keyLits
  simp only [Tryd.underlying9]
  rw [if_pos h]
theorem tx_lits {t : Tx} (h : t.Ok) : Tryd.prog.keyLits 3 25 t.cells = some t.lits := by
  have hc : Tryd.prog.cellsOf 25 = 72 := by kernel_rfl
  have hI : Tryd.prog.cellsOf 3 = 1 := by kernel_rfl
  have hS : Tryd.prog.cellsOf 9 = 1 := by kernel_rfl
  have hB : Tryd.prog.cellsOf 4 = 1 := by kernel_rfl
  have hH : Tryd.prog.cellsOf 23 = 32 := by kernel_rfl
  have hm : t.data.size ≤ maxLen := by have := h.data; unfold maxLen; omega
  unfold Program.keyLits
  simp only [Tryd.underlying25]
  rw [if_pos ⟨by rw [hc, Tx.cells_length h], by kernel_rfl⟩]
  have e0 : Tryd.prog.keyLits 2 3 ((t.cells.drop 0).take (Tryd.prog.cellsOf 3)) = some [.int .i64 t.frm] := by rw [hI]; exact lit_int 1 h.frm
  have e1 : Tryd.prog.keyLits 2 3 ((t.cells.drop 1).take (Tryd.prog.cellsOf 3)) = some [.int .i64 t.nonce] := by rw [hI]; exact lit_int 1 h.nonce
  have e2 : Tryd.prog.keyLits 2 3 ((t.cells.drop 2).take (Tryd.prog.cellsOf 3)) = some [.int .i64 t.fee] := by rw [hI]; exact lit_int 1 h.fee
  have e3 : Tryd.prog.keyLits 2 3 ((t.cells.drop 3).take (Tryd.prog.cellsOf 3)) = some [.int .i64 t.to] := by rw [hI]; exact lit_int 1 h.to
  have e4 : Tryd.prog.keyLits 2 9 ((t.cells.drop 4).take (Tryd.prog.cellsOf 9)) = some [.string t.data.data.toList] := by rw [hS]; exact lit_str 1 _ hm
  have e5 : Tryd.prog.keyLits 2 4 ((t.cells.drop 5).take (Tryd.prog.cellsOf 4)) = some [.bool t.lane] := by rw [hB]; exact lit_bool 1 _
  have e6 : Tryd.prog.keyLits 2 3 ((t.cells.drop 6).take (Tryd.prog.cellsOf 3)) = some [.int .i64 t.round] := by rw [hI]; exact lit_int 1 h.round
  have e7 : Tryd.prog.keyLits 2 3 ((t.cells.drop 7).take (Tryd.prog.cellsOf 3)) = some [.int .i64 t.turn] := by rw [hI]; exact lit_int 1 h.turn
  have e8 : Tryd.prog.keyLits 2 23 ((t.cells.drop 8).take (Tryd.prog.cellsOf 23)) = some (Tx.hlits t.bY) := by rw [hH, Tx.cells_by h]; exact hash_lits _ h.bY
  have e9 : Tryd.prog.keyLits 2 23 ((t.cells.drop 40).take (Tryd.prog.cellsOf 23)) = some (Tx.hlits t.tag) := by rw [hH, Tx.cells_tag h]; exact hash_lits _ h.tag
  simp only [List.mapM_cons, List.mapM_nil, e0, e1, e2, e3, e4, e5, e6, e7, e8, e9, Option.bind_eq_bind, Option.bind_some, Option.pure_def, Option.map_some]
  simp [Tx.lits]
/-- two transactions: equal just where all is -/
theorem tx_eq (W : World) (t u : Tx) (ht : t.Ok) (hu : u.Ok) : ∃ r : Bool, (Op.equalIn 10000 25 t.v u.v).run Tryd.prog W = .ok r W ∧ (r = true ↔ t = u) := by
  have hk : Tryd.prog.keyTypeAt 3 25 = true := by kernel_rfl
  have hf : ∀ x : Tx, x.Ok → x.v.formed Tryd.prog 25 = true := by
    intro x hx
    have hc : Tryd.prog.cellsOf 25 = 72 := by kernel_rfl
    have hs := Tx.arr_size hx
    simp [Tx.v, Value.formed, Tryd.underlying25, hs, hc]
  obtain ⟨r, hr, hiff⟩ := run_equalIn_deep (P := Tryd.prog) 9997 3 25 hk W 3 3 t.v u.v _ _ (hf t ht) (hf u hu) (by show Tryd.prog.keyLits 3 _ t.arr.toList = _; exact tx_lits ht) (by show Tryd.prog.keyLits 3 _ u.arr.toList = _; exact tx_lits hu)
  exact ⟨r, hr, hiff.trans ⟨Tx.lits_inj ht hu, fun h => by rw [h]⟩⟩
end Go.Proofs.YtdekcicgiflnbaaDoor
