/- What later texts need of the earlier layers. -/
import Derived.Test.YtgdijbcoacgadaaDoorSlO
import Derived.Test.YtgdijbcoacgadaaDoorSlS
import Derived.Test.YtgdijbcoacgadaaDoorSlT
import Derived.Test.YtgdijbcoacgadaaDoorSlC
import Derived.Test.YtgdijbcoacgadaaDoorSlA
import Derived.Laws.ResultCell
import Derived.Laws.Tables
import Derived.BigQuiet
/- ---- NoItemR ---- -/
/- notes: ReadItem. -/
namespace Go.Proofs.YtgdijbcoacgadaaDoor
open Go.RowKit
set_option linter.unusedVariables false
set_option linter.unusedSimpArgs false

namespace It
theorem cells_len (i : It) : i.cells.length = 4 := rfl
theorem cells_one (i : It) : ∀ v ∈ i.cells, v.oneCell' = true := by
  intro v hv
  simp [cells] at hv
  rcases hv with rfl | rfl | rfl | rfl <;> rfl
end It
end Go.Proofs.YtgdijbcoacgadaaDoor

/- ---- NoB ---- -/
/- notes: bidMayBe, bidNumbers, WriteBid. -/
/- notes: SignBid, CheckBid. -/
/- notes: ReadBid. -/
namespace Go.Proofs.YtgdijbcoacgadaaDoor
open Go.RowKit
set_option linter.unusedVariables false
set_option linter.unusedSimpArgs false

namespace Bd
theorem cells_len {b : Bd} (h : b.tag.length = 32) : b.cells.length = 36 := by
  unfold cells
  simp only [List.length_append, Tx.bRow_len _ h, List.length_cons, List.length_nil]
theorem cells_one {b : Bd} (h : b.tag.length = 32) : ∀ v ∈ b.cells, v.oneCell' = true := by
  intro v hv
  unfold cells at hv
  rcases List.mem_append.1 hv with h1 | h1
  · simp at h1
    rcases h1 with rfl | rfl | rfl | rfl <;> rfl
  · exact hash_one _ h v h1
end Bd
end Go.Proofs.YtgdijbcoacgadaaDoor
namespace Go.Proofs.YtgdijbcoacgadaaDoor
open Go.RowKit
set_option linter.unusedVariables false
set_option linter.unusedSimpArgs false

namespace Bd
def pairV (x : Bd × Int) : Value := .tuple #[.agg x.1.cells.toArray, .int .i64 x.2]
end Bd
end Go.Proofs.YtgdijbcoacgadaaDoor
namespace Go.Proofs.YtgdijbcoacgadaaDoor
open Go.RowKit
set_option linter.unusedVariables false
set_option linter.unusedSimpArgs false

namespace Bd
end Bd
end Go.Proofs.YtgdijbcoacgadaaDoor

/- ---- NoF ---- -/
/- notes: batchMayBe. -/
/- notes: WriteBatch. -/
namespace Go.Proofs.YtgdijbcoacgadaaDoor
open Go.RowKit
set_option linter.unusedVariables false
set_option linter.unusedSimpArgs false

/-- parts in memory -/
def PartsAt (w : World) (B : Nat) (A : Option Addr) (P : List Pt) : Prop :=
  P ≠ [] → ∃ b off, A = some ⟨b, off, none⟩ ∧ b < B ∧ ∀ i (h : i < P.length), w.cell? ⟨b, off + i * 2, none⟩ = some (.bool (P[i]).1) ∧ w.cell? ⟨b, off + i * 2 + 1, none⟩ = some (S (P[i]).2)
theorem PartsAt.grown {w w' : World} {B : Nat} {A : Option Addr} {P : List Pt} {r : Option Nat} (h : PartsAt w B A P) (hg : w.grownBy w' r) (hr : ∀ k, r = some k → B ≤ k) : PartsAt w' B A P := fun hne => by
  obtain ⟨b, off, h1, h2, h3⟩ := h hne
  have hne : some b ≠ r := fun e => by have := hr b e.symm; omega
  exact ⟨b, off, h1, h2, fun i hi => ⟨hg.cell (h3 i hi).1 hne, hg.cell (h3 i hi).2 hne⟩⟩
theorem PartsAt.mono {w : World} {B B' : Nat} {A : Option Addr} {P : List Pt} (h : PartsAt w B A P) (hB : B ≤ B') : PartsAt w B' A P := fun hne => by
  obtain ⟨b, off, h1, h2, h3⟩ := h hne
  exact ⟨b, off, h1, by omega, h3⟩
/-- a batch's cells -/
def Bt.cells (b : Bt) (A : Option Addr) (cap : Nat) : List Value := [.int .i64 b.seq, .int .i64 b.first, .int .i64 b.before, .slice A b.parts.length cap]
end Go.Proofs.YtgdijbcoacgadaaDoor
namespace Go.Proofs.YtgdijbcoacgadaaDoor
open Go.RowKit
set_option linter.unusedVariables false
set_option linter.unusedSimpArgs false

end Go.Proofs.YtgdijbcoacgadaaDoor

/- ---- NoD ---- -/
/- The reference of layer 5: within, text, list, Item, WriteItem. -/
/- The reference of layer 5: bids. -/
namespace Go.Proofs.YtgdijbcoacgadaaDoor
open Go.RowKit
set_option linter.unusedVariables false
set_option linter.unusedSimpArgs false

theorem within5_any (n m : Int) (w : World) :
    Calls Tryd.prog 32 #[.int .i64 n, .int .i64 m] w fun e w' => e = .returned (.bool (decide (0 ≤ n) && decide (n ≤ m))) ∧ w = w' := by
  by_cases h : 0 ≤ n
  · have hd : decide (0 ≤ n) = true := by simpa using h
    have Hd := Lib.hid hd
    clear hd
    go_enter Tryd.func32, Tryd.ntmps32
    go_wp2
    go_ret
    exact ⟨by rw [Hd.out]; rfl, rfl⟩
  · have hd : decide (0 ≤ n) = false := by simpa using h
    have Hd := Lib.hid hd
    clear hd
    go_enter Tryd.func32, Tryd.ntmps32
    go_wp2
    go_ret
    exact ⟨by rw [Hd.out]; rfl, rfl⟩
theorem within5_b (n m : Int) (b : Bool) (h : (decide (0 ≤ n) && decide (n ≤ m)) = b) (w : World) :
    Calls Tryd.prog 32 #[.int .i64 n, .int .i64 m] w fun e w' => e = .returned (.bool b) ∧ w = w' := by
  have := within5_any n m w
  rw [h] at this
  exact this
theorem text5_any (n : Int) (w : World) (h0 : 0 ≤ n) (h1 : n ≤ 9223372036854775807) :
    Calls Tryd.prog 34 #[.int .i64 n] w fun e w' => e = .returned (S (Oct.num n.toNat)) ∧ Below w.heap.size w w' := by
  have RN : Hid (∀ W, Calls Tryd.prog 47 #[.int .i64 n] W fun e w' => e = .returned (.tuple #[S (Oct.num n.toNat), .int .i64 0]) ∧ Below W.heap.size W w') := fun W => by
    have := refNumber_any n W h1
    unfold Oct.numE at this
    rw [if_neg (by omega)] at this
    exact this
  go_enter Tryd.func34, Tryd.ntmps34
  go_wp2_with fail
  refine (RN.out _).mono ?_
  rintro _ w1 ⟨rfl, hb1⟩
  have Hb1 := Lib.hid hb1
  clear hb1
  go_wp2_with fail
  go_ret
  exact ⟨rfl, Hb1.out⟩
theorem list5_any (A : Option Addr) (c : Nat) (L : List (List UInt8)) (w : World) (hr : Texts w w.heap.size A L) :
    Calls Tryd.prog 33 #[.slice A L.length c] w fun e w' => e = .returned (.tuple #[S (Oct.listE L).1, .int .i64 (Oct.listE L).2]) ∧ Below w.heap.size w w' := by
  have RL : Hid (Calls Tryd.prog 46 #[.slice A L.length c] w fun e w' => e = .returned (.tuple #[S (Oct.listE L).1, .int .i64 (Oct.listE L).2]) ∧ Below w.heap.size w w') := refList_any A c L w hr
  generalize L.length = m at *
  clear hr
  go_enter Tryd.func33, Tryd.ntmps33
  go_wp2_with fail
  refine RL.out.mono ?_
  rintro _ w1 ⟨rfl, hb1⟩
  have Hb1 := Lib.hid hb1
  clear hb1
  go_wp2_with fail
  go_ret2
  exact ⟨rfl, Hb1.out⟩
theorem list5_row (L : List (List UInt8)) {W : World} {g : Nat} {xs : List Value} (h : Row W g 9 xs) (hx : xs = L.map S) (n c : Nat) (hn : n = L.length) :
    Calls Tryd.prog 33 #[.slice (some ⟨g, 0, none⟩) n c] W fun e w' => e = .returned (.tuple #[S (Oct.listE L).1, .int .i64 (Oct.listE L).2]) ∧ Below W.heap.size W w' := by
  subst hn hx
  refine list5_any _ c L W fun _ => ⟨g, 0, rfl, h.lt, fun i hi => ?_⟩
  rw [Nat.zero_add, h.cell i (by simpa using hi)]
  simp
end Go.Proofs.YtgdijbcoacgadaaDoor
namespace Go.Proofs.YtgdijbcoacgadaaDoor
open Go.RowKit
set_option linter.unusedVariables false
set_option linter.unusedSimpArgs false

namespace Bd
end Bd
end Go.Proofs.YtgdijbcoacgadaaDoor

/- ---- NoC ---- -/
/- notes: linked, receiptTexts, link, Link. -/
/- notes: Link, WriteReceipt. -/
/- notes: WriteReceipt. -/
namespace Go.Proofs.YtgdijbcoacgadaaDoor
open Go.RowKit
set_option linter.unusedVariables false
set_option linter.unusedSimpArgs false

theorem rp_info : (Tryd.prog.info? 30).map (·.size) = some 68 := by kernel_rfl
namespace Rp
theorem cells_len {r : Rp} (h : r.prev.length = 32) (h2 : r.hash.length = 32) : r.cells.length = 68 := by
  unfold cells
  simp only [List.length_append, Tx.bRow_len _ h, Tx.bRow_len _ h2, List.length_cons, List.length_nil]
theorem cells_one {r : Rp} (h : r.prev.length = 32) (h2 : r.hash.length = 32) : ∀ v ∈ r.cells, v.oneCell' = true := by
  intro v hv
  unfold cells at hv
  rcases List.mem_append.1 hv with h1 | h1
  · simp at h1
    rcases h1 with rfl | rfl | rfl | rfl <;> rfl
  · rcases List.mem_append.1 h1 with h3 | h3
    · exact hash_one _ h v h3
    · exact hash_one _ h2 v h3
theorem cells_prev {r : Rp} (h : r.prev.length = 32) : (r.cells.drop 4).take 32 = (bRow r.prev).toList := by
  show (((bRow r.prev).toList ++ (bRow r.hash).toList)).take 32 = _
  rw [List.take_append_of_le_length (by rw [Tx.bRow_len _ h]; omega), List.take_of_length_le (by rw [Tx.bRow_len _ h]; omega)]
theorem put_hash {r : Rp} (h : r.prev.length = 32) (h2 : r.hash.length = 32) (R : List UInt8) (hR : R.length = 32) : r.cells.take 36 ++ ((bRow R).toList ++ r.cells.drop (36 + (bRow R).toList.length)) = Rp.cells { r with hash := R } := by
  rw [List.drop_of_length_le (by rw [cells_len h h2, Tx.bRow_len R hR]; omega), List.append_nil]
  have e : r.cells.take 36 = [Value.int .i64 r.index, .int .i64 r.kind, .int .i64 r.time, .string r.body] ++ (bRow r.prev).toList := by
    unfold cells
    rw [List.take_append, List.take_of_length_le (by simp), show ([Value.int .i64 r.index, .int .i64 r.kind, .int .i64 r.time, .string r.body] : List Value).length = 4 from rfl, List.take_append_of_le_length (by rw [Tx.bRow_len _ h]; omega), List.take_of_length_le (by rw [Tx.bRow_len _ h]; omega)]
  rw [e, List.append_assoc]
  rfl
def pairV (x : Rp × Int) : Value := .tuple #[.agg x.1.cells.toArray, .int .i64 x.2]
end Rp
theorem Rp.zero_built0 : Tryd.prog.built 30 [] = some Rp.zero.cells.toArray := by kernel_rfl
theorem rp_box {W : World} {g : Nat} {T : TypeId} {r : Rp} (h : Row W g T r.cells) : W.cell? ⟨g, 0, none⟩ = some (.int .i64 r.index) ∧ W.cell? ⟨g, 1, none⟩ = some (.int .i64 r.kind) ∧ W.cell? ⟨g, 2, none⟩ = some (.int .i64 r.time) ∧ W.cell? ⟨g, 3, none⟩ = some (.string r.body) :=
  ⟨h.cell 0 (by simp [Rp.cells]), h.cell 1 (by simp [Rp.cells]), h.cell 2 (by simp [Rp.cells]), h.cell 3 (by simp [Rp.cells])⟩
theorem rp_prev {W : World} {g : Nat} {T : TypeId} {r : Rp} (hp : r.prev.length = 32) (h : Row W g T r.cells) : W.rangeAt g 4 (bRow r.prev).toList := by
  intro j v hv
  have hj : j < 32 := by have := (List.getElem?_eq_some_iff.1 hv).1; rw [Tx.bRow_len _ hp] at this; exact this
  have e : r.cells[4 + j]? = some v := by rw [← hv, ← Rp.cells_prev hp, List.getElem?_take_of_lt hj, List.getElem?_drop]
  obtain ⟨hlt, he⟩ := List.getElem?_eq_some_iff.1 e
  rw [h.cell _ hlt, he]
set_option maxRecDepth 20000 in
theorem linked_a0 (r : Rp) (w : World) (k1 : (r.kind == 1) = true) (h0 : Tx.num r.index = false) :
    Calls Tryd.prog 59 #[.agg r.cells.toArray] w fun e w' => e = .returned (.bool false) ∧ Below w.heap.size w w' := by
  obtain ⟨c0, c1, c2, c3⟩ := rp_box (Row.new w 30 r.cells)
  have N0 : Hid (∀ W, Calls Tryd.prog 73 #[.int .i64 r.index] W fun e w' => e = .returned (.bool false) ∧ W = w') := fun W => by have := nnumber_any r.index W; rw [h0] at this; exact this
  clear h0
  generalize r.cells = C at *
  go_enter Tryd.func59, Tryd.ntmps59
  go_wp2_with fail
  refine (N0.out _).mono ?_
  rintro _ w1 ⟨rfl, rfl⟩
  go_wp2_with fail
  go_ret
  exact ⟨by first | rfl | (simp; done) | (simp; omega), (Below.refl w.heap.size w).alloc (Nat.le_refl _) _⟩
set_option maxRecDepth 20000 in
theorem linked_a1 (r : Rp) (w : World) (k1 : (r.kind == 1) = true) (h0 : Tx.num r.index = true) (h1 : Tx.num r.time = false) :
    Calls Tryd.prog 59 #[.agg r.cells.toArray] w fun e w' => e = .returned (.bool false) ∧ Below w.heap.size w w' := by
  obtain ⟨c0, c1, c2, c3⟩ := rp_box (Row.new w 30 r.cells)
  have N0 : Hid (∀ W, Calls Tryd.prog 73 #[.int .i64 r.index] W fun e w' => e = .returned (.bool true) ∧ W = w') := fun W => by have := nnumber_any r.index W; rw [h0] at this; exact this
  have N1 : Hid (∀ W, Calls Tryd.prog 73 #[.int .i64 r.time] W fun e w' => e = .returned (.bool false) ∧ W = w') := fun W => by have := nnumber_any r.time W; rw [h1] at this; exact this
  clear h0 h1
  generalize r.cells = C at *
  go_enter Tryd.func59, Tryd.ntmps59
  go_wp2_with fail
  refine (N0.out _).mono ?_
  rintro _ w1 ⟨rfl, rfl⟩
  go_wp2_with fail
  refine (N1.out _).mono ?_
  rintro _ w1 ⟨rfl, rfl⟩
  go_wp2_with fail
  go_ret
  exact ⟨by first | rfl | (simp; done) | (simp; omega), (Below.refl w.heap.size w).alloc (Nat.le_refl _) _⟩
set_option maxRecDepth 20000 in
theorem linked_a2 (r : Rp) (w : World) (k1 : (r.kind == 1) = true) (h0 : Tx.num r.index = true) (h1 : Tx.num r.time = true) (h2 : ¬ (r.body.size : Int) ≤ 656) :
    Calls Tryd.prog 59 #[.agg r.cells.toArray] w fun e w' => e = .returned (.bool false) ∧ Below w.heap.size w w' := by
  obtain ⟨c0, c1, c2, c3⟩ := rp_box (Row.new w 30 r.cells)
  have N0 : Hid (∀ W, Calls Tryd.prog 73 #[.int .i64 r.index] W fun e w' => e = .returned (.bool true) ∧ W = w') := fun W => by have := nnumber_any r.index W; rw [h0] at this; exact this
  have N1 : Hid (∀ W, Calls Tryd.prog 73 #[.int .i64 r.time] W fun e w' => e = .returned (.bool true) ∧ W = w') := fun W => by have := nnumber_any r.time W; rw [h1] at this; exact this
  clear h0 h1
  generalize r.cells = C at *
  go_enter Tryd.func59, Tryd.ntmps59
  go_wp2_with fail
  refine (N0.out _).mono ?_
  rintro _ w1 ⟨rfl, rfl⟩
  go_wp2_with fail
  refine (N1.out _).mono ?_
  rintro _ w1 ⟨rfl, rfl⟩
  go_wp2_with fail
  go_ret
  exact ⟨by first | rfl | (simp; done) | (simp; omega), (Below.refl w.heap.size w).alloc (Nat.le_refl _) _⟩
set_option maxRecDepth 20000 in
theorem linked_a3 (r : Rp) (w : World) (k1 : (r.kind == 1) = true) (h0 : Tx.num r.index = true) (h1 : Tx.num r.time = true) (h2 : (r.body.size : Int) ≤ 656) :
    Calls Tryd.prog 59 #[.agg r.cells.toArray] w fun e w' => e = .returned (.bool true) ∧ Below w.heap.size w w' := by
  obtain ⟨c0, c1, c2, c3⟩ := rp_box (Row.new w 30 r.cells)
  have N0 : Hid (∀ W, Calls Tryd.prog 73 #[.int .i64 r.index] W fun e w' => e = .returned (.bool true) ∧ W = w') := fun W => by have := nnumber_any r.index W; rw [h0] at this; exact this
  have N1 : Hid (∀ W, Calls Tryd.prog 73 #[.int .i64 r.time] W fun e w' => e = .returned (.bool true) ∧ W = w') := fun W => by have := nnumber_any r.time W; rw [h1] at this; exact this
  clear h0 h1
  generalize r.cells = C at *
  go_enter Tryd.func59, Tryd.ntmps59
  go_wp2_with fail
  refine (N0.out _).mono ?_
  rintro _ w1 ⟨rfl, rfl⟩
  go_wp2_with fail
  refine (N1.out _).mono ?_
  rintro _ w1 ⟨rfl, rfl⟩
  go_wp2_with fail
  go_ret
  exact ⟨by first | rfl | (simp; done) | (simp; omega), (Below.refl w.heap.size w).alloc (Nat.le_refl _) _⟩
set_option maxRecDepth 20000 in
theorem linked_b0 (r : Rp) (w : World) (k1 : (r.kind == 1) = false) (k2 : (r.kind == 2) = true) (h0 : Tx.num r.index = false) :
    Calls Tryd.prog 59 #[.agg r.cells.toArray] w fun e w' => e = .returned (.bool false) ∧ Below w.heap.size w w' := by
  obtain ⟨c0, c1, c2, c3⟩ := rp_box (Row.new w 30 r.cells)
  have N0 : Hid (∀ W, Calls Tryd.prog 73 #[.int .i64 r.index] W fun e w' => e = .returned (.bool false) ∧ W = w') := fun W => by have := nnumber_any r.index W; rw [h0] at this; exact this
  clear h0
  generalize r.cells = C at *
  go_enter Tryd.func59, Tryd.ntmps59
  go_wp2_with fail
  refine (N0.out _).mono ?_
  rintro _ w1 ⟨rfl, rfl⟩
  go_wp2_with fail
  go_ret
  exact ⟨by first | rfl | (simp; done) | (simp; omega), (Below.refl w.heap.size w).alloc (Nat.le_refl _) _⟩
set_option maxRecDepth 20000 in
theorem linked_b1 (r : Rp) (w : World) (k1 : (r.kind == 1) = false) (k2 : (r.kind == 2) = true) (h0 : Tx.num r.index = true) (h1 : Tx.num r.time = false) :
    Calls Tryd.prog 59 #[.agg r.cells.toArray] w fun e w' => e = .returned (.bool false) ∧ Below w.heap.size w w' := by
  obtain ⟨c0, c1, c2, c3⟩ := rp_box (Row.new w 30 r.cells)
  have N0 : Hid (∀ W, Calls Tryd.prog 73 #[.int .i64 r.index] W fun e w' => e = .returned (.bool true) ∧ W = w') := fun W => by have := nnumber_any r.index W; rw [h0] at this; exact this
  have N1 : Hid (∀ W, Calls Tryd.prog 73 #[.int .i64 r.time] W fun e w' => e = .returned (.bool false) ∧ W = w') := fun W => by have := nnumber_any r.time W; rw [h1] at this; exact this
  clear h0 h1
  generalize r.cells = C at *
  go_enter Tryd.func59, Tryd.ntmps59
  go_wp2_with fail
  refine (N0.out _).mono ?_
  rintro _ w1 ⟨rfl, rfl⟩
  go_wp2_with fail
  refine (N1.out _).mono ?_
  rintro _ w1 ⟨rfl, rfl⟩
  go_wp2_with fail
  go_ret
  exact ⟨by first | rfl | (simp; done) | (simp; omega), (Below.refl w.heap.size w).alloc (Nat.le_refl _) _⟩
set_option maxRecDepth 20000 in
theorem linked_b2 (r : Rp) (w : World) (k1 : (r.kind == 1) = false) (k2 : (r.kind == 2) = true) (h0 : Tx.num r.index = true) (h1 : Tx.num r.time = true) (h2 : ¬ (r.body.size : Int) ≤ 656) :
    Calls Tryd.prog 59 #[.agg r.cells.toArray] w fun e w' => e = .returned (.bool false) ∧ Below w.heap.size w w' := by
  obtain ⟨c0, c1, c2, c3⟩ := rp_box (Row.new w 30 r.cells)
  have N0 : Hid (∀ W, Calls Tryd.prog 73 #[.int .i64 r.index] W fun e w' => e = .returned (.bool true) ∧ W = w') := fun W => by have := nnumber_any r.index W; rw [h0] at this; exact this
  have N1 : Hid (∀ W, Calls Tryd.prog 73 #[.int .i64 r.time] W fun e w' => e = .returned (.bool true) ∧ W = w') := fun W => by have := nnumber_any r.time W; rw [h1] at this; exact this
  clear h0 h1
  generalize r.cells = C at *
  go_enter Tryd.func59, Tryd.ntmps59
  go_wp2_with fail
  refine (N0.out _).mono ?_
  rintro _ w1 ⟨rfl, rfl⟩
  go_wp2_with fail
  refine (N1.out _).mono ?_
  rintro _ w1 ⟨rfl, rfl⟩
  go_wp2_with fail
  go_ret
  exact ⟨by first | rfl | (simp; done) | (simp; omega), (Below.refl w.heap.size w).alloc (Nat.le_refl _) _⟩
set_option maxRecDepth 20000 in
theorem linked_b3 (r : Rp) (w : World) (k1 : (r.kind == 1) = false) (k2 : (r.kind == 2) = true) (h0 : Tx.num r.index = true) (h1 : Tx.num r.time = true) (h2 : (r.body.size : Int) ≤ 656) :
    Calls Tryd.prog 59 #[.agg r.cells.toArray] w fun e w' => e = .returned (.bool true) ∧ Below w.heap.size w w' := by
  obtain ⟨c0, c1, c2, c3⟩ := rp_box (Row.new w 30 r.cells)
  have N0 : Hid (∀ W, Calls Tryd.prog 73 #[.int .i64 r.index] W fun e w' => e = .returned (.bool true) ∧ W = w') := fun W => by have := nnumber_any r.index W; rw [h0] at this; exact this
  have N1 : Hid (∀ W, Calls Tryd.prog 73 #[.int .i64 r.time] W fun e w' => e = .returned (.bool true) ∧ W = w') := fun W => by have := nnumber_any r.time W; rw [h1] at this; exact this
  clear h0 h1
  generalize r.cells = C at *
  go_enter Tryd.func59, Tryd.ntmps59
  go_wp2_with fail
  refine (N0.out _).mono ?_
  rintro _ w1 ⟨rfl, rfl⟩
  go_wp2_with fail
  refine (N1.out _).mono ?_
  rintro _ w1 ⟨rfl, rfl⟩
  go_wp2_with fail
  go_ret
  exact ⟨by first | rfl | (simp; done) | (simp; omega), (Below.refl w.heap.size w).alloc (Nat.le_refl _) _⟩
set_option maxRecDepth 20000 in
theorem linked_c (r : Rp) (w : World) (k1 : (r.kind == 1) = false) (k2 : (r.kind == 2) = false) :
    Calls Tryd.prog 59 #[.agg r.cells.toArray] w fun e w' => e = .returned (.bool false) ∧ Below w.heap.size w w' := by
  obtain ⟨c0, c1, c2, c3⟩ := rp_box (Row.new w 30 r.cells)
  generalize r.cells = C at *
  go_enter Tryd.func59, Tryd.ntmps59
  go_wp2_with fail
  go_ret
  exact ⟨by first | rfl | (simp; done) | (simp; omega), (Below.refl w.heap.size w).alloc (Nat.le_refl _) _⟩
theorem linked_any (r : Rp) (w : World) :
    Calls Tryd.prog 59 #[.agg r.cells.toArray] w fun e w' => e = .returned (.bool r.ok) ∧ Below w.heap.size w w' := by
  unfold Rp.ok
  rcases Bool.eq_false_or_eq_true (r.kind == 1) with k1 | k1
  · rcases Bool.eq_false_or_eq_true (Tx.num r.index) with h0 | h0
    · rcases Bool.eq_false_or_eq_true (Tx.num r.time) with h1 | h1
      · by_cases h2 : (r.body.size : Int) ≤ 656
        · rw [k1, h0, h1, decide_eq_true h2]; exact linked_a3 r w k1 h0 h1 h2
        · rw [k1, h0, h1, decide_eq_false h2]; exact linked_a2 r w k1 h0 h1 h2
      · rw [k1, h0, h1]; exact linked_a1 r w k1 h0 h1
    · rw [k1, h0]; exact linked_a0 r w k1 h0
  · rcases Bool.eq_false_or_eq_true (r.kind == 2) with k2 | k2
    · rcases Bool.eq_false_or_eq_true (Tx.num r.index) with h0 | h0
      · rcases Bool.eq_false_or_eq_true (Tx.num r.time) with h1 | h1
        · by_cases h2 : (r.body.size : Int) ≤ 656
          · rw [k1, k2, h0, h1, decide_eq_true h2]; exact linked_b3 r w k1 k2 h0 h1 h2
          · rw [k1, k2, h0, h1, decide_eq_false h2]; exact linked_b2 r w k1 k2 h0 h1 h2
        · rw [k1, k2, h0, h1]; exact linked_b1 r w k1 k2 h0 h1
      · rw [k1, k2, h0]; exact linked_b0 r w k1 k2 h0
    · rw [k1, k2]; exact linked_c r w k1 k2
set_option maxRecDepth 20000 in
set_option maxHeartbeats 1600000 in
theorem receiptTexts_any (r : Rp) (w : World) (h : r.ok = true) :
    Calls Tryd.prog 75 #[.agg r.cells.toArray] w fun e w' => ∃ v, e = .returned v ∧ w'.ownsRow w.heap.size 9 1 v 4 (r.texts.map S) ∧ Below w.heap.size w w' := by
  obtain ⟨i0, hi, hz, hs, hby⟩ := str5
  have Hi := Lib.hid hi
  have Hz := Lib.hid hz
  have Hs := Lib.hid hs
  have Hby := Lib.hid hby
  have hB := Rp.ok_nums h
  have NB : Hid (∀ (W : World) (nb : Nat), Row W nb 3 (Is r.numsL) → Calls Tryd.prog 87 #[.slice (some ⟨nb, 0, none⟩) 3 3] W fun e w' => ∃ v, e = .returned v ∧ w'.ownsRow W.heap.size 9 1 v 3 ((r.numsL.map fun x => Oct.num x.toNat).map S) ∧ Below W.heap.size W w') := fun W nb hN =>
    numbers_any r.numsL 3 hB W nb hN (by simp [Rp.numsL])
  have BX : Hid (∀ (W : World) (g : Nat) (T : TypeId), Row W g T r.cells → W.cell? ⟨g, 0, none⟩ = some (.int .i64 r.index) ∧ W.cell? ⟨g, 1, none⟩ = some (.int .i64 r.kind) ∧ W.cell? ⟨g, 2, none⟩ = some (.int .i64 r.time) ∧ W.cell? ⟨g, 3, none⟩ = some (.string r.body)) := fun W g T h => rp_box h
  have hff : (r.numsL.map fun x => Oct.num x.toNat).map S ++ [Value.string r.body] = r.texts.map S := by unfold Rp.texts; rw [List.map_append]; rfl
  have Hff := Lib.hid hff
  have hS0 : RowIn w (w.alloc (.cells r.cells.toArray 30)).drew w.heap.size 30 r.cells := (rowIn_call (Below.refl _ _)).drew
  have HS0 := Lib.hid hS0
  have hnl : Is r.numsL = Is [r.index, r.kind, r.time] := rfl
  rw [hnl] at NB
  generalize (r.numsL.map fun x => Oct.num x.toNat).map S = NS at *
  generalize r.texts.map S = L at *
  generalize r.cells = C at *
  generalize r.index = kd at *
  generalize r.kind = who at *
  generalize r.time = n at *
  generalize r.body = tx at *
  clear hi hz hs hby h hff hS0 hB hnl
  go_enter Tryd.func75, Tryd.ntmps75
  go_wp2_with fail
  refine wp_region_held_drew (S := fun w' => RowIn w w' w.heap.size 30 C) (by kernel_rfl) (HS0.out) (fun hHeld => ?_)
  generalize (w.alloc (.cells C.toArray 30)).drew = w9 at *
  refine wpAnyH_take (i := 0) (v := .pointer (some ⟨w.heap.size, 0, none⟩)) rfl (by kernel_rfl) (by kernel_rfl) (by kernel_rfl) (fun _ _ _ h => h) (Or.inl ⟨by rfl, fun w' hSw => by go_simp⟩) hHeld ?_
  try simp only [Act.put, List.getElem_toArray, List.getElem_cons_succ, List.getElem_cons_zero, List.setIfInBounds_toArray, List.set_cons_zero, List.set_cons_succ]
  refine wpAnyH_take (i := 1) (v := .int .i64 kd) rfl (by kernel_rfl) (by kernel_rfl) (by kernel_rfl) (fun _ _ _ h => h) (Or.inl ⟨by rfl, fun w' hSw => by have hq := hSw; have hc := (BX.out _ _ _ hq.1).1; go_simp⟩) hHeld ?_
  try simp only [Act.put, List.getElem_toArray, List.getElem_cons_succ, List.getElem_cons_zero, List.setIfInBounds_toArray, List.set_cons_zero, List.set_cons_succ]
  refine wpAnyH_take (i := 2) (v := .pointer (some ⟨w.heap.size, 1, none⟩)) rfl (by kernel_rfl) (by kernel_rfl) (by kernel_rfl) (fun _ _ _ h => h) (Or.inl ⟨by rfl, fun w' hSw => by go_simp⟩) hHeld ?_
  try simp only [Act.put, List.getElem_toArray, List.getElem_cons_succ, List.getElem_cons_zero, List.setIfInBounds_toArray, List.set_cons_zero, List.set_cons_succ]
  refine wpAnyH_take (i := 3) (v := .int .i64 who) rfl (by kernel_rfl) (by kernel_rfl) (by kernel_rfl) (fun _ _ _ h => h) (Or.inl ⟨by rfl, fun w' hSw => by have hq := hSw; have hc := (BX.out _ _ _ hq.1).2.1; go_simp⟩) hHeld ?_
  try simp only [Act.put, List.getElem_toArray, List.getElem_cons_succ, List.getElem_cons_zero, List.setIfInBounds_toArray, List.set_cons_zero, List.set_cons_succ]
  refine wpAnyH_take (i := 4) (v := .pointer (some ⟨w.heap.size, 2, none⟩)) rfl (by kernel_rfl) (by kernel_rfl) (by kernel_rfl) (fun _ _ _ h => h) (Or.inl ⟨by rfl, fun w' hSw => by go_simp⟩) hHeld ?_
  try simp only [Act.put, List.getElem_toArray, List.getElem_cons_succ, List.getElem_cons_zero, List.setIfInBounds_toArray, List.set_cons_zero, List.set_cons_succ]
  refine wpAnyH_take (i := 5) (v := .int .i64 n) rfl (by kernel_rfl) (by kernel_rfl) (by kernel_rfl) (fun _ _ _ h => h) (Or.inl ⟨by rfl, fun w' hSw => by have hq := hSw; have hc := (BX.out _ _ _ hq.1).2.2.1; go_simp⟩) hHeld ?_
  try simp only [Act.put, List.getElem_toArray, List.getElem_cons_succ, List.getElem_cons_zero, List.setIfInBounds_toArray, List.set_cons_zero, List.set_cons_succ]
  refine wpAnyH_take (i := 8) (v := .pointer (some ⟨w.heap.size, 3, none⟩)) rfl (by kernel_rfl) (by kernel_rfl) (by kernel_rfl) (fun _ _ _ h => h) (Or.inl ⟨by rfl, fun w' hSw => by go_simp⟩) hHeld ?_
  try simp only [Act.put, List.getElem_toArray, List.getElem_cons_succ, List.getElem_cons_zero, List.setIfInBounds_toArray, List.set_cons_zero, List.set_cons_succ]
  refine wpAnyH_take (i := 9) (v := .string tx) rfl (by kernel_rfl) (by kernel_rfl) (by kernel_rfl) (fun _ _ _ h => h) (Or.inl ⟨by rfl, fun w' hSw => by have hq := hSw; have hc := (BX.out _ _ _ hq.1).2.2.2; go_simp⟩) hHeld ?_
  try simp only [Act.put, List.getElem_toArray, List.getElem_cons_succ, List.getElem_cons_zero, List.setIfInBounds_toArray, List.set_cons_zero, List.set_cons_succ]
  refine wpAnyH_ready (rs := [6, 10]) (by kernel_rfl) (by simp) (AllReadyH.cons rfl (fun K1 hK1 => ?_) (AllReadyH.cons rfl (fun K1 hK1 => ?_) AllReadyH.nil))
  · skip
    try simp only [Act.put, List.getElem_toArray, List.getElem_cons_succ, List.getElem_cons_zero, List.setIfInBounds_toArray, List.set_cons_zero, List.set_cons_succ]
    go_simp
    have hd2 := (Below.refl w9.heap.size w9).alloc (Nat.le_refl _) (.cells #[.int .i64 kd, .int .i64 who, .int .i64 n] 3)
    have r1 : Row (w9.alloc (.cells #[.int .i64 kd, .int .i64 who, .int .i64 n] 3)) w9.heap.size 3 (Is [kd, who, n]) := Row.new w9 3 (Is [kd, who, n])
    have hHeld2 := hHeld.step hd2
    generalize w9.alloc (.cells #[.int .i64 kd, .int .i64 who, .int .i64 n] 3) = wb1 at *
    obtain ⟨gb3, gb3e⟩ : ∃ gb3, gb3 = w9.heap.size := ⟨_, rfl⟩
    rw [← gb3e] at r1 ⊢
    refine hK1.out _ _ (hHeld2) (fun hHeld => ?_)
    clear hK1 K1
    try simp only [Act.put, List.getElem_toArray, List.getElem_cons_succ, List.getElem_cons_zero, List.setIfInBounds_toArray, List.set_cons_zero, List.set_cons_succ]
    clear hHeld2 gb3e
    refine wpAnyH_ready (rs := [7, 10]) (by kernel_rfl) (by simp) (AllReadyH.cons rfl (fun K1 hK1 => ?_) (AllReadyH.cons rfl (fun K1 hK1 => ?_) AllReadyH.nil))
    · skip
      try simp only [Act.put, List.getElem_toArray, List.getElem_cons_succ, List.getElem_cons_zero, List.setIfInBounds_toArray, List.set_cons_zero, List.set_cons_succ]
      go_simp
      refine Calls.mono (NB.out _ _ r1) ?_
      rintro e wn4 ⟨vN, rfl, hown, hn5⟩
      have hown := hown.mono hHeld.size
      clear r1
      refine hK1.out _ _ (hHeld.step hn5) (fun hHeld => ?_)
      clear hK1 K1
      try simp only [Act.put, List.getElem_toArray, List.getElem_cons_succ, List.getElem_cons_zero, List.setIfInBounds_toArray, List.set_cons_zero, List.set_cons_succ]
      refine wpAnyH_ready (rs := [10]) (by kernel_rfl) (by simp) (AllReadyH.cons rfl (fun K1 hK1 => ?_) AllReadyH.nil)
      try simp only [Act.put, List.getElem_toArray, List.getElem_cons_succ, List.getElem_cons_zero, List.setIfInBounds_toArray, List.set_cons_zero, List.set_cons_succ]
      go_simp
      have hd7 := (Below.refl wn4.heap.size wn4).alloc (Nat.le_refl _) (.cells #[.string tx] 9)
      have r2 : Row (wn4.alloc (.cells #[.string tx] 9)) wn4.heap.size 9 ([.string tx]) := Row.new wn4 9 ([.string tx])
      have hown := own_below hown hd7
      have hHeld2 := hHeld.step hd7
      generalize wn4.alloc (.cells #[.string tx] 9) = wb6 at *
      obtain ⟨gb8, gb8e⟩ : ∃ gb8, gb8 = wn4.heap.size := ⟨_, rfl⟩
      rw [← gb8e] at r2 ⊢
      refine hK1.out _ _ (hHeld2) (fun hHeld => ?_)
      clear hK1 K1
      try simp only [Act.put, List.getElem_toArray, List.getElem_cons_succ, List.getElem_cons_zero, List.setIfInBounds_toArray, List.set_cons_zero, List.set_cons_succ]
      clear hHeld2 gb8e
      refine wpAnyH_ready (rs := [11]) (by kernel_rfl) (by simp) (AllReadyH.cons rfl (fun K1 hK1 => ?_) AllReadyH.nil)
      try simp only [Act.put, List.getElem_toArray, List.getElem_cons_succ, List.getElem_cons_zero, List.setIfInBounds_toArray, List.set_cons_zero, List.set_cons_succ]
      rw [if_pos (by rfl)]
      refine wp_append_own_wide wb6 _ _ 72 rfl w.heap.size 9 i0 (.string ByteArray.empty) 1 16 Tryd.underlying72 Hi.out Hz.out Hs.out Hby.out rfl (by decide) vN 3 NS rfl hown ⟨gb8, 0, none⟩ 1 1 [.string tx] rfl rfl (row_news r2) (by intro u hu; simp at hu; first | (subst hu; rfl) | (rcases hu with rfl | rfl <;> rfl)) (by unfold maxLen; omega) (by omega) hHeld.size fun vP wp9 hownP hgrow _ => ?_
      have hHeld2 := own_keeps hHeld (by decide) hown (Nat.le_refl _) hgrow
      have hownP := Lib.hid hownP
      clear hown r2 hgrow
      refine hK1.out _ _ (hHeld2) (fun hHeld => ?_)
      clear hK1 K1
      try simp only [Act.put, List.getElem_toArray, List.getElem_cons_succ, List.getElem_cons_zero, List.setIfInBounds_toArray, List.set_cons_zero, List.set_cons_succ]
      refine wpAnyH_take (i := 12) (v := vP) rfl (by kernel_rfl) (by kernel_rfl) (by kernel_rfl) (fun _ _ _ h => h) (Or.inl ⟨by rfl, fun w' hSw => by go_simp⟩) hHeld ?_
      try simp only [Act.put, List.getElem_toArray, List.getElem_cons_succ, List.getElem_cons_zero, List.setIfInBounds_toArray, List.set_cons_zero, List.set_cons_succ]
      refine wpAnyH_done (by kernel_rfl) ?_ _
      have Hbe := Lib.hid hHeld.2
      clear hHeld
      go_wp2_with fail
      go_ret
      exact ⟨vP, rfl, by rw [← Hff.out]; exact hownP.out, Hbe.out⟩
    · skip
      try simp only [Act.put, List.getElem_toArray, List.getElem_cons_succ, List.getElem_cons_zero, List.setIfInBounds_toArray, List.set_cons_zero, List.set_cons_succ]
      go_simp
      have hd11 := (Below.refl wb1.heap.size wb1).alloc (Nat.le_refl _) (.cells #[.string tx] 9)
      have r2 : Row (wb1.alloc (.cells #[.string tx] 9)) wb1.heap.size 9 ([.string tx]) := Row.new wb1 9 ([.string tx])
      have r1 := r1.kept (grownBy_of_below hd11 none) (by simp)
      have hHeld2 := hHeld.step hd11
      generalize wb1.alloc (.cells #[.string tx] 9) = wb10 at *
      obtain ⟨gb12, gb12e⟩ : ∃ gb12, gb12 = wb1.heap.size := ⟨_, rfl⟩
      rw [← gb12e] at r2 ⊢
      refine hK1.out _ _ (hHeld2) (fun hHeld => ?_)
      clear hK1 K1
      try simp only [Act.put, List.getElem_toArray, List.getElem_cons_succ, List.getElem_cons_zero, List.setIfInBounds_toArray, List.set_cons_zero, List.set_cons_succ]
      clear hHeld2 gb12e
      refine wpAnyH_ready (rs := [7]) (by kernel_rfl) (by simp) (AllReadyH.cons rfl (fun K1 hK1 => ?_) AllReadyH.nil)
      try simp only [Act.put, List.getElem_toArray, List.getElem_cons_succ, List.getElem_cons_zero, List.setIfInBounds_toArray, List.set_cons_zero, List.set_cons_succ]
      go_simp
      refine Calls.mono (NB.out _ _ r1) ?_
      rintro e wn13 ⟨vN, rfl, hown, hn14⟩
      have hown := hown.mono hHeld.size
      clear r1
      have r2 := r2.kept (grownBy_of_below hn14 none) (by simp)
      refine hK1.out _ _ (hHeld.step hn14) (fun hHeld => ?_)
      clear hK1 K1
      try simp only [Act.put, List.getElem_toArray, List.getElem_cons_succ, List.getElem_cons_zero, List.setIfInBounds_toArray, List.set_cons_zero, List.set_cons_succ]
      refine wpAnyH_ready (rs := [11]) (by kernel_rfl) (by simp) (AllReadyH.cons rfl (fun K1 hK1 => ?_) AllReadyH.nil)
      try simp only [Act.put, List.getElem_toArray, List.getElem_cons_succ, List.getElem_cons_zero, List.setIfInBounds_toArray, List.set_cons_zero, List.set_cons_succ]
      rw [if_pos (by rfl)]
      refine wp_append_own_wide wn13 _ _ 72 rfl w.heap.size 9 i0 (.string ByteArray.empty) 1 16 Tryd.underlying72 Hi.out Hz.out Hs.out Hby.out rfl (by decide) vN 3 NS rfl hown ⟨gb12, 0, none⟩ 1 1 [.string tx] rfl rfl (row_news r2) (by intro u hu; simp at hu; first | (subst hu; rfl) | (rcases hu with rfl | rfl <;> rfl)) (by unfold maxLen; omega) (by omega) hHeld.size fun vP wp15 hownP hgrow _ => ?_
      have hHeld2 := own_keeps hHeld (by decide) hown (Nat.le_refl _) hgrow
      have hownP := Lib.hid hownP
      clear hown r2 hgrow
      refine hK1.out _ _ (hHeld2) (fun hHeld => ?_)
      clear hK1 K1
      try simp only [Act.put, List.getElem_toArray, List.getElem_cons_succ, List.getElem_cons_zero, List.setIfInBounds_toArray, List.set_cons_zero, List.set_cons_succ]
      refine wpAnyH_take (i := 12) (v := vP) rfl (by kernel_rfl) (by kernel_rfl) (by kernel_rfl) (fun _ _ _ h => h) (Or.inl ⟨by rfl, fun w' hSw => by go_simp⟩) hHeld ?_
      try simp only [Act.put, List.getElem_toArray, List.getElem_cons_succ, List.getElem_cons_zero, List.setIfInBounds_toArray, List.set_cons_zero, List.set_cons_succ]
      refine wpAnyH_done (by kernel_rfl) ?_ _
      have Hbe := Lib.hid hHeld.2
      clear hHeld
      go_wp2_with fail
      go_ret
      exact ⟨vP, rfl, by rw [← Hff.out]; exact hownP.out, Hbe.out⟩
  · skip
    try simp only [Act.put, List.getElem_toArray, List.getElem_cons_succ, List.getElem_cons_zero, List.setIfInBounds_toArray, List.set_cons_zero, List.set_cons_succ]
    go_simp
    have hd17 := (Below.refl w9.heap.size w9).alloc (Nat.le_refl _) (.cells #[.string tx] 9)
    have r2 : Row (w9.alloc (.cells #[.string tx] 9)) w9.heap.size 9 ([.string tx]) := Row.new w9 9 ([.string tx])
    have hHeld2 := hHeld.step hd17
    generalize w9.alloc (.cells #[.string tx] 9) = wb16 at *
    obtain ⟨gb18, gb18e⟩ : ∃ gb18, gb18 = w9.heap.size := ⟨_, rfl⟩
    rw [← gb18e] at r2 ⊢
    refine hK1.out _ _ (hHeld2) (fun hHeld => ?_)
    clear hK1 K1
    try simp only [Act.put, List.getElem_toArray, List.getElem_cons_succ, List.getElem_cons_zero, List.setIfInBounds_toArray, List.set_cons_zero, List.set_cons_succ]
    clear hHeld2 gb18e
    refine wpAnyH_ready (rs := [6]) (by kernel_rfl) (by simp) (AllReadyH.cons rfl (fun K1 hK1 => ?_) AllReadyH.nil)
    try simp only [Act.put, List.getElem_toArray, List.getElem_cons_succ, List.getElem_cons_zero, List.setIfInBounds_toArray, List.set_cons_zero, List.set_cons_succ]
    go_simp
    have hd20 := (Below.refl wb16.heap.size wb16).alloc (Nat.le_refl _) (.cells #[.int .i64 kd, .int .i64 who, .int .i64 n] 3)
    have r1 : Row (wb16.alloc (.cells #[.int .i64 kd, .int .i64 who, .int .i64 n] 3)) wb16.heap.size 3 (Is [kd, who, n]) := Row.new wb16 3 (Is [kd, who, n])
    have r2 := r2.kept (grownBy_of_below hd20 none) (by simp)
    have hHeld2 := hHeld.step hd20
    generalize wb16.alloc (.cells #[.int .i64 kd, .int .i64 who, .int .i64 n] 3) = wb19 at *
    obtain ⟨gb21, gb21e⟩ : ∃ gb21, gb21 = wb16.heap.size := ⟨_, rfl⟩
    rw [← gb21e] at r1 ⊢
    refine hK1.out _ _ (hHeld2) (fun hHeld => ?_)
    clear hK1 K1
    try simp only [Act.put, List.getElem_toArray, List.getElem_cons_succ, List.getElem_cons_zero, List.setIfInBounds_toArray, List.set_cons_zero, List.set_cons_succ]
    clear hHeld2 gb21e
    refine wpAnyH_ready (rs := [7]) (by kernel_rfl) (by simp) (AllReadyH.cons rfl (fun K1 hK1 => ?_) AllReadyH.nil)
    try simp only [Act.put, List.getElem_toArray, List.getElem_cons_succ, List.getElem_cons_zero, List.setIfInBounds_toArray, List.set_cons_zero, List.set_cons_succ]
    go_simp
    refine Calls.mono (NB.out _ _ r1) ?_
    rintro e wn22 ⟨vN, rfl, hown, hn23⟩
    have hown := hown.mono hHeld.size
    clear r1
    have r2 := r2.kept (grownBy_of_below hn23 none) (by simp)
    refine hK1.out _ _ (hHeld.step hn23) (fun hHeld => ?_)
    clear hK1 K1
    try simp only [Act.put, List.getElem_toArray, List.getElem_cons_succ, List.getElem_cons_zero, List.setIfInBounds_toArray, List.set_cons_zero, List.set_cons_succ]
    refine wpAnyH_ready (rs := [11]) (by kernel_rfl) (by simp) (AllReadyH.cons rfl (fun K1 hK1 => ?_) AllReadyH.nil)
    try simp only [Act.put, List.getElem_toArray, List.getElem_cons_succ, List.getElem_cons_zero, List.setIfInBounds_toArray, List.set_cons_zero, List.set_cons_succ]
    rw [if_pos (by rfl)]
    refine wp_append_own_wide wn22 _ _ 72 rfl w.heap.size 9 i0 (.string ByteArray.empty) 1 16 Tryd.underlying72 Hi.out Hz.out Hs.out Hby.out rfl (by decide) vN 3 NS rfl hown ⟨gb18, 0, none⟩ 1 1 [.string tx] rfl rfl (row_news r2) (by intro u hu; simp at hu; first | (subst hu; rfl) | (rcases hu with rfl | rfl <;> rfl)) (by unfold maxLen; omega) (by omega) hHeld.size fun vP wp24 hownP hgrow _ => ?_
    have hHeld2 := own_keeps hHeld (by decide) hown (Nat.le_refl _) hgrow
    have hownP := Lib.hid hownP
    clear hown r2 hgrow
    refine hK1.out _ _ (hHeld2) (fun hHeld => ?_)
    clear hK1 K1
    try simp only [Act.put, List.getElem_toArray, List.getElem_cons_succ, List.getElem_cons_zero, List.setIfInBounds_toArray, List.set_cons_zero, List.set_cons_succ]
    refine wpAnyH_take (i := 12) (v := vP) rfl (by kernel_rfl) (by kernel_rfl) (by kernel_rfl) (fun _ _ _ h => h) (Or.inl ⟨by rfl, fun w' hSw => by go_simp⟩) hHeld ?_
    try simp only [Act.put, List.getElem_toArray, List.getElem_cons_succ, List.getElem_cons_zero, List.setIfInBounds_toArray, List.set_cons_zero, List.set_cons_succ]
    refine wpAnyH_done (by kernel_rfl) ?_ _
    have Hbe := Lib.hid hHeld.2
    clear hHeld
    go_wp2_with fail
    go_ret
    exact ⟨vP, rfl, by rw [← Hff.out]; exact hownP.out, Hbe.out⟩
theorem textsL {r : Rp} {W : World} {base : Nat} {v : Value} (h : W.ownsRow base 9 1 v 4 (r.texts.map S)) :
    Calls Tryd.prog 74 #[v] W fun e w' => ∃ n : Int, e = .returned (.tuple #[S (Oct.listE r.texts).1, .int .i64 n]) ∧ Below W.heap.size W w' :=
  (list_owned (k := 3) _ rfl h rfl).mono fun e w' ⟨h1, h2⟩ => ⟨_, h1, h2⟩
set_option maxRecDepth 20000 in
set_option maxHeartbeats 1600000 in
theorem link_any (r : Rp) (hp : r.prev.length = 32) (hh : r.hash.length = 32) (w : World) (hT : Tab w) (hk : r.ok = true) :
    Calls Tryd.prog 60 #[.agg r.cells.toArray] w fun e w' => e = .returned (.agg (bRow r.link)) ∧ Below w.heap.size w w' := by
  have HL := Lib.hid (Rp.cells_len hp hh)
  have Hrow0 := Lib.hid (Row.new w 30 r.cells)
  have HTab := Lib.hid hT
  have Hp := Lib.hid hT.pos
  have hbl := listE_len r.texts
  have RT := Lib.hid (fun W => receiptTexts_any r W hk)
  have BL : Hid (∀ (W : World) (base : Nat) (v : Value), W.ownsRow base 9 1 v 4 (r.texts.map S) → Calls Tryd.prog 74 #[v] W fun e w' => ∃ n : Int, e = .returned (.tuple #[S (Oct.listE r.texts).1, .int .i64 n]) ∧ Below W.heap.size W w') := fun W base v h => textsL h
  have CH : Hid (∀ W, Tab W → Calls Tryd.prog 76 #[.agg (bRow r.prev), S (Oct.listE r.texts).1] W fun e w' => e = .returned (.agg (bRow r.link)) ∧ Below W.heap.size W w') := fun W hW => chain_any r.prev ⟨(Oct.listE r.texts).1.toArray⟩ W hW hp (by show (Oct.listE r.texts).1.length ≤ _; omega)
  have BX : Hid (∀ (W : World) (g : Nat) (T : TypeId), Row W g T r.cells → W.rangeAt g 4 (bRow r.prev).toList) := fun W g T h => rp_prev hp h
  have HPL := Lib.hid (Tx.bRow_len _ hp)
  have HB32 := Lib.hid (Tx.bRow_len _ (Rp.link_len r))
  have HR := Lib.hid (Rp.link_len r)
  have HZ32 := Lib.hid (Tx.bRow_len Tx.zero rfl)
  have hzv := hash_zv
  generalize r.texts.map S = NS at *
  generalize (Oct.listE r.texts).1 = bs at *
  generalize r.link = K at *
  generalize r.cells = C at *
  clear hT hp hh hk hbl
  go_enter Tryd.func60, Tryd.ntmps60
  go_wp2_with (with_reducible show wpList _ _ _ (⟨_, .load 30 _, _, _, _, _⟩ :: _) _ _; refine wpList_load_tx rfl 30 (.tmp 1) rfl w.heap.size 0 rfl C _ (World.rangeAt_alloc (row_range Hrow0.out) _) Tryd.underlying30 rfl (by rw [rp_info, HL.out]) ?_)
  refine calls_named ?_
  intro w1 hw1
  have hb1 : Below w.heap.size w w1 := by rw [hw1]; exact (row_two w C.toArray (bRow Tx.zero) 30 28).2.1
  have hr1 : Row w1 (w.heap.size + 1) 28 (bRow Tx.zero).toList := by rw [hw1]; exact (row_two w C.toArray (bRow Tx.zero) 30 28).1
  have hq1 : Row w1 w.heap.size 30 C := by rw [hw1]; exact (row_two w C.toArray (bRow Tx.zero) 30 28).2.2
  clear hw1 hzv
  refine (RT.out w1).mono ?_
  rintro _ w2 ⟨v, rfl, hown, hb2⟩
  have hg2 := grownBy_of_below hb2 none
  have Hr2 := Lib.hid (hr1.kept hg2 (by simp))
  have Hq2 := Lib.hid (hq1.kept hg2 (by simp))
  have Hb2 := Lib.hid (two_below' hb1 hb2)
  have Hown := Lib.hid hown
  clear hb1 hr1 hq1 hb2 hg2 hown
  go_wp2_with fail
  refine (BL.out w2 _ v Hown.out).mono ?_
  rintro _ w3 ⟨n, rfl, hb3⟩
  have hg3 := grownBy_of_below hb3 none
  have Hr3 := Lib.hid (Hr2.out.kept hg3 (by simp))
  have Hb3 := Lib.hid (two_below' Hb2.out hb3)
  have Hrt := Lib.hid (BX.out _ _ _ (Hq2.out.kept hg3 (by simp)))
  clear hb3 hg3
  go_wp2_with (with_reducible show wpList _ _ _ (⟨_, .load 28 _, _, _, _, _⟩ :: _) _ _; refine wpList_load_tx rfl 28 (.tmp 11) rfl w.heap.size 4 rfl (bRow r.prev).toList _ Hrt.out Tryd.underlying28 rfl (by rw [hash_info, HPL.out]) ?_)
  refine (CH.out w3 (HTab.out.below Hb3.out Hp.out)).mono ?_
  rintro _ w4 ⟨rfl, hb4⟩
  have Hr4 := Lib.hid (Hr3.out.kept (grownBy_of_below hb4 none) (by simp))
  have Hb4 := Lib.hid (two_below' Hb3.out hb4)
  clear hb4
  go_wp2_with (with_reducible show wpList _ _ _ (⟨_, .store 28 _ _, _, _, _, _⟩ :: _) _ _
               refine wpList_store_at rfl 28 (.tmp 2) (.tmp 14) rfl (w.heap.size + 1) 0 (bRow K).toList _ _ rfl rfl Hr4.out (by have := HB32.out; have := HZ32.out; omega) (by rw [hash_info, HB32.out]) (hash_one K HR.out) ?_
               intro w5 hr5 hg5
               rw [splice_all (HB32.out.trans HZ32.out.symm)] at hr5
               have Hr5 := Lib.hid hr5
               have Hb5 := Lib.hid (below_own Hb4.out hg5 (fun k hk => by cases hk; omega))
               clear hr5 hg5)
  refine bodyPost_ret (results_cell_row rfl _ _ (w.heap.size + 1) _ _ (0, 0) _ rfl Hr5.out Tryd.underlying28 rfl (by rw [hash_info, List.size_toArray, HB32.out])) rfl ⟨rfl, Hb5.out⟩
end Go.Proofs.YtgdijbcoacgadaaDoor
namespace Go.Proofs.YtgdijbcoacgadaaDoor
open Go.RowKit
set_option linter.unusedVariables false
set_option linter.unusedSimpArgs false

theorem rp_places : (Tryd.prog.underlying 30).map (fun d => match d with | .struct fields => fields.toList.mapM (fun f => (Tryd.prog.info? f.type).map fun i => (f.offset, i.size)) | _ => Option.none) = some (some [(0, 1), (1, 1), (2, 1), (3, 1), (4, 32), (36, 32)]) := by kernel_rfl
theorem rp_zero : (Tryd.prog.info? 30).map (·.zero) = some (some (.agg Rp.zero.cells.toArray)) := by kernel_rfl
theorem rp_built (parts : List (Nat × Value)) : Tryd.prog.built 30 parts = Instr.fill (#[(0, 1), (1, 1), (2, 1), (3, 1), (4, 32), (36, 32)][·]?) Rp.zero.cells.toArray parts := by
  obtain ⟨i0, hi, hz⟩ := Option.map_eq_some_iff.1 rp_zero
  have hp := rp_places
  rw [Tryd.underlying30] at hp
  simp only [Option.map_some, Option.some.injEq] at hp
  unfold Program.built
  rw [hi, Tryd.underlying30]
  simp only [hz, hp]
  rfl
theorem rp_five (a b c : Int) (s : ByteArray) (R : List UInt8) (hR : R.length = 32) :
    Tryd.prog.built 30 [(0, .int .i64 a), (1, .int .i64 b), (2, .int .i64 c), (3, .string s), (4, .agg (bRow R))] = some (Rp.cells ⟨a, b, c, s, R, Tx.zero⟩).toArray := by
  have hz := Tx.bRow_len Tx.zero rfl
  have hr := Tx.bRow_len R hR
  have hL := Rp.cells_len (r := Rp.zero) rfl rfl
  rw [rp_built]
  rw [fill_step _ _ 0 _ [.int .i64 a] _ 0 1 rfl rfl rfl (by rw [hL]; omega)]
  rw [fill_step _ _ 1 _ [.int .i64 b] _ 1 1 rfl rfl rfl (by simp only [List.length_append, List.length_take, List.length_drop, List.length_cons, List.length_nil, hL]; omega)]
  rw [fill_step _ _ 2 _ [.int .i64 c] _ 2 1 rfl rfl rfl (by simp only [List.length_append, List.length_take, List.length_drop, List.length_cons, List.length_nil, hL]; omega)]
  rw [fill_step _ _ 3 _ [.string s] _ 3 1 rfl rfl rfl (by simp only [List.length_append, List.length_take, List.length_drop, List.length_cons, List.length_nil, hL]; omega)]
  rw [fill_step _ _ 4 _ (bRow R).toList _ 4 32 rfl (by simp [Value.cells]) hr (by simp only [List.length_append, List.length_take, List.length_drop, List.length_cons, List.length_nil, hL]; omega)]
  rw [fill_end]
  have e : ∀ Z : List Value, Z.length = 32 → ([.int .i64 0, .int .i64 0, .int .i64 0, .string ByteArray.empty] ++ (Z ++ Z) : List Value).drop 36 = Z := fun Z hZ => by
    show ((Z ++ Z).drop 32) = Z
    rw [List.drop_left' hZ]
  unfold Rp.cells Rp.zero
  simp only [List.cons_append, List.nil_append, List.take_succ_cons, List.take_zero, List.drop_succ_cons, List.drop_zero]
  rw [List.drop_left' hz]
theorem row_three (w : World) (A B D : List Value) (t1 t2 t3 : TypeId) : Row (((w.alloc (.cells A.toArray t1)).alloc (.cells B.toArray t2)).alloc (.cells D.toArray t3)) (w.heap.size + 1 + 1) t3 D ∧ Below w.heap.size w (((w.alloc (.cells A.toArray t1)).alloc (.cells B.toArray t2)).alloc (.cells D.toArray t3)) ∧ Row (((w.alloc (.cells A.toArray t1)).alloc (.cells B.toArray t2)).alloc (.cells D.toArray t3)) (w.heap.size + 1) t2 B ∧ Row (((w.alloc (.cells A.toArray t1)).alloc (.cells B.toArray t2)).alloc (.cells D.toArray t3)) w.heap.size t1 A := by
  obtain ⟨h1, h2, h3⟩ := row_two w A.toArray B.toArray t1 t2
  have h := Row.new ((w.alloc (.cells A.toArray t1)).alloc (.cells B.toArray t2)) t3 D
  rw [show ((w.alloc (.cells A.toArray t1)).alloc (.cells B.toArray t2)).heap.size = w.heap.size + 1 + 1 by simp] at h
  exact ⟨h, h2.alloc (by simp; omega) _, h1.kept (grownBy_alloc _ _ none) (by simp), h3.kept (grownBy_alloc _ _ none) (by simp)⟩
set_option maxRecDepth 20000 in
set_option maxHeartbeats 1600000 in
theorem link5_any (a k n : Int) (body : ByteArray) (p : List UInt8) (hp : p.length = 32) (w : World) (hT : Tab w) :
    Calls Tryd.prog 43 #[.agg (bRow p), .int .i64 a, .int .i64 k, .int .i64 n, .string body] w fun e w' => e = .returned (Rp.pairV (Rp.linkE ⟨a, k, n, body, p, Tx.zero⟩)) ∧ Below w.heap.size w w' := by
  obtain ⟨r, hr⟩ : ∃ r : Rp, r = ⟨a, k, n, body, p, Tx.zero⟩ := ⟨_, rfl⟩
  have hrp : r.prev.length = 32 := by rw [hr]; exact hp
  have hrh : r.hash.length = 32 := by rw [hr]; rfl
  have hbu := rp_five a k n body p hp
  rw [← hr] at hbu ⊢
  have Hbu := Lib.hid hbu
  have MB := Lib.hid (fun W => linked_any r W)
  have HL := Lib.hid (Rp.cells_len hrp hrh)
  have HL1 := Lib.hid (Rp.cells_one hrp hrh)
  have HZL := Lib.hid (Rp.cells_len (r := Rp.zero) rfl rfl)
  have HZ1 := Lib.hid (Rp.cells_one (r := Rp.zero) rfl rfl)
  have HTab := Lib.hid hT
  have Hp := Lib.hid hT.pos
  have HPL := Lib.hid (Tx.bRow_len _ hp)
  have Hcl := Lib.hid (Rp.put_hash hrp hrh r.link (Rp.link_len r))
  have hce : Rp.cells { r with hash := r.link } = r.linked.cells := rfl
  rw [hce] at Hcl
  have HDL := Lib.hid (Rp.cells_len (r := r.linked) hrp (Rp.link_len r))
  have HD1 := Lib.hid (Rp.cells_one (r := r.linked) hrp (Rp.link_len r))
  have HB32 := Lib.hid (Tx.bRow_len _ (Rp.link_len r))
  have HR := Lib.hid (Rp.link_len r)
  have Hrow0 := Lib.hid (Row.new w 28 (bRow p).toList)
  have hzv : ∀ W : World, (zeroValue 30).run Tryd.prog W = .ok (.agg Rp.zero.cells.toArray) W := fun W => by kernel_rfl
  rcases Bool.eq_false_or_eq_true r.ok with hk | hk
  all_goals rw [hk] at MB
  · have LK := Lib.hid (fun W (hW : Tab W) => link_any r hrp hrh W hW hk)
    have he : Rp.pairV r.linkE = .tuple #[.agg r.linked.cells.toArray, .int .i64 0] := by unfold Rp.linkE; rw [if_pos hk]; rfl
    rw [he]
    generalize r.linked.cells = D at *
    generalize r.link = K at *
    generalize r.cells = C at *
    clear hT hp hrp hrh hr hbu hk he hce
    go_enter Tryd.func43, Tryd.ntmps43
    have H3 := Lib.hid (row_three w (bRow p).toList Rp.zero.cells Rp.zero.cells 28 30 30)
    go_wp2_with (first
      | (with_reducible show wpList _ _ _ (⟨_, .load 28 _, _, _, _, _⟩ :: _) _ _; refine wpList_load_tx rfl 28 (.tmp 5) rfl w.heap.size 0 rfl (bRow p).toList _ (World.rangeAt_alloc (row_range Hrow0.out) _) Tryd.underlying28 rfl (by rw [hash_info, HPL.out]) ?_)
      | ((with_reducible show wpList _ _ _ (⟨_, .build 30 _, _, _, _, _⟩ :: _) _ _); refine wpList_buildL rfl 30 [(0, .tmp 13), (1, .tmp 14), (2, .tmp 15), (3, .tmp 16), (4, .tmp 17)] rfl (some 18) rfl [(0, .int .i64 a), (1, .int .i64 k), (2, .int .i64 n), (3, .string body), (4, .agg (bRow p))] rfl C.toArray Hbu.out ?_)
      | (with_reducible show wpList _ _ _ (⟨_, .store 30 _ _, _, _, _, _⟩ :: _) _ _
         refine wpList_store_at rfl 30 (.tmp 12) (.tmp 18) rfl (w.heap.size + 1 + 1) 0 C _ _ rfl rfl H3.out.1 (by have := HZL.out; have := HL.out; omega) (by rw [rp_info, HL.out]) HL1.out ?_
         intro w1 hr1 hg1
         rw [splice_all (HL.out.trans HZL.out.symm)] at hr1
         have Hq1 := Lib.hid hr1
         have Hr1 := Lib.hid (H3.out.2.2.1.kept hg1 (by simp))
         have Hp1 := Lib.hid (H3.out.2.2.2.kept hg1 (by simp; omega))
         have Hb1 := Lib.hid (below_own H3.out.2.1 hg1 (fun k hk => by cases hk; omega))
         clear hr1 hg1)
      | (with_reducible show wpList _ _ _ (⟨_, .load 30 _, _, _, _, _⟩ :: _) _ _; refine wpList_load_tx rfl 30 (.tmp 12) rfl (w.heap.size + 1 + 1) 0 rfl C _ (row_range Hq1.out) Tryd.underlying30 rfl (by rw [rp_info, HL.out]) ?_))
    refine (MB.out w1).mono ?_
    rintro _ w2 ⟨rfl, hb2⟩
    have hg2 := grownBy_of_below hb2 none
    have Hr2 := Lib.hid (Hr1.out.kept hg2 (by simp))
    have Hq2 := Lib.hid (Hq1.out.kept hg2 (by simp))
    have Hb2 := Lib.hid (two_below' Hb1.out hb2)
    have hlt2 := Hq2.out.lt
    clear hb2 hg2 hzv
    go_wp2_with (with_reducible show wpList _ _ _ (⟨_, .load 30 _, _, _, _, _⟩ :: _) _ _; refine wpList_load_tx rfl 30 (.tmp 12) rfl (w.heap.size + 1 + 1) 0 rfl C _ (row_range Hq2.out) Tryd.underlying30 rfl (by rw [rp_info, HL.out]) ?_)
    refine (LK.out w2 (HTab.out.below Hb2.out Hp.out)).mono ?_
    rintro _ w3 ⟨rfl, hb3⟩
    have hg3 := grownBy_of_below hb3 none
    have Hr3 := Lib.hid (Hr2.out.kept hg3 (by simp))
    have Hq3 := Lib.hid (Hq2.out.kept hg3 (by simp))
    have Hb3 := Lib.hid (two_below' Hb2.out hb3)
    clear hb3 hg3
    go_wp2_with (first
      | (with_reducible show wpList _ _ _ (⟨_, .store 28 _ _, _, _, _, _⟩ :: _) _ _
         refine wpList_store_at rfl 28 (.tmp 25) (.tmp 24) rfl (w.heap.size + 1 + 1) 36 (bRow K).toList _ _ rfl rfl Hq3.out (by rw [HB32.out, HL.out]; decide) (by rw [hash_info, HB32.out]) (hash_one K HR.out) ?_
         intro w5 hr5 hg5
         rw [Hcl.out] at hr5
         have Hq5 := Lib.hid hr5
         have Hr5 := Lib.hid (Hr3.out.kept hg5 (by simp))
         have Hb5 := Lib.hid (below_own Hb3.out hg5 (fun k hk => by cases hk; omega))
         clear hr5 hg5)
      | (with_reducible show wpList _ _ _ (⟨_, .load 30 _, _, _, _, _⟩ :: _) _ _; refine wpList_load_tx rfl 30 (.tmp 12) rfl (w.heap.size + 1 + 1) 0 rfl D _ (row_range Hq5.out) Tryd.underlying30 rfl (by rw [rp_info, HDL.out]) ?_)
      | (with_reducible show wpList _ _ _ (⟨_, .store 30 _ _, _, _, _, _⟩ :: _) _ _
         refine wpList_store_at rfl 30 (.tmp 10) (.tmp 26) rfl (w.heap.size + 1) 0 D _ _ rfl rfl Hr5.out (by have := HZL.out; have := HDL.out; omega) (by rw [rp_info, HDL.out]) HD1.out ?_
         intro w8 hr8 hg8
         rw [splice_all (HDL.out.trans HZL.out.symm)] at hr8
         have Hr8 := Lib.hid hr8
         have Hb8 := Lib.hid (below_own Hb5.out hg8 (fun k hk => by cases hk; omega))
         clear hr8 hg8))
    refine bodyPost_ret (results_rowL rfl _ _ (w.heap.size + 1) 30 _ _ rfl Hr8.out Tryd.underlying30 rfl (by rw [rp_info, List.size_toArray, HDL.out]) _ rfl) rfl ⟨rfl, Hb8.out⟩
  · have he : Rp.pairV r.linkE = .tuple #[.agg Rp.zero.cells.toArray, .int .i64 2] := by unfold Rp.linkE; rw [if_neg (by rw [hk]; simp)]; rfl
    have He := Lib.hid he
    generalize Rp.pairV r.linkE = NE at *
    generalize r.cells = C at *
    clear hT hp hrp hrh hr hbu hk he hce HDL HD1 HB32 HR Hcl
    go_enter Tryd.func43, Tryd.ntmps43
    have H3 := Lib.hid (row_three w (bRow p).toList Rp.zero.cells Rp.zero.cells 28 30 30)
    go_wp2_with (first
      | (with_reducible show wpList _ _ _ (⟨_, .load 28 _, _, _, _, _⟩ :: _) _ _; refine wpList_load_tx rfl 28 (.tmp 5) rfl w.heap.size 0 rfl (bRow p).toList _ (World.rangeAt_alloc (row_range Hrow0.out) _) Tryd.underlying28 rfl (by rw [hash_info, HPL.out]) ?_)
      | ((with_reducible show wpList _ _ _ (⟨_, .build 30 _, _, _, _, _⟩ :: _) _ _); refine wpList_buildL rfl 30 [(0, .tmp 13), (1, .tmp 14), (2, .tmp 15), (3, .tmp 16), (4, .tmp 17)] rfl (some 18) rfl [(0, .int .i64 a), (1, .int .i64 k), (2, .int .i64 n), (3, .string body), (4, .agg (bRow p))] rfl C.toArray Hbu.out ?_)
      | (with_reducible show wpList _ _ _ (⟨_, .store 30 _ _, _, _, _, _⟩ :: _) _ _
         refine wpList_store_at rfl 30 (.tmp 12) (.tmp 18) rfl (w.heap.size + 1 + 1) 0 C _ _ rfl rfl H3.out.1 (by have := HZL.out; have := HL.out; omega) (by rw [rp_info, HL.out]) HL1.out ?_
         intro w1 hr1 hg1
         rw [splice_all (HL.out.trans HZL.out.symm)] at hr1
         have Hq1 := Lib.hid hr1
         have Hr1 := Lib.hid (H3.out.2.2.1.kept hg1 (by simp))
         have Hp1 := Lib.hid (H3.out.2.2.2.kept hg1 (by simp; omega))
         have Hb1 := Lib.hid (below_own H3.out.2.1 hg1 (fun k hk => by cases hk; omega))
         clear hr1 hg1)
      | (with_reducible show wpList _ _ _ (⟨_, .load 30 _, _, _, _, _⟩ :: _) _ _; refine wpList_load_tx rfl 30 (.tmp 12) rfl (w.heap.size + 1 + 1) 0 rfl C _ (row_range Hq1.out) Tryd.underlying30 rfl (by rw [rp_info, HL.out]) ?_))
    refine (MB.out w1).mono ?_
    rintro _ w2 ⟨rfl, hb2⟩
    have hg2 := grownBy_of_below hb2 none
    have Hr2 := Lib.hid (Hr1.out.kept hg2 (by simp))
    have Hq2 := Lib.hid (Hq1.out.kept hg2 (by simp))
    have Hb2 := Lib.hid (two_below' Hb1.out hb2)
    have hlt2 := Hq2.out.lt
    clear hb2 hg2 hzv
    have Hr2' : Hid (Row w2 (w.heap.size + 1) 30 Rp.zero.cells) := Hr2
    clear Hr2
    go_wp2_with (first
      | (with_reducible show wpList _ _ _ (⟨_, .build 30 _, _, _, _, _⟩ :: _) _ _; refine wpList_buildL rfl 30 [] rfl (some 22) rfl _ rfl _ Rp.zero_built0 ?_)
      | (with_reducible show wpList _ _ _ (⟨_, .store 30 _ _, _, _, _, _⟩ :: _) _ _
         refine wpList_store_at rfl 30 (.tmp 10) (.tmp 22) rfl (w.heap.size + 1) 0 Rp.zero.cells _ _ rfl rfl Hr2'.out (by have := HZL.out; omega) (by rw [rp_info, HZL.out]) HZ1.out ?_
         intro wZ hrZ hgZ
         rw [splice_all rfl] at hrZ
         have HrZ := Lib.hid hrZ
         have HbZ := Lib.hid (below_own Hb2.out hgZ (fun k hk => by cases hk; omega))
         clear hrZ hgZ))
    refine bodyPost_ret (results_rowL rfl _ _ (w.heap.size + 1) 30 _ _ rfl HrZ.out Tryd.underlying30 rfl (by rw [rp_info, List.size_toArray, HZL.out]) _ rfl) rfl ⟨?_, HbZ.out⟩
    rw [He.out]
    exact rfl
end Go.Proofs.YtgdijbcoacgadaaDoor
namespace Go.Proofs.YtgdijbcoacgadaaDoor
open Go.RowKit
set_option linter.unusedVariables false
set_option linter.unusedSimpArgs false

end Go.Proofs.YtgdijbcoacgadaaDoor

/- ---- NoReg ---- -/
/- Steps of drawn regions: a struct literal with rows; a row stored. -/
namespace Go.Proofs.YtgdijbcoacgadaaDoor
open Go.RowKit
set_option linter.unusedVariables false
set_option linter.unusedSimpArgs false

theorem yieldsIf_buildL {P : Program} {ops : Array Oper} {S : World → Prop} {op : Oper} {a : Act} (hw : Region.wanted op (yielded ops a.tmps) = true) (t : TypeId) (parts : List (Nat × Operand)) (ho : op.op = .build t parts.toArray)
    (vs : List (Nat × Value)) (hv : parts.map (fun p => (p.1, a.eval p.2)) = vs) (cells : Array Value) (hf : P.built t vs = some cells) : YieldsIf P ops S op (.agg cells) a :=
  .inl ⟨hw, fun w _ => by
    have e : (parts.toArray.map fun (i, x) => (i, a.eval x)).toList = vs := by rw [← hv]; simp
    have h2 : P.built t ((parts.toArray.map fun (i, x) => (i, a.eval x)).toList) = some cells := by rw [e]; exact hf
    unfold execOp
    simp only [ho, Sem.run_bind, run_build w t _ cells h2, Result.andThen_ok, Sem.run_pure]⟩
theorem wp_store_at {P : Program} {op : Oper} {a : Act} {w : World} {K : Act → World → Prop} {Q : Exit → Act → World → Prop} (ty : TypeId) (x y : Operand) (ho : op.op = .store ty x y)
    (g off : Nat) (l xs : List Value) (T : TypeId) (hx : a.eval x = .pointer (some ⟨g, off, none⟩)) (hy : a.eval y = .agg l.toArray) (hg : Row w g T xs) (hoff : off + l.length ≤ xs.length)
    (hi : (P.info? ty).map (·.size) = some l.length) (h1 : ∀ v ∈ l, v.oneCell' = true)
    (h : ∀ w', Row w' g T (xs.take off ++ (l ++ xs.drop (off + l.length))) → w.grownBy w' (some g) → K (a.put op.dst undef) w') : op.wp P a w K Q := by
  obtain ⟨r1, r2⟩ := row_setCells l off w xs hg hoff
  exact wp_store_mid ty x y ho g off l.toArray hx hy (fun j hj => ⟨by
    have hj' : j < l.length := by simpa using hj
    rw [hg.cell (off + j) (by omega)]; rfl, hg.free _⟩) (by simpa using hi) (all_oneCell_toArray h1) (h _ r1 r2)
end Go.Proofs.YtgdijbcoacgadaaDoor

/- ---- NoE ---- -/
/- The reference of layer 5: Link. -/
/- The reference of layer 5: WriteReceipt; receipts held against each other. -/
namespace Go.Proofs.YtgdijbcoacgadaaDoor
open Go.RowKit
set_option linter.unusedVariables false
set_option linter.unusedSimpArgs false

theorem rp_six (a b c : Int) (s : ByteArray) (R Q : List UInt8) (hR : R.length = 32) (hQ : Q.length = 32) :
    Tryd.prog.built 30 [(0, .int .i64 a), (1, .int .i64 b), (2, .int .i64 c), (3, .string s), (4, .agg (bRow R)), (5, .agg (bRow Q))] = some (Rp.cells ⟨a, b, c, s, R, Q⟩).toArray := by
  have hr := Tx.bRow_len R hR
  have hq := Tx.bRow_len Q hQ
  have hL := Rp.cells_len (r := Rp.zero) rfl rfl
  have h5 := rp_five a b c s R hR
  have hY := Rp.cells_len (r := ⟨a, b, c, s, R, Tx.zero⟩) hR rfl
  have hput := Rp.put_hash (r := ⟨a, b, c, s, R, Tx.zero⟩) hR rfl Q hQ
  rw [hq] at hput
  generalize Rp.cells ⟨a, b, c, s, R, Tx.zero⟩ = Y at *
  have p0 : ((#[(0, 1), (1, 1), (2, 1), (3, 1), (4, 32), (36, 32)] : Array (Nat × Nat))[0]?) = some (0, 1) := rfl
  rw [rp_built] at h5 ⊢
  rw [fill_step _ _ 0 _ [.int .i64 a] _ 0 1 rfl rfl rfl (by rw [hL]; omega)] at h5 ⊢
  rw [fill_step _ _ 1 _ [.int .i64 b] _ 1 1 rfl rfl rfl (by simp only [List.length_append, List.length_take, List.length_drop, List.length_cons, List.length_nil, hL]; omega)] at h5 ⊢
  rw [fill_step _ _ 2 _ [.int .i64 c] _ 2 1 rfl rfl rfl (by simp only [List.length_append, List.length_take, List.length_drop, List.length_cons, List.length_nil, hL]; omega)] at h5 ⊢
  rw [fill_step _ _ 3 _ [.string s] _ 3 1 rfl rfl rfl (by simp only [List.length_append, List.length_take, List.length_drop, List.length_cons, List.length_nil, hL]; omega)] at h5 ⊢
  rw [fill_step _ _ 4 _ (bRow R).toList _ 4 32 rfl (by simp [Value.cells]) hr (by simp only [List.length_append, List.length_take, List.length_drop, List.length_cons, List.length_nil, hL]; omega)] at h5 ⊢
  rw [fill_end] at h5
  rw [Option.some.inj h5]
  rw [fill_step _ _ 5 _ (bRow Q).toList _ 36 32 rfl (by simp [Value.cells]) hq (by rw [hY]; omega), fill_end, hput]
/-- what Link's drawn statement counts on -/
def LinkIn (w0 W : World) (p : List UInt8) : Prop := Below w0.heap.size w0 W ∧ Row W w0.heap.size 28 (bRow p).toList ∧ ∃ Z : List Value, Z.length = 68 ∧ Row W (w0.heap.size + 1) 30 Z
theorem LinkIn.step {w0 W W' : World} {p : List UInt8} (h : LinkIn w0 W p) (hb : Below W.heap.size W W') : LinkIn w0 W' p := by
  obtain ⟨h1, h2, Z, h3, h4⟩ := h
  have hg := grownBy_of_below hb none
  exact ⟨two_below' h1 hb, h2.kept hg (by simp), Z, h3, h4.kept hg (by simp)⟩
theorem LinkIn.put {w0 W W' : World} {p : List UInt8} {Z : List Value} (h : LinkIn w0 W p) (hg : W.grownBy W' (some (w0.heap.size + 1))) (hZ : Z.length = 68) (hr : Row W' (w0.heap.size + 1) 30 Z) : LinkIn w0 W' p :=
  ⟨h.1.grown hg h.1.size (fun k hk => by cases hk; omega), h.2.1.kept hg (by simp), Z, hZ, hr⟩
set_option maxRecDepth 20000 in
theorem rlink5_n0 (a k n : Int) (body : ByteArray) (p : List UInt8) (hp : p.length = 32) (w : World) (b1 : (decide (0 ≤ a) && decide (a ≤ 1099511627776)) = false) :
    Calls Tryd.prog 23 #[.agg (bRow p), .int .i64 a, .int .i64 k, .int .i64 n, .string body] w fun e w' => e = .returned (.tuple #[.agg Rp.zero.cells.toArray, .int .i64 2]) ∧ Below w.heap.size w w' := by
  have HZL := Lib.hid (Rp.cells_len (r := Rp.zero) rfl rfl)
  have HZ1 := Lib.hid (Rp.cells_one (r := Rp.zero) rfl rfl)
  have hzv : ∀ W : World, (zeroValue 30).run Tryd.prog W = .ok (.agg Rp.zero.cells.toArray) W := fun W => by kernel_rfl
  have N1 := Lib.hid (within5_b a 1099511627776 _ b1)
  clear b1
  have H2 := Lib.hid (row_two w (bRow p) Rp.zero.cells.toArray 28 30)
  have Hr2 : Hid (Row ((w.alloc (.cells (bRow p) 28)).alloc (.cells Rp.zero.cells.toArray 30)) (w.heap.size + 1) 30 Rp.zero.cells) := Lib.hid H2.out.1
  go_enter Tryd.func23, Tryd.ntmps23
  go_wp2_with fail
  refine (N1.out _).mono ?_
  rintro _ w1 ⟨rfl, rfl⟩
  have HRn : Hid (Rp.zero = Rp.zero) := Lib.hid rfl
  clear hzv
  go_wp2_with (first
    | (with_reducible show wpList _ _ _ (⟨_, .build 30 _, _, _, _, _⟩ :: _) _ _; refine wpList_buildL rfl 30 [] rfl (some 35) rfl _ rfl _ Rp.zero_built0 ?_)
    | (with_reducible show wpList _ _ _ (⟨_, .store 30 _ _, _, _, _, _⟩ :: _) _ _
       refine wpList_store_at rfl 30 (.tmp 10) (.tmp 35) rfl (w.heap.size + 1) 0 Rp.zero.cells _ _ rfl rfl Hr2.out (by have := HZL.out; omega) (by rw [rp_info, HZL.out]) HZ1.out ?_
       intro wZ hrZ hgZ
       rw [splice_all rfl] at hrZ
       have HrZ := Lib.hid hrZ
       have HbZ := Lib.hid (below_own H2.out.2.1 hgZ (fun k hk => by cases hk; omega))
       clear hrZ hgZ))
  refine bodyPost_ret (results_rowL rfl _ _ (w.heap.size + 1) 30 _ _ rfl HrZ.out Tryd.underlying30 rfl (by rw [rp_info, List.size_toArray, HZL.out]) _ rfl) rfl ⟨?_, HbZ.out⟩
  exact rfl
set_option maxRecDepth 20000 in
theorem rlink5_n1 (a k n : Int) (body : ByteArray) (p : List UInt8) (hp : p.length = 32) (w : World) (b1 : (decide (0 ≤ a) && decide (a ≤ 1099511627776)) = true) (b2 : (decide (0 ≤ n) && decide (n ≤ 1099511627776)) = false) :
    Calls Tryd.prog 23 #[.agg (bRow p), .int .i64 a, .int .i64 k, .int .i64 n, .string body] w fun e w' => e = .returned (.tuple #[.agg Rp.zero.cells.toArray, .int .i64 2]) ∧ Below w.heap.size w w' := by
  have HZL := Lib.hid (Rp.cells_len (r := Rp.zero) rfl rfl)
  have HZ1 := Lib.hid (Rp.cells_one (r := Rp.zero) rfl rfl)
  have hzv : ∀ W : World, (zeroValue 30).run Tryd.prog W = .ok (.agg Rp.zero.cells.toArray) W := fun W => by kernel_rfl
  have N1 := Lib.hid (within5_b a 1099511627776 _ b1)
  have N2 := Lib.hid (within5_b n 1099511627776 _ b2)
  clear b1 b2
  have H2 := Lib.hid (row_two w (bRow p) Rp.zero.cells.toArray 28 30)
  have Hr2 : Hid (Row ((w.alloc (.cells (bRow p) 28)).alloc (.cells Rp.zero.cells.toArray 30)) (w.heap.size + 1) 30 Rp.zero.cells) := Lib.hid H2.out.1
  go_enter Tryd.func23, Tryd.ntmps23
  go_wp2_with fail
  refine (N1.out _).mono ?_
  rintro _ w1 ⟨rfl, rfl⟩
  go_wp2_with fail
  refine (N2.out _).mono ?_
  rintro _ w1 ⟨rfl, rfl⟩
  have HRn : Hid (Rp.zero = Rp.zero) := Lib.hid rfl
  clear hzv
  go_wp2_with (first
    | (with_reducible show wpList _ _ _ (⟨_, .build 30 _, _, _, _, _⟩ :: _) _ _; refine wpList_buildL rfl 30 [] rfl (some 35) rfl _ rfl _ Rp.zero_built0 ?_)
    | (with_reducible show wpList _ _ _ (⟨_, .store 30 _ _, _, _, _, _⟩ :: _) _ _
       refine wpList_store_at rfl 30 (.tmp 10) (.tmp 35) rfl (w.heap.size + 1) 0 Rp.zero.cells _ _ rfl rfl Hr2.out (by have := HZL.out; omega) (by rw [rp_info, HZL.out]) HZ1.out ?_
       intro wZ hrZ hgZ
       rw [splice_all rfl] at hrZ
       have HrZ := Lib.hid hrZ
       have HbZ := Lib.hid (below_own H2.out.2.1 hgZ (fun k hk => by cases hk; omega))
       clear hrZ hgZ))
  refine bodyPost_ret (results_rowL rfl _ _ (w.heap.size + 1) 30 _ _ rfl HrZ.out Tryd.underlying30 rfl (by rw [rp_info, List.size_toArray, HZL.out]) _ rfl) rfl ⟨?_, HbZ.out⟩
  exact rfl
set_option maxRecDepth 20000 in
theorem rlink5_n2 (a k n : Int) (body : ByteArray) (p : List UInt8) (hp : p.length = 32) (w : World) (b1 : (decide (0 ≤ a) && decide (a ≤ 1099511627776)) = true) (b2 : (decide (0 ≤ n) && decide (n ≤ 1099511627776)) = true) (k1 : (k != 1) = true) (k2 : (k != 2) = true) :
    Calls Tryd.prog 23 #[.agg (bRow p), .int .i64 a, .int .i64 k, .int .i64 n, .string body] w fun e w' => e = .returned (.tuple #[.agg Rp.zero.cells.toArray, .int .i64 2]) ∧ Below w.heap.size w w' := by
  have HZL := Lib.hid (Rp.cells_len (r := Rp.zero) rfl rfl)
  have HZ1 := Lib.hid (Rp.cells_one (r := Rp.zero) rfl rfl)
  have hzv : ∀ W : World, (zeroValue 30).run Tryd.prog W = .ok (.agg Rp.zero.cells.toArray) W := fun W => by kernel_rfl
  have N1 := Lib.hid (within5_b a 1099511627776 _ b1)
  have N2 := Lib.hid (within5_b n 1099511627776 _ b2)
  clear b1 b2
  have H2 := Lib.hid (row_two w (bRow p) Rp.zero.cells.toArray 28 30)
  have Hr2 : Hid (Row ((w.alloc (.cells (bRow p) 28)).alloc (.cells Rp.zero.cells.toArray 30)) (w.heap.size + 1) 30 Rp.zero.cells) := Lib.hid H2.out.1
  go_enter Tryd.func23, Tryd.ntmps23
  go_wp2_with fail
  refine (N1.out _).mono ?_
  rintro _ w1 ⟨rfl, rfl⟩
  go_wp2_with fail
  refine (N2.out _).mono ?_
  rintro _ w1 ⟨rfl, rfl⟩
  have HRn : Hid (Rp.zero = Rp.zero) := Lib.hid rfl
  clear hzv
  go_wp2_with (first
    | (with_reducible show wpList _ _ _ (⟨_, .build 30 _, _, _, _, _⟩ :: _) _ _; refine wpList_buildL rfl 30 [] rfl (some 35) rfl _ rfl _ Rp.zero_built0 ?_)
    | (with_reducible show wpList _ _ _ (⟨_, .store 30 _ _, _, _, _, _⟩ :: _) _ _
       refine wpList_store_at rfl 30 (.tmp 10) (.tmp 35) rfl (w.heap.size + 1) 0 Rp.zero.cells _ _ rfl rfl Hr2.out (by have := HZL.out; omega) (by rw [rp_info, HZL.out]) HZ1.out ?_
       intro wZ hrZ hgZ
       rw [splice_all rfl] at hrZ
       have HrZ := Lib.hid hrZ
       have HbZ := Lib.hid (below_own H2.out.2.1 hgZ (fun k hk => by cases hk; omega))
       clear hrZ hgZ))
  refine bodyPost_ret (results_rowL rfl _ _ (w.heap.size + 1) 30 _ _ rfl HrZ.out Tryd.underlying30 rfl (by rw [rp_info, List.size_toArray, HZL.out]) _ rfl) rfl ⟨?_, HbZ.out⟩
  exact rfl
set_option maxRecDepth 20000 in
theorem rlink5_n3 (a k n : Int) (body : ByteArray) (p : List UInt8) (hp : p.length = 32) (w : World) (b1 : (decide (0 ≤ a) && decide (a ≤ 1099511627776)) = true) (b2 : (decide (0 ≤ n) && decide (n ≤ 1099511627776)) = true) (k1 : (k != 1) = false) (s0 : ((656 : Int) < (body.size : Int))) :
    Calls Tryd.prog 23 #[.agg (bRow p), .int .i64 a, .int .i64 k, .int .i64 n, .string body] w fun e w' => e = .returned (.tuple #[.agg Rp.zero.cells.toArray, .int .i64 2]) ∧ Below w.heap.size w w' := by
  have HZL := Lib.hid (Rp.cells_len (r := Rp.zero) rfl rfl)
  have HZ1 := Lib.hid (Rp.cells_one (r := Rp.zero) rfl rfl)
  have hzv : ∀ W : World, (zeroValue 30).run Tryd.prog W = .ok (.agg Rp.zero.cells.toArray) W := fun W => by kernel_rfl
  have N1 := Lib.hid (within5_b a 1099511627776 _ b1)
  have N2 := Lib.hid (within5_b n 1099511627776 _ b2)
  clear b1 b2
  have H2 := Lib.hid (row_two w (bRow p) Rp.zero.cells.toArray 28 30)
  have Hr2 : Hid (Row ((w.alloc (.cells (bRow p) 28)).alloc (.cells Rp.zero.cells.toArray 30)) (w.heap.size + 1) 30 Rp.zero.cells) := Lib.hid H2.out.1
  go_enter Tryd.func23, Tryd.ntmps23
  go_wp2_with fail
  refine (N1.out _).mono ?_
  rintro _ w1 ⟨rfl, rfl⟩
  go_wp2_with fail
  refine (N2.out _).mono ?_
  rintro _ w1 ⟨rfl, rfl⟩
  have HRn : Hid (Rp.zero = Rp.zero) := Lib.hid rfl
  clear hzv
  go_wp2_with (first
    | (with_reducible show wpList _ _ _ (⟨_, .build 30 _, _, _, _, _⟩ :: _) _ _; refine wpList_buildL rfl 30 [] rfl (some 35) rfl _ rfl _ Rp.zero_built0 ?_)
    | (with_reducible show wpList _ _ _ (⟨_, .store 30 _ _, _, _, _, _⟩ :: _) _ _
       refine wpList_store_at rfl 30 (.tmp 10) (.tmp 35) rfl (w.heap.size + 1) 0 Rp.zero.cells _ _ rfl rfl Hr2.out (by have := HZL.out; omega) (by rw [rp_info, HZL.out]) HZ1.out ?_
       intro wZ hrZ hgZ
       rw [splice_all rfl] at hrZ
       have HrZ := Lib.hid hrZ
       have HbZ := Lib.hid (below_own H2.out.2.1 hgZ (fun k hk => by cases hk; omega))
       clear hrZ hgZ))
  refine bodyPost_ret (results_rowL rfl _ _ (w.heap.size + 1) 30 _ _ rfl HrZ.out Tryd.underlying30 rfl (by rw [rp_info, List.size_toArray, HZL.out]) _ rfl) rfl ⟨?_, HbZ.out⟩
  exact rfl
set_option maxRecDepth 20000 in
theorem rlink5_n4 (a k n : Int) (body : ByteArray) (p : List UInt8) (hp : p.length = 32) (w : World) (b1 : (decide (0 ≤ a) && decide (a ≤ 1099511627776)) = true) (b2 : (decide (0 ≤ n) && decide (n ≤ 1099511627776)) = true) (k1 : (k != 1) = true) (k2 : (k != 2) = false) (s0 : ((656 : Int) < (body.size : Int))) :
    Calls Tryd.prog 23 #[.agg (bRow p), .int .i64 a, .int .i64 k, .int .i64 n, .string body] w fun e w' => e = .returned (.tuple #[.agg Rp.zero.cells.toArray, .int .i64 2]) ∧ Below w.heap.size w w' := by
  have HZL := Lib.hid (Rp.cells_len (r := Rp.zero) rfl rfl)
  have HZ1 := Lib.hid (Rp.cells_one (r := Rp.zero) rfl rfl)
  have hzv : ∀ W : World, (zeroValue 30).run Tryd.prog W = .ok (.agg Rp.zero.cells.toArray) W := fun W => by kernel_rfl
  have N1 := Lib.hid (within5_b a 1099511627776 _ b1)
  have N2 := Lib.hid (within5_b n 1099511627776 _ b2)
  clear b1 b2
  have H2 := Lib.hid (row_two w (bRow p) Rp.zero.cells.toArray 28 30)
  have Hr2 : Hid (Row ((w.alloc (.cells (bRow p) 28)).alloc (.cells Rp.zero.cells.toArray 30)) (w.heap.size + 1) 30 Rp.zero.cells) := Lib.hid H2.out.1
  go_enter Tryd.func23, Tryd.ntmps23
  go_wp2_with fail
  refine (N1.out _).mono ?_
  rintro _ w1 ⟨rfl, rfl⟩
  go_wp2_with fail
  refine (N2.out _).mono ?_
  rintro _ w1 ⟨rfl, rfl⟩
  have HRn : Hid (Rp.zero = Rp.zero) := Lib.hid rfl
  clear hzv
  go_wp2_with (first
    | (with_reducible show wpList _ _ _ (⟨_, .build 30 _, _, _, _, _⟩ :: _) _ _; refine wpList_buildL rfl 30 [] rfl (some 35) rfl _ rfl _ Rp.zero_built0 ?_)
    | (with_reducible show wpList _ _ _ (⟨_, .store 30 _ _, _, _, _, _⟩ :: _) _ _
       refine wpList_store_at rfl 30 (.tmp 10) (.tmp 35) rfl (w.heap.size + 1) 0 Rp.zero.cells _ _ rfl rfl Hr2.out (by have := HZL.out; omega) (by rw [rp_info, HZL.out]) HZ1.out ?_
       intro wZ hrZ hgZ
       rw [splice_all rfl] at hrZ
       have HrZ := Lib.hid hrZ
       have HbZ := Lib.hid (below_own H2.out.2.1 hgZ (fun k hk => by cases hk; omega))
       clear hrZ hgZ))
  refine bodyPost_ret (results_rowL rfl _ _ (w.heap.size + 1) 30 _ _ rfl HrZ.out Tryd.underlying30 rfl (by rw [rp_info, List.size_toArray, HZL.out]) _ rfl) rfl ⟨?_, HbZ.out⟩
  exact rfl
set_option maxRecDepth 20000 in
set_option maxHeartbeats 1600000 in
theorem rlink5_y1 (hRS : RefSum) (a k n : Int) (body : ByteArray) (p : List UInt8) (hp : p.length = 32) (w : World) (b1 : (decide (0 ≤ a) && decide (a ≤ 1099511627776)) = true) (b2 : (decide (0 ≤ n) && decide (n ≤ 1099511627776)) = true) (k1 : (k != 1) = false) (s0 : ¬ ((656 : Int) < (body.size : Int))) :
    Calls Tryd.prog 23 #[.agg (bRow p), .int .i64 a, .int .i64 k, .int .i64 n, .string body] w fun e w' => e = .returned (.tuple #[.agg (Rp.linked ⟨a, k, n, body, p, Tx.zero⟩).cells.toArray, .int .i64 0]) ∧ Below w.heap.size w w' := by
  have HZL := Lib.hid (Rp.cells_len (r := Rp.zero) rfl rfl)
  have HZ1 := Lib.hid (Rp.cells_one (r := Rp.zero) rfl rfl)
  have hzv : ∀ W : World, (zeroValue 30).run Tryd.prog W = .ok (.agg Rp.zero.cells.toArray) W := fun W => by kernel_rfl
  have N1 := Lib.hid (within5_b a 1099511627776 _ b1)
  have N2 := Lib.hid (within5_b n 1099511627776 _ b2)
  obtain ⟨r, hr⟩ : ∃ r : Rp, r = ⟨a, k, n, body, p, Tx.zero⟩ := ⟨_, rfl⟩
  have hbu := rp_six a k n body p r.link hp (Rp.link_len r)
  have hD : Rp.cells ⟨a, k, n, body, p, r.link⟩ = r.linked.cells := by rw [hr]; rfl
  rw [hD] at hbu
  have hln : p.length = 32 ∧ r.link.length = 32 := ⟨hp, Rp.link_len r⟩
  have hbl := listE_len r.texts
  have hlk : Sha.sum (p ++ (Oct.listE r.texts).1) = r.link := by rw [hr]; rfl
  have CH : Hid (∀ W, Calls Tryd.prog 35 #[.agg (bRow p), S (Oct.listE r.texts).1] W fun e w' => e = .returned (.agg (bRow r.link)) ∧ Below W.heap.size W w') := fun W => by
    have := refChain_any hRS p ⟨(Oct.listE r.texts).1.toArray⟩ W hp (by show (Oct.listE r.texts).1.length ≤ _; omega)
    rw [show (⟨(Oct.listE r.texts).1.toArray⟩ : ByteArray).data.toList = (Oct.listE r.texts).1 from rfl, hlk] at this
    exact this
  have hc1 := b1
  have hc2 := b2
  simp at hc1 hc2
  have hkk : 0 ≤ k ∧ k ≤ 2 := by simp at k1; omega
  have T0 := Lib.hid (fun W => text5_any a W hc1.1 (by omega))
  have T1 := Lib.hid (fun W => text5_any k W hkk.1 (by omega))
  have T2 := Lib.hid (fun W => text5_any n W hc2.1 (by omega))
  have LB : Hid (∀ (W : World) (g : Nat), Row W g 9 [S (Oct.num a.toNat), S (Oct.num k.toNat), S (Oct.num n.toNat), .string body] → Calls Tryd.prog 33 #[.slice (some ⟨g, 0, none⟩) 4 4] W fun e w' => e = .returned (.tuple #[S (Oct.listE r.texts).1, .int .i64 (Oct.listE r.texts).2]) ∧ Below W.heap.size W w') := fun W g h => list5_row r.texts h (by rw [hr]; rfl) 4 4 (by rw [hr]; rfl)
  have HDL := Lib.hid (Rp.cells_len (r := r.linked) (by rw [hr]; exact hp) (Rp.link_len r))
  have HD1 := Lib.hid (Rp.cells_one (r := r.linked) (by rw [hr]; exact hp) (Rp.link_len r))
  have HPL := Lib.hid (Tx.bRow_len _ hp)
  have Hrow0 := Lib.hid (Row.new w 28 (bRow p).toList)
  have hq : (Rp.linkE ⟨a, k, n, body, p, Tx.zero⟩) = Rp.linkE r := by rw [hr]
  show Calls _ _ _ _ _
  have hlc : (Rp.mk a k n body p Tx.zero).linked.cells = r.linked.cells := by rw [hr]
  rw [hlc]
  generalize (Oct.listE r.texts).2 = en at *
  generalize (Oct.listE r.texts).1 = ts at *
  generalize r.linked.cells = D at *
  generalize r.link = K at *
  generalize Oct.num a.toNat = t0 at *
  generalize Oct.num k.toNat = t1 at *
  generalize Oct.num n.toNat = t2 at *
  clear b1 b2 hc1 hc2 hkk hr hD hln hbl hlk hq hlc hp hRS
  have H2 := Lib.hid (row_two w (bRow p) Rp.zero.cells.toArray 28 30)
  have Hbu := Lib.hid hbu
  clear hbu
  go_enter Tryd.func23, Tryd.ntmps23
  go_wp2_with fail
  refine (N1.out _).mono ?_
  rintro _ w1 ⟨rfl, rfl⟩
  go_wp2_with fail
  refine (N2.out _).mono ?_
  rintro _ w1 ⟨rfl, rfl⟩
  go_wp2_with fail
  refine calls_named ?_
  intro w1 hw1
  have hb1 : Below w.heap.size w w1 := by rw [hw1]; exact H2.out.2.1
  have hr1 : Row w1 (w.heap.size + 1) 30 Rp.zero.cells := by rw [hw1]; exact H2.out.1
  have hh1 : Row w1 w.heap.size 28 (bRow p).toList := by rw [hw1]; exact H2.out.2.2
  have HI1 : Hid (LinkIn w w1 p) := ⟨hb1, hh1, _, HZL.out, hr1⟩
  clear hw1 hb1 hr1 hh1 H2 hzv
  refine (T0.out _).mono ?_
  rintro _ w2 ⟨rfl, hb2⟩
  have HI2 := Lib.hid (HI1.out.step hb2)
  clear hb2
  go_wp2_with fail
  refine (T1.out _).mono ?_
  rintro _ w3 ⟨rfl, hb3⟩
  have HI3 := Lib.hid (HI2.out.step hb3)
  clear hb3
  go_wp2_with fail
  refine (T2.out _).mono ?_
  rintro _ w4 ⟨rfl, hb4⟩
  have HI4 := Lib.hid (HI3.out.step hb4)
  clear hb4
  go_wp2_with fail
  refine calls_named ?_
  intro w5 hw5
  have hr5 : Row w5 w4.heap.size 9 [S t0, S t1, S t2, .string body] := by rw [hw5]; exact Row.new w4 9 [S t0, S t1, S t2, .string body]
  have HI5 : Hid (LinkIn w w5 p) := by rw [hw5]; exact HI4.out.step ((Below.refl _ _).alloc (Nat.le_refl _) _)
  clear hw5
  refine (LB.out w5 _ hr5).mono ?_
  rintro _ w6 ⟨rfl, hb6⟩
  have HS0 : Hid (LinkIn w w6.drew p) := (HI5.out.step hb6).step (Below.refl _ _).drew
  have hu23 := Tryd.underlying28
  have hi23 : (Tryd.prog.info? 28).map (·.size) = some (bRow p).toList.length := by rw [hash_info, HPL.out]
  clear hb6 hr5
  go_wp2_with fail
  refine wp_region_held_drew (S := fun w' => LinkIn w w' p) (by kernel_rfl) (HS0.out) (fun hHeld => ?_)
  generalize w6.drew = w9 at *
  refine wpAnyH_take (i := 0) (v := .int .i64 a) rfl (by kernel_rfl) (by kernel_rfl) (by kernel_rfl) (fun _ _ _ h => h) (Or.inl ⟨by rfl, fun w' hSw => by go_simp⟩) hHeld ?_
  try simp only [Act.put, List.getElem_toArray, List.getElem_cons_succ, List.getElem_cons_zero, List.setIfInBounds_toArray, List.set_cons_zero, List.set_cons_succ]
  refine wpAnyH_take (i := 1) (v := .int .i64 k) rfl (by kernel_rfl) (by kernel_rfl) (by kernel_rfl) (fun _ _ _ h => h) (Or.inl ⟨by rfl, fun w' hSw => by go_simp⟩) hHeld ?_
  try simp only [Act.put, List.getElem_toArray, List.getElem_cons_succ, List.getElem_cons_zero, List.setIfInBounds_toArray, List.set_cons_zero, List.set_cons_succ]
  refine wpAnyH_take (i := 2) (v := .int .i64 n) rfl (by kernel_rfl) (by kernel_rfl) (by kernel_rfl) (fun _ _ _ h => h) (Or.inl ⟨by rfl, fun w' hSw => by go_simp⟩) hHeld ?_
  try simp only [Act.put, List.getElem_toArray, List.getElem_cons_succ, List.getElem_cons_zero, List.setIfInBounds_toArray, List.set_cons_zero, List.set_cons_succ]
  refine wpAnyH_take (i := 3) (v := .string body) rfl (by kernel_rfl) (by kernel_rfl) (by kernel_rfl) (fun _ _ _ h => h) (Or.inl ⟨by rfl, fun w' hSw => by go_simp⟩) hHeld ?_
  try simp only [Act.put, List.getElem_toArray, List.getElem_cons_succ, List.getElem_cons_zero, List.setIfInBounds_toArray, List.set_cons_zero, List.set_cons_succ]
  refine' wpAnyH_take (i := 4) (v := _) rfl (by kernel_rfl) (by kernel_rfl) (by kernel_rfl) (fun _ _ _ h => h) (yieldsIf_load_mid (by rfl) _ _ rfl w.heap.size 0 rfl (bRow p).toList _ (fun w' hSw => (row_range hSw.2.1)) hu23 rfl hi23) hHeld ?_
  try simp only [Act.put, List.getElem_toArray, List.getElem_cons_succ, List.getElem_cons_zero, List.setIfInBounds_toArray, List.set_cons_zero, List.set_cons_succ]
  refine' wpAnyH_take (i := 5) (v := _) rfl (by kernel_rfl) (by kernel_rfl) (by kernel_rfl) (fun _ _ _ h => h) (yieldsIf_load_mid (by rfl) _ _ rfl w.heap.size 0 rfl (bRow p).toList _ (fun w' hSw => (row_range hSw.2.1)) hu23 rfl hi23) hHeld ?_
  try simp only [Act.put, List.getElem_toArray, List.getElem_cons_succ, List.getElem_cons_zero, List.setIfInBounds_toArray, List.set_cons_zero, List.set_cons_succ]
  refine wpAnyH_take (i := 6) (v := S ts) rfl (by kernel_rfl) (by kernel_rfl) (by kernel_rfl) (fun _ _ _ h => h) (Or.inl ⟨by rfl, fun w' hSw => by go_simp⟩) hHeld ?_
  try simp only [Act.put, List.getElem_toArray, List.getElem_cons_succ, List.getElem_cons_zero, List.setIfInBounds_toArray, List.set_cons_zero, List.set_cons_succ]
  refine wpAnyH_ready (rs := [7]) (by kernel_rfl) (by simp) (AllReadyH.cons rfl (fun K1 hK1 => ?_) AllReadyH.nil)
  try simp only [Act.put, List.getElem_toArray, List.getElem_cons_succ, List.getElem_cons_zero, List.setIfInBounds_toArray, List.set_cons_zero, List.set_cons_succ]
  go_simp
  refine Calls.mono (CH.out _) ?_
  rintro e wc1 ⟨rfl, hc2⟩
  refine hK1.out _ _ (hHeld.step hc2) (fun hHeld => ?_)
  clear hK1 K1
  try simp only [Act.put, List.getElem_toArray, List.getElem_cons_succ, List.getElem_cons_zero, List.setIfInBounds_toArray, List.set_cons_zero, List.set_cons_succ]
  refine' wpAnyH_take (i := 8) (v := .agg D.toArray) rfl (by kernel_rfl) (by kernel_rfl) (by kernel_rfl) (fun _ _ _ h => h) (yieldsIf_buildL (by rfl) 30 [(0, .tmp 48), (1, .tmp 49), (2, .tmp 50), (3, .tmp 51), (4, .tmp 52), (5, .tmp 55)] rfl [(0, .int .i64 a), (1, .int .i64 k), (2, .int .i64 n), (3, .string body), (4, .agg (bRow p)), (5, .agg (bRow K))] rfl D.toArray Hbu.out) hHeld ?_
  try simp only [Act.put, List.getElem_toArray, List.getElem_cons_succ, List.getElem_cons_zero, List.setIfInBounds_toArray, List.set_cons_zero, List.set_cons_succ]
  refine wpAnyH_ready (rs := [9]) (by kernel_rfl) (by simp) (AllReadyH.cons rfl (fun K1 hK1 => ?_) AllReadyH.nil)
  try simp only [Act.put, List.getElem_toArray, List.getElem_cons_succ, List.getElem_cons_zero, List.setIfInBounds_toArray, List.set_cons_zero, List.set_cons_succ]
  obtain ⟨Z, hZl, hZr⟩ := hHeld.2.2
  rw [if_pos (by rfl)]
  refine wp_store_at 30 (.tmp 10) (.tmp 56) rfl (w.heap.size + 1) 0 D _ _ rfl rfl hZr (by have := HDL.out; omega) (by rw [rp_info, HDL.out]) HD1.out ?_
  intro ws3 hrS hgS
  rw [splice_all (HDL.out.trans hZl.symm)] at hrS
  have HrS := Lib.hid hrS
  have hHeld2 := hHeld.put hgS HDL.out hrS
  clear hrS hgS
  refine hK1.out _ _ (hHeld2) (fun hHeld => ?_)
  clear hK1 K1
  try simp only [Act.put, List.getElem_toArray, List.getElem_cons_succ, List.getElem_cons_zero, List.setIfInBounds_toArray, List.set_cons_zero, List.set_cons_succ]
  clear hHeld2
  refine wpAnyH_take (i := 10) (v := .int .i64 0) rfl (by kernel_rfl) (by kernel_rfl) (by kernel_rfl) (fun _ _ _ h => h) (Or.inl ⟨by rfl, fun w' hSw => by go_simp⟩) hHeld ?_
  try simp only [Act.put, List.getElem_toArray, List.getElem_cons_succ, List.getElem_cons_zero, List.setIfInBounds_toArray, List.set_cons_zero, List.set_cons_succ]
  refine wpAnyH_done (by kernel_rfl) ?_ _
  go_wp2_with fail
  have Hb9 := Lib.hid hHeld.1
  clear hHeld hu23 hi23
  refine bodyPost_ret (results_rowL rfl _ _ (w.heap.size + 1) 30 _ _ rfl HrS.out Tryd.underlying30 rfl (by rw [rp_info, List.size_toArray, HDL.out]) _ rfl) rfl ⟨rfl, Hb9.out⟩
set_option maxRecDepth 20000 in
set_option maxHeartbeats 1600000 in
theorem rlink5_y2 (hRS : RefSum) (a k n : Int) (body : ByteArray) (p : List UInt8) (hp : p.length = 32) (w : World) (b1 : (decide (0 ≤ a) && decide (a ≤ 1099511627776)) = true) (b2 : (decide (0 ≤ n) && decide (n ≤ 1099511627776)) = true) (k1 : (k != 1) = true) (k2 : (k != 2) = false) (s0 : ¬ ((656 : Int) < (body.size : Int))) :
    Calls Tryd.prog 23 #[.agg (bRow p), .int .i64 a, .int .i64 k, .int .i64 n, .string body] w fun e w' => e = .returned (.tuple #[.agg (Rp.linked ⟨a, k, n, body, p, Tx.zero⟩).cells.toArray, .int .i64 0]) ∧ Below w.heap.size w w' := by
  have HZL := Lib.hid (Rp.cells_len (r := Rp.zero) rfl rfl)
  have HZ1 := Lib.hid (Rp.cells_one (r := Rp.zero) rfl rfl)
  have hzv : ∀ W : World, (zeroValue 30).run Tryd.prog W = .ok (.agg Rp.zero.cells.toArray) W := fun W => by kernel_rfl
  have N1 := Lib.hid (within5_b a 1099511627776 _ b1)
  have N2 := Lib.hid (within5_b n 1099511627776 _ b2)
  obtain ⟨r, hr⟩ : ∃ r : Rp, r = ⟨a, k, n, body, p, Tx.zero⟩ := ⟨_, rfl⟩
  have hbu := rp_six a k n body p r.link hp (Rp.link_len r)
  have hD : Rp.cells ⟨a, k, n, body, p, r.link⟩ = r.linked.cells := by rw [hr]; rfl
  rw [hD] at hbu
  have hln : p.length = 32 ∧ r.link.length = 32 := ⟨hp, Rp.link_len r⟩
  have hbl := listE_len r.texts
  have hlk : Sha.sum (p ++ (Oct.listE r.texts).1) = r.link := by rw [hr]; rfl
  have CH : Hid (∀ W, Calls Tryd.prog 35 #[.agg (bRow p), S (Oct.listE r.texts).1] W fun e w' => e = .returned (.agg (bRow r.link)) ∧ Below W.heap.size W w') := fun W => by
    have := refChain_any hRS p ⟨(Oct.listE r.texts).1.toArray⟩ W hp (by show (Oct.listE r.texts).1.length ≤ _; omega)
    rw [show (⟨(Oct.listE r.texts).1.toArray⟩ : ByteArray).data.toList = (Oct.listE r.texts).1 from rfl, hlk] at this
    exact this
  have hc1 := b1
  have hc2 := b2
  simp at hc1 hc2
  have hkk : 0 ≤ k ∧ k ≤ 2 := by simp at k1 k2; omega
  have T0 := Lib.hid (fun W => text5_any a W hc1.1 (by omega))
  have T1 := Lib.hid (fun W => text5_any k W hkk.1 (by omega))
  have T2 := Lib.hid (fun W => text5_any n W hc2.1 (by omega))
  have LB : Hid (∀ (W : World) (g : Nat), Row W g 9 [S (Oct.num a.toNat), S (Oct.num k.toNat), S (Oct.num n.toNat), .string body] → Calls Tryd.prog 33 #[.slice (some ⟨g, 0, none⟩) 4 4] W fun e w' => e = .returned (.tuple #[S (Oct.listE r.texts).1, .int .i64 (Oct.listE r.texts).2]) ∧ Below W.heap.size W w') := fun W g h => list5_row r.texts h (by rw [hr]; rfl) 4 4 (by rw [hr]; rfl)
  have HDL := Lib.hid (Rp.cells_len (r := r.linked) (by rw [hr]; exact hp) (Rp.link_len r))
  have HD1 := Lib.hid (Rp.cells_one (r := r.linked) (by rw [hr]; exact hp) (Rp.link_len r))
  have HPL := Lib.hid (Tx.bRow_len _ hp)
  have Hrow0 := Lib.hid (Row.new w 28 (bRow p).toList)
  have hq : (Rp.linkE ⟨a, k, n, body, p, Tx.zero⟩) = Rp.linkE r := by rw [hr]
  show Calls _ _ _ _ _
  have hlc : (Rp.mk a k n body p Tx.zero).linked.cells = r.linked.cells := by rw [hr]
  rw [hlc]
  generalize (Oct.listE r.texts).2 = en at *
  generalize (Oct.listE r.texts).1 = ts at *
  generalize r.linked.cells = D at *
  generalize r.link = K at *
  generalize Oct.num a.toNat = t0 at *
  generalize Oct.num k.toNat = t1 at *
  generalize Oct.num n.toNat = t2 at *
  clear b1 b2 hc1 hc2 hkk hr hD hln hbl hlk hq hlc hp hRS
  have H2 := Lib.hid (row_two w (bRow p) Rp.zero.cells.toArray 28 30)
  have Hbu := Lib.hid hbu
  clear hbu
  go_enter Tryd.func23, Tryd.ntmps23
  go_wp2_with fail
  refine (N1.out _).mono ?_
  rintro _ w1 ⟨rfl, rfl⟩
  go_wp2_with fail
  refine (N2.out _).mono ?_
  rintro _ w1 ⟨rfl, rfl⟩
  go_wp2_with fail
  refine calls_named ?_
  intro w1 hw1
  have hb1 : Below w.heap.size w w1 := by rw [hw1]; exact H2.out.2.1
  have hr1 : Row w1 (w.heap.size + 1) 30 Rp.zero.cells := by rw [hw1]; exact H2.out.1
  have hh1 : Row w1 w.heap.size 28 (bRow p).toList := by rw [hw1]; exact H2.out.2.2
  have HI1 : Hid (LinkIn w w1 p) := ⟨hb1, hh1, _, HZL.out, hr1⟩
  clear hw1 hb1 hr1 hh1 H2 hzv
  refine (T0.out _).mono ?_
  rintro _ w2 ⟨rfl, hb2⟩
  have HI2 := Lib.hid (HI1.out.step hb2)
  clear hb2
  go_wp2_with fail
  refine (T1.out _).mono ?_
  rintro _ w3 ⟨rfl, hb3⟩
  have HI3 := Lib.hid (HI2.out.step hb3)
  clear hb3
  go_wp2_with fail
  refine (T2.out _).mono ?_
  rintro _ w4 ⟨rfl, hb4⟩
  have HI4 := Lib.hid (HI3.out.step hb4)
  clear hb4
  go_wp2_with fail
  refine calls_named ?_
  intro w5 hw5
  have hr5 : Row w5 w4.heap.size 9 [S t0, S t1, S t2, .string body] := by rw [hw5]; exact Row.new w4 9 [S t0, S t1, S t2, .string body]
  have HI5 : Hid (LinkIn w w5 p) := by rw [hw5]; exact HI4.out.step ((Below.refl _ _).alloc (Nat.le_refl _) _)
  clear hw5
  refine (LB.out w5 _ hr5).mono ?_
  rintro _ w6 ⟨rfl, hb6⟩
  have HS0 : Hid (LinkIn w w6.drew p) := (HI5.out.step hb6).step (Below.refl _ _).drew
  have hu23 := Tryd.underlying28
  have hi23 : (Tryd.prog.info? 28).map (·.size) = some (bRow p).toList.length := by rw [hash_info, HPL.out]
  clear hb6 hr5
  go_wp2_with fail
  refine wp_region_held_drew (S := fun w' => LinkIn w w' p) (by kernel_rfl) (HS0.out) (fun hHeld => ?_)
  generalize w6.drew = w9 at *
  refine wpAnyH_take (i := 0) (v := .int .i64 a) rfl (by kernel_rfl) (by kernel_rfl) (by kernel_rfl) (fun _ _ _ h => h) (Or.inl ⟨by rfl, fun w' hSw => by go_simp⟩) hHeld ?_
  try simp only [Act.put, List.getElem_toArray, List.getElem_cons_succ, List.getElem_cons_zero, List.setIfInBounds_toArray, List.set_cons_zero, List.set_cons_succ]
  refine wpAnyH_take (i := 1) (v := .int .i64 k) rfl (by kernel_rfl) (by kernel_rfl) (by kernel_rfl) (fun _ _ _ h => h) (Or.inl ⟨by rfl, fun w' hSw => by go_simp⟩) hHeld ?_
  try simp only [Act.put, List.getElem_toArray, List.getElem_cons_succ, List.getElem_cons_zero, List.setIfInBounds_toArray, List.set_cons_zero, List.set_cons_succ]
  refine wpAnyH_take (i := 2) (v := .int .i64 n) rfl (by kernel_rfl) (by kernel_rfl) (by kernel_rfl) (fun _ _ _ h => h) (Or.inl ⟨by rfl, fun w' hSw => by go_simp⟩) hHeld ?_
  try simp only [Act.put, List.getElem_toArray, List.getElem_cons_succ, List.getElem_cons_zero, List.setIfInBounds_toArray, List.set_cons_zero, List.set_cons_succ]
  refine wpAnyH_take (i := 3) (v := .string body) rfl (by kernel_rfl) (by kernel_rfl) (by kernel_rfl) (fun _ _ _ h => h) (Or.inl ⟨by rfl, fun w' hSw => by go_simp⟩) hHeld ?_
  try simp only [Act.put, List.getElem_toArray, List.getElem_cons_succ, List.getElem_cons_zero, List.setIfInBounds_toArray, List.set_cons_zero, List.set_cons_succ]
  refine' wpAnyH_take (i := 4) (v := _) rfl (by kernel_rfl) (by kernel_rfl) (by kernel_rfl) (fun _ _ _ h => h) (yieldsIf_load_mid (by rfl) _ _ rfl w.heap.size 0 rfl (bRow p).toList _ (fun w' hSw => (row_range hSw.2.1)) hu23 rfl hi23) hHeld ?_
  try simp only [Act.put, List.getElem_toArray, List.getElem_cons_succ, List.getElem_cons_zero, List.setIfInBounds_toArray, List.set_cons_zero, List.set_cons_succ]
  refine' wpAnyH_take (i := 5) (v := _) rfl (by kernel_rfl) (by kernel_rfl) (by kernel_rfl) (fun _ _ _ h => h) (yieldsIf_load_mid (by rfl) _ _ rfl w.heap.size 0 rfl (bRow p).toList _ (fun w' hSw => (row_range hSw.2.1)) hu23 rfl hi23) hHeld ?_
  try simp only [Act.put, List.getElem_toArray, List.getElem_cons_succ, List.getElem_cons_zero, List.setIfInBounds_toArray, List.set_cons_zero, List.set_cons_succ]
  refine wpAnyH_take (i := 6) (v := S ts) rfl (by kernel_rfl) (by kernel_rfl) (by kernel_rfl) (fun _ _ _ h => h) (Or.inl ⟨by rfl, fun w' hSw => by go_simp⟩) hHeld ?_
  try simp only [Act.put, List.getElem_toArray, List.getElem_cons_succ, List.getElem_cons_zero, List.setIfInBounds_toArray, List.set_cons_zero, List.set_cons_succ]
  refine wpAnyH_ready (rs := [7]) (by kernel_rfl) (by simp) (AllReadyH.cons rfl (fun K1 hK1 => ?_) AllReadyH.nil)
  try simp only [Act.put, List.getElem_toArray, List.getElem_cons_succ, List.getElem_cons_zero, List.setIfInBounds_toArray, List.set_cons_zero, List.set_cons_succ]
  go_simp
  refine Calls.mono (CH.out _) ?_
  rintro e wc1 ⟨rfl, hc2⟩
  refine hK1.out _ _ (hHeld.step hc2) (fun hHeld => ?_)
  clear hK1 K1
  try simp only [Act.put, List.getElem_toArray, List.getElem_cons_succ, List.getElem_cons_zero, List.setIfInBounds_toArray, List.set_cons_zero, List.set_cons_succ]
  refine' wpAnyH_take (i := 8) (v := .agg D.toArray) rfl (by kernel_rfl) (by kernel_rfl) (by kernel_rfl) (fun _ _ _ h => h) (yieldsIf_buildL (by rfl) 30 [(0, .tmp 48), (1, .tmp 49), (2, .tmp 50), (3, .tmp 51), (4, .tmp 52), (5, .tmp 55)] rfl [(0, .int .i64 a), (1, .int .i64 k), (2, .int .i64 n), (3, .string body), (4, .agg (bRow p)), (5, .agg (bRow K))] rfl D.toArray Hbu.out) hHeld ?_
  try simp only [Act.put, List.getElem_toArray, List.getElem_cons_succ, List.getElem_cons_zero, List.setIfInBounds_toArray, List.set_cons_zero, List.set_cons_succ]
  refine wpAnyH_ready (rs := [9]) (by kernel_rfl) (by simp) (AllReadyH.cons rfl (fun K1 hK1 => ?_) AllReadyH.nil)
  try simp only [Act.put, List.getElem_toArray, List.getElem_cons_succ, List.getElem_cons_zero, List.setIfInBounds_toArray, List.set_cons_zero, List.set_cons_succ]
  obtain ⟨Z, hZl, hZr⟩ := hHeld.2.2
  rw [if_pos (by rfl)]
  refine wp_store_at 30 (.tmp 10) (.tmp 56) rfl (w.heap.size + 1) 0 D _ _ rfl rfl hZr (by have := HDL.out; omega) (by rw [rp_info, HDL.out]) HD1.out ?_
  intro ws3 hrS hgS
  rw [splice_all (HDL.out.trans hZl.symm)] at hrS
  have HrS := Lib.hid hrS
  have hHeld2 := hHeld.put hgS HDL.out hrS
  clear hrS hgS
  refine hK1.out _ _ (hHeld2) (fun hHeld => ?_)
  clear hK1 K1
  try simp only [Act.put, List.getElem_toArray, List.getElem_cons_succ, List.getElem_cons_zero, List.setIfInBounds_toArray, List.set_cons_zero, List.set_cons_succ]
  clear hHeld2
  refine wpAnyH_take (i := 10) (v := .int .i64 0) rfl (by kernel_rfl) (by kernel_rfl) (by kernel_rfl) (fun _ _ _ h => h) (Or.inl ⟨by rfl, fun w' hSw => by go_simp⟩) hHeld ?_
  try simp only [Act.put, List.getElem_toArray, List.getElem_cons_succ, List.getElem_cons_zero, List.setIfInBounds_toArray, List.set_cons_zero, List.set_cons_succ]
  refine wpAnyH_done (by kernel_rfl) ?_ _
  go_wp2_with fail
  have Hb9 := Lib.hid hHeld.1
  clear hHeld hu23 hi23
  refine bodyPost_ret (results_rowL rfl _ _ (w.heap.size + 1) 30 _ _ rfl HrS.out Tryd.underlying30 rfl (by rw [rp_info, List.size_toArray, HDL.out]) _ rfl) rfl ⟨rfl, Hb9.out⟩
theorem rlink5_any (hRS : RefSum) (a k n : Int) (body : ByteArray) (p : List UInt8) (hp : p.length = 32) (w : World) :
    Calls Tryd.prog 23 #[.agg (bRow p), .int .i64 a, .int .i64 k, .int .i64 n, .string body] w fun e w' => e = .returned (Rp.pairV (Rp.linkE ⟨a, k, n, body, p, Tx.zero⟩)) ∧ Below w.heap.size w w' := by
  have hiff := Rp.ok_iff ⟨a, k, n, body, p, Tx.zero⟩
  simp only at hiff
  have yes : (Rp.mk a k n body p Tx.zero).ok = true → Rp.pairV (Rp.linkE ⟨a, k, n, body, p, Tx.zero⟩) = .tuple #[.agg (Rp.linked ⟨a, k, n, body, p, Tx.zero⟩).cells.toArray, .int .i64 0] := fun h => by unfold Rp.linkE; rw [if_pos h]; rfl
  have no : ¬ (Rp.mk a k n body p Tx.zero).ok = true → Rp.pairV (Rp.linkE ⟨a, k, n, body, p, Tx.zero⟩) = .tuple #[.agg Rp.zero.cells.toArray, .int .i64 2] := fun h => by unfold Rp.linkE; rw [if_neg h]; rfl
  rcases Bool.eq_false_or_eq_true (decide (0 ≤ a) && decide (a ≤ 1099511627776)) with b1 | b1
  · rcases Bool.eq_false_or_eq_true (decide (0 ≤ n) && decide (n ≤ 1099511627776)) with b2 | b2
    · have c1 := b1
      have c2 := b2
      simp at c1 c2
      rcases Bool.eq_false_or_eq_true (k != 1) with k1 | k1
      · have d1 := k1
        simp at d1
        rcases Bool.eq_false_or_eq_true (k != 2) with k2 | k2
        · have d2 := k2
          simp at d2
          rw [no (fun h => by rw [hiff] at h; omega)]; exact rlink5_n2 a k n body p hp w b1 b2 k1 k2
        · have d2 := k2
          simp at d2
          by_cases s0 : (656 : Int) < (body.size : Int)
          · rw [no (fun h => by rw [hiff] at h; omega)]; exact rlink5_n4 a k n body p hp w b1 b2 k1 k2 s0
          · rw [yes (by rw [hiff]; omega)]; exact rlink5_y2 hRS a k n body p hp w b1 b2 k1 k2 s0
      · have d1 := k1
        simp at d1
        by_cases s0 : (656 : Int) < (body.size : Int)
        · rw [no (fun h => by rw [hiff] at h; omega)]; exact rlink5_n3 a k n body p hp w b1 b2 k1 s0
        · rw [yes (by rw [hiff]; omega)]; exact rlink5_y1 hRS a k n body p hp w b1 b2 k1 s0
    · have c2 := b2
      simp at c2
      rw [no (fun h => by rw [hiff] at h; omega)]; exact rlink5_n1 a k n body p hp w b1 b2
  · have c1 := b1
    simp at c1
    rw [no (fun h => by rw [hiff] at h; omega)]; exact rlink5_n0 a k n body p hp w b1
end Go.Proofs.YtgdijbcoacgadaaDoor
namespace Go.Proofs.YtgdijbcoacgadaaDoor
open Go.RowKit
set_option linter.unusedVariables false
set_option linter.unusedSimpArgs false

namespace Rp
end Rp
end Go.Proofs.YtgdijbcoacgadaaDoor

/- ---- NoG ---- -/
/- The reference of layer 5: a part's text. -/
/- The reference of layer 5: WriteBatch. -/
namespace Go.Proofs.YtgdijbcoacgadaaDoor
open Go.RowKit
set_option linter.unusedVariables false
set_option linter.unusedSimpArgs false

end Go.Proofs.YtgdijbcoacgadaaDoor
namespace Go.Proofs.YtgdijbcoacgadaaDoor
open Go.RowKit
set_option linter.unusedVariables false
set_option linter.unusedSimpArgs false

structure Bt.Fits (b : Bt) : Prop where
  seq : Tx.fits b.seq
  first : Tx.fits b.first
  before : Tx.fits b.before
  texts : ∀ p ∈ b.parts, p.2.length ≤ 140737488351232
end Go.Proofs.YtgdijbcoacgadaaDoor

/- ---- NoBlocks ---- -/
/- Blocks that a walk holds: each with what it holds, all made since the call began. -/
namespace Go.Proofs.YtgdijbcoacgadaaDoor
open Go.RowKit
set_option linter.unusedVariables false
set_option linter.unusedSimpArgs false

theorem Row.type {w : World} {B : Nat} {t u : TypeId} {xs ys : List Value} (h : Row w B t xs) (k : Row w B u ys) : t = u := by
  unfold Row at h k
  rw [h] at k
  injection k with k
  injection k
/-- what is in the blocks of a list -/
def Blocks (w0 W : World) (l : List (Nat × TypeId × List Value)) : Prop := Below w0.heap.size w0 W ∧ ∀ x ∈ l, Row W x.1 x.2.1 x.2.2
namespace Blocks
variable {w0 W W' : World} {l : List (Nat × TypeId × List Value)} {g : Nat} {T : TypeId} {C : List Value}
theorem nil (h : Below w0.heap.size w0 W) : Blocks w0 W [] := ⟨h, by simp⟩
theorem step (h : Blocks w0 W l) (hb : Below W.heap.size W W') : Blocks w0 W' l := ⟨two_below' h.1 hb, fun x hx => (h.2 x hx).kept (grownBy_of_below hb none) (by simp)⟩
theorem drew (h : Blocks w0 W l) : Blocks w0 W.drew l := h.step (Below.refl _ _).drew
theorem alloc (h : Blocks w0 W l) (o : Obj) : Blocks w0 (W.alloc o) l := h.step ((Below.refl _ _).alloc (Nat.le_refl _) o)
theorem put (h : Blocks w0 W l) (hg : W.grownBy W' (some g)) (hs : w0.heap.size ≤ g) (hn : ∀ x ∈ l, x.1 ≠ g) : Blocks w0 W' l :=
  ⟨h.1.grown hg h.1.size (fun k hk => by cases hk; exact hs), fun x hx => (h.2 x hx).kept hg (by have := hn x hx; simpa using this)⟩
theorem cons (h : Blocks w0 W l) (hr : Row W g T C) : Blocks w0 W ((g, T, C) :: l) := ⟨h.1, fun x hx => by
  rcases List.mem_cons.1 hx with rfl | hx
  · exact hr
  · exact h.2 x hx⟩
theorem size (h : Blocks w0 W l) : w0.heap.size ≤ W.heap.size := h.1.size
theorem fresh (h : Blocks w0 W l) : ∀ x ∈ l, x.1 ≠ W.heap.size := fun x hx => by have := (h.2 x hx).lt; omega
theorem hd (h : Blocks w0 W ((g, T, C) :: l)) : Row W g T C := h.2 (g, T, C) List.mem_cons_self
theorem tl (h : Blocks w0 W ((g, T, C) :: l)) : Blocks w0 W l := ⟨h.1, fun x hx => h.2 x (List.mem_cons_of_mem _ hx)⟩
/-- a block of another type is none of them -/
theorem other (h : Blocks w0 W l) (hr : Row W g T C) (ht : ∀ x ∈ l, x.2.1 ≠ T) : ∀ x ∈ l, x.1 ≠ g := fun x hx e => ht x hx ((h.2 x hx).type (e ▸ hr))
end Blocks
end Go.Proofs.YtgdijbcoacgadaaDoor

/- ---- NoRf1 ---- -/
/- The reference of layer 4 and 5: List, Number, numbers. -/
namespace Go.Proofs.YtgdijbcoacgadaaDoor
open Go.RowKit
set_option linter.unusedVariables false
set_option linter.unusedSimpArgs false

def NumIs (s : List UInt8) (x n : Int) : Prop := (n = 0 ∧ Tx.numAll s = some x) ∨ ((n != 0) = true ∧ Tx.numAll s = none)
def ListIs (s : List UInt8) (L : List (List UInt8)) (n : Int) : Prop := (n = 0 ∧ Tx.listAll s = some L) ∨ ((n != 0) = true ∧ Tx.listAll s = none ∧ L = [])
set_option maxRecDepth 20000 in
/-- a number that is all of a text -/
theorem rnumber4_any (s : ByteArray) (w : World) (hs : s.size ≤ 140737488351232) :
    Calls Tryd.prog 37 #[.string s] w fun e w' => ∃ (x n : Int), e = .returned (.tuple #[.int .i64 x, .int .i64 n]) ∧ NumIs s.data.toList x n ∧ w = w' := by
  have RN := refReadNumber_any s 0 w hs
  have hq : (s.data.toList.length : Int) = (s.size : Int) := by rw [Array.length_toList]; rfl
  unfold rdNumV three at RN
  have hN : ∀ x n : Int, ((n = 0 ∧ (if (Oct.rdNum s.data.toList 0).2.2 = 0 ∧ (Oct.rdNum s.data.toList 0).2.1 = s.data.toList.length then some (Oct.rdNum s.data.toList 0).1 else none) = some x) ∨ ((n != 0) = true ∧ (if (Oct.rdNum s.data.toList 0).2.2 = 0 ∧ (Oct.rdNum s.data.toList 0).2.1 = s.data.toList.length then some (Oct.rdNum s.data.toList 0).1 else none) = none)) → NumIs s.data.toList x n := fun x n h => h
  rcases hrd : Oct.rdNum s.data.toList 0 with ⟨x, q, n⟩
  have hok := Oct.rdNum_ok hrd
  rw [hrd, hq] at hN
  rw [hrd] at RN
  simp only at RN hN
  rw [hq] at hok
  have HRN := Lib.hid RN
  have HNm := Lib.hid hN
  clear RN hrd hq hN
  rcases hok with ⟨hn, rfl, rfl⟩ | ⟨rfl, _, _, _, _, hqs, _⟩
  · have d0 : (n == 0) = false := by simpa using hn
    have HE : Hid ((n != 0) = true) := Lib.hid (by simpa using hn)
    go_enter Tryd.func37, Tryd.ntmps37
    go_wp2_with fail
    refine HRN.out.mono ?_
    rintro _ w1 ⟨rfl, rfl⟩
    go_wp2_with fail
    go_ret2
    exact ⟨0, n, rfl, HNm.out _ _ (.inr ⟨HE.out, if_neg (fun h => hn h.1)⟩), rfl⟩
  · by_cases hlt : q < (s.size : Int)
    · have hne : q ≠ (s.size : Int) := by omega
      have HNe := Lib.hid hne
      clear hne hqs
      go_enter Tryd.func37, Tryd.ntmps37
      go_wp2_with fail
      refine HRN.out.mono ?_
      rintro _ w1 ⟨rfl, rfl⟩
      go_wp2_with fail
      go_ret2
      exact ⟨0, 6, rfl, HNm.out _ _ (.inr ⟨rfl, if_neg (fun h => HNe.out h.2)⟩), rfl⟩
    · obtain rfl : q = (s.size : Int) := by omega
      clear hlt hqs
      go_enter Tryd.func37, Tryd.ntmps37
      go_wp2_with fail
      refine HRN.out.mono ?_
      rintro _ w1 ⟨rfl, rfl⟩
      go_wp2_with fail
      go_ret2
      exact ⟨x, 0, rfl, HNm.out _ _ (.inl ⟨rfl, by simp⟩), rfl⟩
set_option maxRecDepth 20000 in
/-- a list that is all of a text -/
theorem rlist4_any (s : ByteArray) (w : World) (hs : s.size ≤ 140737488351232) :
    Calls Tryd.prog 36 #[.string s] w fun e w' => ∃ (L : List (List UInt8)) (v : Value) (n : Int), e = .returned (.tuple #[v, .int .i64 n]) ∧ TextsV w' v L ∧ ListIs s.data.toList L n ∧ Below w.heap.size w w' := by
  have RN := refReadList_any s 0 w hs
  have hq : (s.data.toList.length : Int) = (s.size : Int) := by rw [Array.length_toList]; rfl
  unfold ListEnds at RN
  have hN : ∀ (L : List (List UInt8)) (n : Int), ((n = 0 ∧ (if (Oct.rdList s.data.toList 0).2.2 = 0 ∧ (Oct.rdList s.data.toList 0).2.1 = s.data.toList.length then some (Oct.rdList s.data.toList 0).1 else none) = some L) ∨ ((n != 0) = true ∧ (if (Oct.rdList s.data.toList 0).2.2 = 0 ∧ (Oct.rdList s.data.toList 0).2.1 = s.data.toList.length then some (Oct.rdList s.data.toList 0).1 else none) = none ∧ L = [])) → ListIs s.data.toList L n := fun x n h => h
  rcases hrd : Oct.rdList s.data.toList 0 with ⟨L, q, n⟩
  have hok := Oct.rdList_ok hrd
  rw [hrd, hq] at hN
  rw [hrd] at RN
  simp only at RN hN
  rw [hq] at hok
  have HRN := Lib.hid RN
  have HNm := Lib.hid hN
  clear RN hrd hq hN
  have nilV : ∀ W : World, TextsV W (.slice none 0 0) [] := fun W => ⟨none, 0, rfl, fun h => absurd rfl h⟩
  have HNV := Lib.hid nilV
  clear nilV
  rcases hok with ⟨hn, rfl, rfl⟩ | ⟨rfl, _, _, hqs, _⟩
  · have d0 : (n == 0) = false := by simpa using hn
    have HE : Hid ((n != 0) = true) := Lib.hid (by simpa using hn)
    go_enter Tryd.func36, Tryd.ntmps36
    go_wp2_with fail
    refine HRN.out.mono ?_
    rintro _ w1 ⟨v, rfl, hT, hb⟩
    have HT := Lib.hid hT
    have HB := Lib.hid hb
    clear hT hb
    go_wp2_with fail
    go_ret2
    exact ⟨[], v, n, rfl, HT.out, HNm.out _ _ (.inr ⟨HE.out, if_neg (fun h => hn h.1), rfl⟩), HB.out⟩
  · by_cases hlt : q < (s.size : Int)
    · have hne : q ≠ (s.size : Int) := by omega
      have HNe := Lib.hid hne
      clear hne hqs
      go_enter Tryd.func36, Tryd.ntmps36
      go_wp2_with fail
      refine HRN.out.mono ?_
      rintro _ w1 ⟨v, rfl, hT, hb⟩
      have HB := Lib.hid hb
      clear hT hb
      go_wp2_with fail
      go_ret2
      exact ⟨[], _, 6, rfl, HNV.out _, HNm.out _ _ (.inr ⟨rfl, if_neg (fun h => HNe.out h.2), rfl⟩), HB.out⟩
    · obtain rfl : q = (s.size : Int) := by omega
      clear hlt hqs
      go_enter Tryd.func36, Tryd.ntmps36
      go_wp2_with fail
      refine HRN.out.mono ?_
      rintro _ w1 ⟨v, rfl, hT, hb⟩
      have HT := Lib.hid hT
      have HB := Lib.hid hb
      clear hT hb
      go_wp2_with fail
      go_ret2
      exact ⟨L, v, 0, rfl, HT.out, HNm.out _ _ (.inl ⟨rfl, by simp⟩), HB.out⟩
namespace No
end No
end Go.Proofs.YtgdijbcoacgadaaDoor

/- ---- NoRf3 ---- -/
/- The reference of layer 4: Hash. -/
namespace Go.Proofs.YtgdijbcoacgadaaDoor
open Go.RowKit
set_option linter.unusedVariables false
set_option linter.unusedSimpArgs false

theorem bRow_put (l : List UInt8) (h : l.length < 32) (b : UInt8) : (bRow l).toList.set l.length (Value.int .u8 (b.toNat : Int)) = (bRow (l ++ [b])).toList := by
  rw [← bRow_set l h b _ rfl, Array.toList_setIfInBounds]
theorem bRow_len' (l : List UInt8) (h : l.length ≤ 32) : (bRow l).toList.length = 32 := by rw [Array.length_toList]; exact bRow_size l h
theorem bRow_nil : bRow [] = bRow Tx.zero := by kernel_rfl
set_option maxRecDepth 20000 in
set_option maxHeartbeats 800000 in
theorem hash4_any (s : ByteArray) (w : World) (hs : s.size = 32) :
    Calls Tryd.prog 38 #[.string s] w fun e w' => e = .returned (.agg (bRow s.data.toList)) ∧ Below w.heap.size w w' := by
  have hl : s.data.toList.length = 32 := hs
  have hg : ∀ k (h : k < s.size), s.data.toList[k]? = some (s[k]'h) := fun k h => List.getElem?_eq_getElem h
  have HLn := Lib.hid hl
  have HG := Lib.hid hg
  have HZL : Hid ((bRow Tx.zero).toList.length = 32) := Lib.hid (Tx.bRow_len Tx.zero rfl)
  have HH1 : Hid (∀ v ∈ (bRow Tx.zero).toList, v.oneCell' = true) := Lib.hid (hash_one _ rfl)
  have HF1 : Hid (∀ v ∈ (bRow s.data.toList).toList, v.oneCell' = true) := Lib.hid (hash_one _ hl)
  have HFL : Hid ((bRow s.data.toList).toList.length = 32) := Lib.hid (Tx.bRow_len _ hl)
  obtain ⟨rB, hb2, rA⟩ := row_two w (bRow Tx.zero) (bRow Tx.zero) 28 28
  have HrA := Lib.hid rA
  have HrB := Lib.hid rB
  have Hb2 := Lib.hid hb2
  have hzh := hash_zv
  generalize s.data.toList = l at *
  clear hl hg rB rA hb2
  go_enter Tryd.func38, Tryd.ntmps38
  go_wp2_with (first
    | ((with_reducible show wpList _ _ _ (⟨_, .build 28 _, _, _, _, _⟩ :: _) _ _); refine wpList_buildL rfl 28 [] rfl (some 5) rfl [] rfl (bRow Tx.zero) hash_built ?_)
    | (with_reducible show wpList _ _ _ (⟨_, .store 28 (.tmp 3) _, _, _, _, _⟩ :: _) _ _
       refine wpList_store_at rfl 28 (.tmp 3) (.tmp 5) rfl (w.heap.size + 1) 0 (bRow Tx.zero).toList _ _ rfl rfl HrB.out (by have := HZL.out; omega) (by rw [hash_info, HZL.out]) HH1.out ?_
       intro w2 hr2 hg2
       rw [splice_all rfl] at hr2
       have HrB2 := Lib.hid hr2
       have HrA2 := Lib.hid (HrA.out.kept hg2 (by simp))
       have HbA2 := Lib.hid (below_own Hb2.out hg2 (fun k hk => by cases hk; omega))
       clear hr2 hg2))
  go_loopw [4] (fun i wr => ∃ k : Nat, k ≤ 32 ∧ i = .int .i64 k ∧ Row wr w.heap.size 28 (bRow Tx.zero).toList ∧ Row wr (w.heap.size + 1) 28 (bRow (l.take k)).toList ∧ Below w.heap.size w wr) (fun i _ => 32 - (intOf i).toNat)
  case atStart => exact ⟨0, Nat.zero_le _, rfl, HrA2.out, by rw [List.take_zero, bRow_nil]; exact HrB2.out, HbA2.out⟩
  case round =>
    obtain ⟨k, hk, rfl, hA, hB, hb⟩ := hrel
    clear HrA2 HrB2 HbA2
    have htl : (l.take k).length = k := by rw [List.length_take, HLn.out]; omega
    by_cases hlt : k < 32
    · have hki : (k : Int) < 32 := by omega
      have hks : k < s.size := by omega
      have hki2 : (k : Int) < (s.size : Int) := by omega
      have hcell : wr.cell? ⟨w.heap.size + 1, k, none⟩ = some (.int .u8 0) := by
        have h1 := bRow_free (l.take k) (by omega)
        rw [htl] at h1
        rw [hB.cell k (by rw [bRow_len' _ (by omega)]; exact hlt)]
        obtain ⟨h2, h3⟩ := Array.getElem?_eq_some_iff.1 h1
        rw [← h3]; simp
      have hfree := hB.free k
      have hset := hB.set k (.int .u8 ((s[k]'hks).toNat : Int)) (by rw [bRow_len' _ (by omega)]; exact hlt)
      have hput := bRow_put (l.take k) (by omega) (s[k]'hks)
      rw [htl] at hput
      have htk : l.take k ++ [s[k]'hks] = l.take (k + 1) := by
        rw [List.take_add_one, HG.out k hks]; rfl
      rw [hput, htk] at hset
      have HA := Lib.hid (hA.kept (grownBy_set wr (w.heap.size + 1) k (.int .u8 ((s[k]'hks).toNat : Int))) (by simp))
      have HS := Lib.hid hset
      have HB := Lib.hid (hb.grown (grownBy_set wr (w.heap.size + 1) k (.int .u8 ((s[k]'hks).toNat : Int))) hb.size (fun j hj => by cases hj; omega))
      clear hA hB hb hset hput htk htl
      go_wp2_with fail
      exact ⟨⟨k + 1, by omega, by go_num, HA.out, HS.out, HB.out⟩, by simp [intOf]; omega⟩
    · obtain rfl : k = 32 := by omega
      rw [List.take_of_length_le (by rw [HLn.out]; omega)] at hB
      have HrF := Lib.hid hB
      have HrR := Lib.hid hA
      have HB := Lib.hid hb
      clear hA hB hb htl
      go_wp2_with (first
        | (with_reducible show wpList _ _ _ (⟨_, .load 28 (.tmp 3), _, _, _, _⟩ :: _) _ _; refine wpList_load_tx rfl 28 (.tmp 3) rfl (w.heap.size + 1) 0 rfl (bRow l).toList _ (row_range HrF.out) Tryd.underlying28 rfl (by rw [hash_info, HFL.out]) ?_)
        | (with_reducible show wpList _ _ _ (⟨_, .store 28 (.tmp 2) _, _, _, _, _⟩ :: _) _ _
           refine wpList_store_at rfl 28 (.tmp 2) (.tmp 15) rfl w.heap.size 0 (bRow l).toList _ _ rfl rfl HrR.out (by have := HZL.out; have := HFL.out; omega) (by rw [hash_info, HFL.out]) HF1.out ?_
           intro w3 hr3 hg3
           rw [splice_all (HFL.out.trans HZL.out.symm)] at hr3
           have Hr3 := Lib.hid hr3
           have Hb3 := Lib.hid (below_own HB.out hg3 (fun k hk => by cases hk; exact Nat.le_refl _))
           clear hr3 hg3))
      have hT5 : w3.heap[w.heap.size]? = some (.cells (bRow l) 28 (0, 0)) := Hr3.out
      exact bodyPost_ret (results_cell_row rfl _ _ w.heap.size 28 _ (0, 0) _ rfl hT5 Tryd.underlying28 rfl (by rw [hash_info, ← Array.length_toList, HFL.out])) rfl ⟨rfl, Hb3.out⟩
end Go.Proofs.YtgdijbcoacgadaaDoor
