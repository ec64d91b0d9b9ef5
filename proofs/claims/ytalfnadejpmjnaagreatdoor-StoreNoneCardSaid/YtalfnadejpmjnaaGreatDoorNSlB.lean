/- What later texts need of the earlier layers. -/
import Derived.Test.YtalfnadejpmjnaaGreatDoorNSlO
import Derived.Test.YtalfnadejpmjnaaGreatDoorNSlS
import Derived.Test.YtalfnadejpmjnaaGreatDoorNSlT
import Derived.Test.YtalfnadejpmjnaaGreatDoorNSlC
import Derived.Test.YtalfnadejpmjnaaGreatDoorNSlA
import Derived.Laws.ResultCell
import Derived.Laws.Tables
import Derived.BigQuiet
/- ---- SlB ---- -/
/- What later texts need of the earlier layers. -/
/- ---- NoItemR ---- -/
/- notes: ReadItem. -/
namespace Go.Proofs.YtalfnadejpmjnaaGreatDoor
open Go.RowKit
set_option linter.unusedVariables false
set_option linter.unusedSimpArgs false

namespace It
theorem cells_len (i : It) : i.cells.length = 4 := rfl
theorem cells_one (i : It) : ∀ v ∈ i.cells, v.oneCell' = true := by
  intro v hv
  simp [cells] at hv
  rcases hv with rfl | rfl | rfl | rfl <;> rfl
end It
end Go.Proofs.YtalfnadejpmjnaaGreatDoor

/- ---- NoB ---- -/
/- notes: bidMayBe, bidNumbers, WriteBid. -/
/- notes: SignBid, CheckBid. -/
/- notes: ReadBid. -/
namespace Go.Proofs.YtalfnadejpmjnaaGreatDoor
open Go.RowKit
set_option linter.unusedVariables false
set_option linter.unusedSimpArgs false

namespace Bd
theorem cells_len {b : Bd} (h : b.tag.length = 32) : b.cells.length = 36 := by
  unfold cells
  simp only [List.length_append, Tx.bRow_len _ h, List.length_cons, List.length_nil]
theorem cells_one {b : Bd} (h : b.tag.length = 32) : ∀ v ∈ b.cells, v.oneCell' = true := by
  intro v hv
  unfold cells at hv
  rcases List.mem_append.1 hv with h1 | h1
  · simp at h1
    rcases h1 with rfl | rfl | rfl | rfl <;> rfl
  · exact hash_one _ h v h1
end Bd
end Go.Proofs.YtalfnadejpmjnaaGreatDoor
namespace Go.Proofs.YtalfnadejpmjnaaGreatDoor
open Go.RowKit
set_option linter.unusedVariables false
set_option linter.unusedSimpArgs false

namespace Bd
def pairV (x : Bd × Int) : Value := .tuple #[.agg x.1.cells.toArray, .int .i64 x.2]
end Bd
end Go.Proofs.YtalfnadejpmjnaaGreatDoor
namespace Go.Proofs.YtalfnadejpmjnaaGreatDoor
open Go.RowKit
set_option linter.unusedVariables false
set_option linter.unusedSimpArgs false

namespace Bd
end Bd
end Go.Proofs.YtalfnadejpmjnaaGreatDoor

/- ---- NoF ---- -/
/- notes: batchMayBe. -/
/- notes: WriteBatch. -/
namespace Go.Proofs.YtalfnadejpmjnaaGreatDoor
open Go.RowKit
set_option linter.unusedVariables false
set_option linter.unusedSimpArgs false

/-- parts in memory -/
def PartsAt (w : World) (B : Nat) (A : Option Addr) (P : List Pt) : Prop :=
  P ≠ [] → ∃ b off, A = some ⟨b, off, none⟩ ∧ b < B ∧ ∀ i (h : i < P.length), w.cell? ⟨b, off + i * 2, none⟩ = some (.bool (P[i]).1) ∧ w.cell? ⟨b, off + i * 2 + 1, none⟩ = some (S (P[i]).2)
theorem PartsAt.grown {w w' : World} {B : Nat} {A : Option Addr} {P : List Pt} {r : Option Nat} (h : PartsAt w B A P) (hg : w.grownBy w' r) (hr : ∀ k, r = some k → B ≤ k) : PartsAt w' B A P := fun hne => by
  obtain ⟨b, off, h1, h2, h3⟩ := h hne
  have hne : some b ≠ r := fun e => by have := hr b e.symm; omega
  exact ⟨b, off, h1, h2, fun i hi => ⟨hg.cell (h3 i hi).1 hne, hg.cell (h3 i hi).2 hne⟩⟩
theorem PartsAt.mono {w : World} {B B' : Nat} {A : Option Addr} {P : List Pt} (h : PartsAt w B A P) (hB : B ≤ B') : PartsAt w B' A P := fun hne => by
  obtain ⟨b, off, h1, h2, h3⟩ := h hne
  exact ⟨b, off, h1, by omega, h3⟩
/-- a batch's cells -/
def Bt.cells (b : Bt) (A : Option Addr) (cap : Nat) : List Value := [.int .i64 b.seq, .int .i64 b.first, .int .i64 b.before, .slice A b.parts.length cap]
end Go.Proofs.YtalfnadejpmjnaaGreatDoor
namespace Go.Proofs.YtalfnadejpmjnaaGreatDoor
open Go.RowKit
set_option linter.unusedVariables false
set_option linter.unusedSimpArgs false

end Go.Proofs.YtalfnadejpmjnaaGreatDoor

/- ---- NoD ---- -/
/- The reference of layer 5: within, text, list, Item, WriteItem. -/
/- The reference of layer 5: bids. -/
namespace Go.Proofs.YtalfnadejpmjnaaGreatDoor
open Go.RowKit
set_option linter.unusedVariables false
set_option linter.unusedSimpArgs false

end Go.Proofs.YtalfnadejpmjnaaGreatDoor
namespace Go.Proofs.YtalfnadejpmjnaaGreatDoor
open Go.RowKit
set_option linter.unusedVariables false
set_option linter.unusedSimpArgs false

namespace Bd
end Bd
end Go.Proofs.YtalfnadejpmjnaaGreatDoor

/- ---- NoC ---- -/
/- notes: linked, receiptTexts, link, Link. -/
/- notes: Link, WriteReceipt. -/
/- notes: WriteReceipt. -/
namespace Go.Proofs.YtalfnadejpmjnaaGreatDoor
open Go.RowKit
set_option linter.unusedVariables false
set_option linter.unusedSimpArgs false

theorem rp_info : (Tryz.prog.info? 64).map (·.size) = some 68 := by kernel_rfl
namespace Rp
theorem cells_len {r : Rp} (h : r.prev.length = 32) (h2 : r.hash.length = 32) : r.cells.length = 68 := by
  unfold cells
  simp only [List.length_append, Tx.bRow_len _ h, Tx.bRow_len _ h2, List.length_cons, List.length_nil]
theorem cells_one {r : Rp} (h : r.prev.length = 32) (h2 : r.hash.length = 32) : ∀ v ∈ r.cells, v.oneCell' = true := by
  intro v hv
  unfold cells at hv
  rcases List.mem_append.1 hv with h1 | h1
  · simp at h1
    rcases h1 with rfl | rfl | rfl | rfl <;> rfl
  · rcases List.mem_append.1 h1 with h3 | h3
    · exact hash_one _ h v h3
    · exact hash_one _ h2 v h3
theorem cells_prev {r : Rp} (h : r.prev.length = 32) : (r.cells.drop 4).take 32 = (bRow r.prev).toList := by
  show (((bRow r.prev).toList ++ (bRow r.hash).toList)).take 32 = _
  rw [List.take_append_of_le_length (by rw [Tx.bRow_len _ h]; omega), List.take_of_length_le (by rw [Tx.bRow_len _ h]; omega)]
theorem cells_hash {r : Rp} (h : r.prev.length = 32) : r.cells.drop 36 = (bRow r.hash).toList := by
  have e : r.cells.drop 36 = ((bRow r.prev).toList ++ (bRow r.hash).toList).drop 32 := rfl
  rw [e, List.drop_left' (Tx.bRow_len _ h)]
theorem put_hash {r : Rp} (h : r.prev.length = 32) (h2 : r.hash.length = 32) (R : List UInt8) (hR : R.length = 32) : r.cells.take 36 ++ ((bRow R).toList ++ r.cells.drop (36 + (bRow R).toList.length)) = Rp.cells { r with hash := R } := by
  rw [List.drop_of_length_le (by rw [cells_len h h2, Tx.bRow_len R hR]; omega), List.append_nil]
  have e : r.cells.take 36 = [Value.int .i64 r.index, .int .i64 r.kind, .int .i64 r.time, .string r.body] ++ (bRow r.prev).toList := by
    unfold cells
    rw [List.take_append, List.take_of_length_le (by simp), show ([Value.int .i64 r.index, .int .i64 r.kind, .int .i64 r.time, .string r.body] : List Value).length = 4 from rfl, List.take_append_of_le_length (by rw [Tx.bRow_len _ h]; omega), List.take_of_length_le (by rw [Tx.bRow_len _ h]; omega)]
  rw [e, List.append_assoc]
  rfl
def pairV (x : Rp × Int) : Value := .tuple #[.agg x.1.cells.toArray, .int .i64 x.2]
end Rp
theorem Rp.zero_built0 : Tryz.prog.built 64 [] = some Rp.zero.cells.toArray := by kernel_rfl
theorem rp_box {W : World} {g : Nat} {T : TypeId} {r : Rp} (h : Row W g T r.cells) : W.cell? ⟨g, 0, none⟩ = some (.int .i64 r.index) ∧ W.cell? ⟨g, 1, none⟩ = some (.int .i64 r.kind) ∧ W.cell? ⟨g, 2, none⟩ = some (.int .i64 r.time) ∧ W.cell? ⟨g, 3, none⟩ = some (.string r.body) :=
  ⟨h.cell 0 (by simp [Rp.cells]), h.cell 1 (by simp [Rp.cells]), h.cell 2 (by simp [Rp.cells]), h.cell 3 (by simp [Rp.cells])⟩
theorem rp_prev {W : World} {g : Nat} {T : TypeId} {r : Rp} (hp : r.prev.length = 32) (h : Row W g T r.cells) : W.rangeAt g 4 (bRow r.prev).toList := by
  intro j v hv
  have hj : j < 32 := by have := (List.getElem?_eq_some_iff.1 hv).1; rw [Tx.bRow_len _ hp] at this; exact this
  have e : r.cells[4 + j]? = some v := by rw [← hv, ← Rp.cells_prev hp, List.getElem?_take_of_lt hj, List.getElem?_drop]
  obtain ⟨hlt, he⟩ := List.getElem?_eq_some_iff.1 e
  rw [h.cell _ hlt, he]
theorem rp_hash {W : World} {g : Nat} {T : TypeId} {r : Rp} (hp : r.prev.length = 32) (h : Row W g T r.cells) : W.rangeAt g 36 (bRow r.hash).toList := by
  intro j v hv
  have e : r.cells[36 + j]? = some v := by rw [← hv, ← Rp.cells_hash hp, List.getElem?_drop]
  obtain ⟨hlt, he⟩ := List.getElem?_eq_some_iff.1 e
  rw [h.cell _ hlt, he]
set_option maxRecDepth 20000 in
theorem linked_a0 (r : Rp) (w : World) (k1 : (r.kind == 1) = true) (h0 : Tx.num r.index = false) :
    Calls Tryz.prog 112 #[.agg r.cells.toArray] w fun e w' => e = .returned (.bool false) ∧ Below w.heap.size w w' := by
  obtain ⟨c0, c1, c2, c3⟩ := rp_box (Row.new w 64 r.cells)
  have N0 : Hid (∀ W, Calls Tryz.prog 150 #[.int .i64 r.index] W fun e w' => e = .returned (.bool false) ∧ W = w') := fun W => by have := nnumber_any r.index W; rw [h0] at this; exact this
  clear h0
  generalize r.cells = C at *
  go_enter Tryz.func112, Tryz.ntmps112
  go_wp2_with fail
  refine (N0.out _).mono ?_
  rintro _ w1 ⟨rfl, rfl⟩
  go_wp2_with fail
  go_ret
  exact ⟨by first | rfl | (simp; done) | (simp; omega), (Below.refl w.heap.size w).alloc (Nat.le_refl _) _⟩
set_option maxRecDepth 20000 in
theorem linked_a1 (r : Rp) (w : World) (k1 : (r.kind == 1) = true) (h0 : Tx.num r.index = true) (h1 : Tx.num r.time = false) :
    Calls Tryz.prog 112 #[.agg r.cells.toArray] w fun e w' => e = .returned (.bool false) ∧ Below w.heap.size w w' := by
  obtain ⟨c0, c1, c2, c3⟩ := rp_box (Row.new w 64 r.cells)
  have N0 : Hid (∀ W, Calls Tryz.prog 150 #[.int .i64 r.index] W fun e w' => e = .returned (.bool true) ∧ W = w') := fun W => by have := nnumber_any r.index W; rw [h0] at this; exact this
  have N1 : Hid (∀ W, Calls Tryz.prog 150 #[.int .i64 r.time] W fun e w' => e = .returned (.bool false) ∧ W = w') := fun W => by have := nnumber_any r.time W; rw [h1] at this; exact this
  clear h0 h1
  generalize r.cells = C at *
  go_enter Tryz.func112, Tryz.ntmps112
  go_wp2_with fail
  refine (N0.out _).mono ?_
  rintro _ w1 ⟨rfl, rfl⟩
  go_wp2_with fail
  refine (N1.out _).mono ?_
  rintro _ w1 ⟨rfl, rfl⟩
  go_wp2_with fail
  go_ret
  exact ⟨by first | rfl | (simp; done) | (simp; omega), (Below.refl w.heap.size w).alloc (Nat.le_refl _) _⟩
set_option maxRecDepth 20000 in
theorem linked_a2 (r : Rp) (w : World) (k1 : (r.kind == 1) = true) (h0 : Tx.num r.index = true) (h1 : Tx.num r.time = true) (h2 : ¬ (r.body.size : Int) ≤ 656) :
    Calls Tryz.prog 112 #[.agg r.cells.toArray] w fun e w' => e = .returned (.bool false) ∧ Below w.heap.size w w' := by
  obtain ⟨c0, c1, c2, c3⟩ := rp_box (Row.new w 64 r.cells)
  have N0 : Hid (∀ W, Calls Tryz.prog 150 #[.int .i64 r.index] W fun e w' => e = .returned (.bool true) ∧ W = w') := fun W => by have := nnumber_any r.index W; rw [h0] at this; exact this
  have N1 : Hid (∀ W, Calls Tryz.prog 150 #[.int .i64 r.time] W fun e w' => e = .returned (.bool true) ∧ W = w') := fun W => by have := nnumber_any r.time W; rw [h1] at this; exact this
  clear h0 h1
  generalize r.cells = C at *
  go_enter Tryz.func112, Tryz.ntmps112
  go_wp2_with fail
  refine (N0.out _).mono ?_
  rintro _ w1 ⟨rfl, rfl⟩
  go_wp2_with fail
  refine (N1.out _).mono ?_
  rintro _ w1 ⟨rfl, rfl⟩
  go_wp2_with fail
  go_ret
  exact ⟨by first | rfl | (simp; done) | (simp; omega), (Below.refl w.heap.size w).alloc (Nat.le_refl _) _⟩
set_option maxRecDepth 20000 in
theorem linked_a3 (r : Rp) (w : World) (k1 : (r.kind == 1) = true) (h0 : Tx.num r.index = true) (h1 : Tx.num r.time = true) (h2 : (r.body.size : Int) ≤ 656) :
    Calls Tryz.prog 112 #[.agg r.cells.toArray] w fun e w' => e = .returned (.bool true) ∧ Below w.heap.size w w' := by
  obtain ⟨c0, c1, c2, c3⟩ := rp_box (Row.new w 64 r.cells)
  have N0 : Hid (∀ W, Calls Tryz.prog 150 #[.int .i64 r.index] W fun e w' => e = .returned (.bool true) ∧ W = w') := fun W => by have := nnumber_any r.index W; rw [h0] at this; exact this
  have N1 : Hid (∀ W, Calls Tryz.prog 150 #[.int .i64 r.time] W fun e w' => e = .returned (.bool true) ∧ W = w') := fun W => by have := nnumber_any r.time W; rw [h1] at this; exact this
  clear h0 h1
  generalize r.cells = C at *
  go_enter Tryz.func112, Tryz.ntmps112
  go_wp2_with fail
  refine (N0.out _).mono ?_
  rintro _ w1 ⟨rfl, rfl⟩
  go_wp2_with fail
  refine (N1.out _).mono ?_
  rintro _ w1 ⟨rfl, rfl⟩
  go_wp2_with fail
  go_ret
  exact ⟨by first | rfl | (simp; done) | (simp; omega), (Below.refl w.heap.size w).alloc (Nat.le_refl _) _⟩
set_option maxRecDepth 20000 in
theorem linked_b0 (r : Rp) (w : World) (k1 : (r.kind == 1) = false) (k2 : (r.kind == 2) = true) (h0 : Tx.num r.index = false) :
    Calls Tryz.prog 112 #[.agg r.cells.toArray] w fun e w' => e = .returned (.bool false) ∧ Below w.heap.size w w' := by
  obtain ⟨c0, c1, c2, c3⟩ := rp_box (Row.new w 64 r.cells)
  have N0 : Hid (∀ W, Calls Tryz.prog 150 #[.int .i64 r.index] W fun e w' => e = .returned (.bool false) ∧ W = w') := fun W => by have := nnumber_any r.index W; rw [h0] at this; exact this
  clear h0
  generalize r.cells = C at *
  go_enter Tryz.func112, Tryz.ntmps112
  go_wp2_with fail
  refine (N0.out _).mono ?_
  rintro _ w1 ⟨rfl, rfl⟩
  go_wp2_with fail
  go_ret
  exact ⟨by first | rfl | (simp; done) | (simp; omega), (Below.refl w.heap.size w).alloc (Nat.le_refl _) _⟩
set_option maxRecDepth 20000 in
theorem linked_b1 (r : Rp) (w : World) (k1 : (r.kind == 1) = false) (k2 : (r.kind == 2) = true) (h0 : Tx.num r.index = true) (h1 : Tx.num r.time = false) :
    Calls Tryz.prog 112 #[.agg r.cells.toArray] w fun e w' => e = .returned (.bool false) ∧ Below w.heap.size w w' := by
  obtain ⟨c0, c1, c2, c3⟩ := rp_box (Row.new w 64 r.cells)
  have N0 : Hid (∀ W, Calls Tryz.prog 150 #[.int .i64 r.index] W fun e w' => e = .returned (.bool true) ∧ W = w') := fun W => by have := nnumber_any r.index W; rw [h0] at this; exact this
  have N1 : Hid (∀ W, Calls Tryz.prog 150 #[.int .i64 r.time] W fun e w' => e = .returned (.bool false) ∧ W = w') := fun W => by have := nnumber_any r.time W; rw [h1] at this; exact this
  clear h0 h1
  generalize r.cells = C at *
  go_enter Tryz.func112, Tryz.ntmps112
  go_wp2_with fail
  refine (N0.out _).mono ?_
  rintro _ w1 ⟨rfl, rfl⟩
  go_wp2_with fail
  refine (N1.out _).mono ?_
  rintro _ w1 ⟨rfl, rfl⟩
  go_wp2_with fail
  go_ret
  exact ⟨by first | rfl | (simp; done) | (simp; omega), (Below.refl w.heap.size w).alloc (Nat.le_refl _) _⟩
set_option maxRecDepth 20000 in
theorem linked_b2 (r : Rp) (w : World) (k1 : (r.kind == 1) = false) (k2 : (r.kind == 2) = true) (h0 : Tx.num r.index = true) (h1 : Tx.num r.time = true) (h2 : ¬ (r.body.size : Int) ≤ 656) :
    Calls Tryz.prog 112 #[.agg r.cells.toArray] w fun e w' => e = .returned (.bool false) ∧ Below w.heap.size w w' := by
  obtain ⟨c0, c1, c2, c3⟩ := rp_box (Row.new w 64 r.cells)
  have N0 : Hid (∀ W, Calls Tryz.prog 150 #[.int .i64 r.index] W fun e w' => e = .returned (.bool true) ∧ W = w') := fun W => by have := nnumber_any r.index W; rw [h0] at this; exact this
  have N1 : Hid (∀ W, Calls Tryz.prog 150 #[.int .i64 r.time] W fun e w' => e = .returned (.bool true) ∧ W = w') := fun W => by have := nnumber_any r.time W; rw [h1] at this; exact this
  clear h0 h1
  generalize r.cells = C at *
  go_enter Tryz.func112, Tryz.ntmps112
  go_wp2_with fail
  refine (N0.out _).mono ?_
  rintro _ w1 ⟨rfl, rfl⟩
  go_wp2_with fail
  refine (N1.out _).mono ?_
  rintro _ w1 ⟨rfl, rfl⟩
  go_wp2_with fail
  go_ret
  exact ⟨by first | rfl | (simp; done) | (simp; omega), (Below.refl w.heap.size w).alloc (Nat.le_refl _) _⟩
set_option maxRecDepth 20000 in
theorem linked_b3 (r : Rp) (w : World) (k1 : (r.kind == 1) = false) (k2 : (r.kind == 2) = true) (h0 : Tx.num r.index = true) (h1 : Tx.num r.time = true) (h2 : (r.body.size : Int) ≤ 656) :
    Calls Tryz.prog 112 #[.agg r.cells.toArray] w fun e w' => e = .returned (.bool true) ∧ Below w.heap.size w w' := by
  obtain ⟨c0, c1, c2, c3⟩ := rp_box (Row.new w 64 r.cells)
  have N0 : Hid (∀ W, Calls Tryz.prog 150 #[.int .i64 r.index] W fun e w' => e = .returned (.bool true) ∧ W = w') := fun W => by have := nnumber_any r.index W; rw [h0] at this; exact this
  have N1 : Hid (∀ W, Calls Tryz.prog 150 #[.int .i64 r.time] W fun e w' => e = .returned (.bool true) ∧ W = w') := fun W => by have := nnumber_any r.time W; rw [h1] at this; exact this
  clear h0 h1
  generalize r.cells = C at *
  go_enter Tryz.func112, Tryz.ntmps112
  go_wp2_with fail
  refine (N0.out _).mono ?_
  rintro _ w1 ⟨rfl, rfl⟩
  go_wp2_with fail
  refine (N1.out _).mono ?_
  rintro _ w1 ⟨rfl, rfl⟩
  go_wp2_with fail
  go_ret
  exact ⟨by first | rfl | (simp; done) | (simp; omega), (Below.refl w.heap.size w).alloc (Nat.le_refl _) _⟩
set_option maxRecDepth 20000 in
theorem linked_c (r : Rp) (w : World) (k1 : (r.kind == 1) = false) (k2 : (r.kind == 2) = false) :
    Calls Tryz.prog 112 #[.agg r.cells.toArray] w fun e w' => e = .returned (.bool false) ∧ Below w.heap.size w w' := by
  obtain ⟨c0, c1, c2, c3⟩ := rp_box (Row.new w 64 r.cells)
  generalize r.cells = C at *
  go_enter Tryz.func112, Tryz.ntmps112
  go_wp2_with fail
  go_ret
  exact ⟨by first | rfl | (simp; done) | (simp; omega), (Below.refl w.heap.size w).alloc (Nat.le_refl _) _⟩
theorem linked_any (r : Rp) (w : World) :
    Calls Tryz.prog 112 #[.agg r.cells.toArray] w fun e w' => e = .returned (.bool r.ok) ∧ Below w.heap.size w w' := by
  unfold Rp.ok
  rcases Bool.eq_false_or_eq_true (r.kind == 1) with k1 | k1
  · rcases Bool.eq_false_or_eq_true (Tx.num r.index) with h0 | h0
    · rcases Bool.eq_false_or_eq_true (Tx.num r.time) with h1 | h1
      · by_cases h2 : (r.body.size : Int) ≤ 656
        · rw [k1, h0, h1, decide_eq_true h2]; exact linked_a3 r w k1 h0 h1 h2
        · rw [k1, h0, h1, decide_eq_false h2]; exact linked_a2 r w k1 h0 h1 h2
      · rw [k1, h0, h1]; exact linked_a1 r w k1 h0 h1
    · rw [k1, h0]; exact linked_a0 r w k1 h0
  · rcases Bool.eq_false_or_eq_true (r.kind == 2) with k2 | k2
    · rcases Bool.eq_false_or_eq_true (Tx.num r.index) with h0 | h0
      · rcases Bool.eq_false_or_eq_true (Tx.num r.time) with h1 | h1
        · by_cases h2 : (r.body.size : Int) ≤ 656
          · rw [k1, k2, h0, h1, decide_eq_true h2]; exact linked_b3 r w k1 k2 h0 h1 h2
          · rw [k1, k2, h0, h1, decide_eq_false h2]; exact linked_b2 r w k1 k2 h0 h1 h2
        · rw [k1, k2, h0, h1]; exact linked_b1 r w k1 k2 h0 h1
      · rw [k1, k2, h0]; exact linked_b0 r w k1 k2 h0
    · rw [k1, k2]; exact linked_c r w k1 k2
set_option maxRecDepth 20000 in
set_option maxHeartbeats 1600000 in
theorem receiptTexts_any (r : Rp) (w : World) (h : r.ok = true) :
    Calls Tryz.prog 130 #[.agg r.cells.toArray] w fun e w' => ∃ v, e = .returned v ∧ w'.ownsRow w.heap.size 9 1 v 4 (r.texts.map S) ∧ Below w.heap.size w w' := by
  obtain ⟨i0, hi, hz, hs, hby⟩ := str5
  have Hi := Lib.hid hi
  have Hz := Lib.hid hz
  have Hs := Lib.hid hs
  have Hby := Lib.hid hby
  have hB := Rp.ok_nums h
  have NB : Hid (∀ (W : World) (nb : Nat), Row W nb 3 (Is r.numsL) → Calls Tryz.prog 162 #[.slice (some ⟨nb, 0, none⟩) 3 3] W fun e w' => ∃ v, e = .returned v ∧ w'.ownsRow W.heap.size 9 1 v 3 ((r.numsL.map fun x => Oct.num x.toNat).map S) ∧ Below W.heap.size W w') := fun W nb hN =>
    numbers_any r.numsL 3 hB W nb hN (by simp [Rp.numsL])
  have BX : Hid (∀ (W : World) (g : Nat) (T : TypeId), Row W g T r.cells → W.cell? ⟨g, 0, none⟩ = some (.int .i64 r.index) ∧ W.cell? ⟨g, 1, none⟩ = some (.int .i64 r.kind) ∧ W.cell? ⟨g, 2, none⟩ = some (.int .i64 r.time) ∧ W.cell? ⟨g, 3, none⟩ = some (.string r.body)) := fun W g T h => rp_box h
  have hff : (r.numsL.map fun x => Oct.num x.toNat).map S ++ [Value.string r.body] = r.texts.map S := by unfold Rp.texts; rw [List.map_append]; rfl
  have Hff := Lib.hid hff
  have hS0 : RowIn w (w.alloc (.cells r.cells.toArray 64)).drew w.heap.size 64 r.cells := (rowIn_call (Below.refl _ _)).drew
  have HS0 := Lib.hid hS0
  have hnl : Is r.numsL = Is [r.index, r.kind, r.time] := rfl
  rw [hnl] at NB
  generalize (r.numsL.map fun x => Oct.num x.toNat).map S = NS at *
  generalize r.texts.map S = L at *
  generalize r.cells = C at *
  generalize r.index = kd at *
  generalize r.kind = who at *
  generalize r.time = n at *
  generalize r.body = tx at *
  clear hi hz hs hby h hff hS0 hB hnl
  go_enter Tryz.func130, Tryz.ntmps130
  go_wp2_with fail
  refine wp_region_held_drew (S := fun w' => RowIn w w' w.heap.size 64 C) (by kernel_rfl) (HS0.out) (fun hHeld => ?_)
  generalize (w.alloc (.cells C.toArray 64)).drew = w9 at *
  refine wpAnyH_take (i := 0) (v := .pointer (some ⟨w.heap.size, 0, none⟩)) rfl (by kernel_rfl) (by kernel_rfl) (by kernel_rfl) (fun _ _ _ h => h) (Or.inl ⟨by rfl, fun w' hSw => by go_simp⟩) hHeld ?_
  try simp only [Act.put, List.getElem_toArray, List.getElem_cons_succ, List.getElem_cons_zero, List.setIfInBounds_toArray, List.set_cons_zero, List.set_cons_succ]
  refine wpAnyH_take (i := 1) (v := .int .i64 kd) rfl (by kernel_rfl) (by kernel_rfl) (by kernel_rfl) (fun _ _ _ h => h) (Or.inl ⟨by rfl, fun w' hSw => by have hq := hSw; have hc := (BX.out _ _ _ hq.1).1; go_simp⟩) hHeld ?_
  try simp only [Act.put, List.getElem_toArray, List.getElem_cons_succ, List.getElem_cons_zero, List.setIfInBounds_toArray, List.set_cons_zero, List.set_cons_succ]
  refine wpAnyH_take (i := 2) (v := .pointer (some ⟨w.heap.size, 1, none⟩)) rfl (by kernel_rfl) (by kernel_rfl) (by kernel_rfl) (fun _ _ _ h => h) (Or.inl ⟨by rfl, fun w' hSw => by go_simp⟩) hHeld ?_
  try simp only [Act.put, List.getElem_toArray, List.getElem_cons_succ, List.getElem_cons_zero, List.setIfInBounds_toArray, List.set_cons_zero, List.set_cons_succ]
  refine wpAnyH_take (i := 3) (v := .int .i64 who) rfl (by kernel_rfl) (by kernel_rfl) (by kernel_rfl) (fun _ _ _ h => h) (Or.inl ⟨by rfl, fun w' hSw => by have hq := hSw; have hc := (BX.out _ _ _ hq.1).2.1; go_simp⟩) hHeld ?_
  try simp only [Act.put, List.getElem_toArray, List.getElem_cons_succ, List.getElem_cons_zero, List.setIfInBounds_toArray, List.set_cons_zero, List.set_cons_succ]
  refine wpAnyH_take (i := 4) (v := .pointer (some ⟨w.heap.size, 2, none⟩)) rfl (by kernel_rfl) (by kernel_rfl) (by kernel_rfl) (fun _ _ _ h => h) (Or.inl ⟨by rfl, fun w' hSw => by go_simp⟩) hHeld ?_
  try simp only [Act.put, List.getElem_toArray, List.getElem_cons_succ, List.getElem_cons_zero, List.setIfInBounds_toArray, List.set_cons_zero, List.set_cons_succ]
  refine wpAnyH_take (i := 5) (v := .int .i64 n) rfl (by kernel_rfl) (by kernel_rfl) (by kernel_rfl) (fun _ _ _ h => h) (Or.inl ⟨by rfl, fun w' hSw => by have hq := hSw; have hc := (BX.out _ _ _ hq.1).2.2.1; go_simp⟩) hHeld ?_
  try simp only [Act.put, List.getElem_toArray, List.getElem_cons_succ, List.getElem_cons_zero, List.setIfInBounds_toArray, List.set_cons_zero, List.set_cons_succ]
  refine wpAnyH_take (i := 8) (v := .pointer (some ⟨w.heap.size, 3, none⟩)) rfl (by kernel_rfl) (by kernel_rfl) (by kernel_rfl) (fun _ _ _ h => h) (Or.inl ⟨by rfl, fun w' hSw => by go_simp⟩) hHeld ?_
  try simp only [Act.put, List.getElem_toArray, List.getElem_cons_succ, List.getElem_cons_zero, List.setIfInBounds_toArray, List.set_cons_zero, List.set_cons_succ]
  refine wpAnyH_take (i := 9) (v := .string tx) rfl (by kernel_rfl) (by kernel_rfl) (by kernel_rfl) (fun _ _ _ h => h) (Or.inl ⟨by rfl, fun w' hSw => by have hq := hSw; have hc := (BX.out _ _ _ hq.1).2.2.2; go_simp⟩) hHeld ?_
  try simp only [Act.put, List.getElem_toArray, List.getElem_cons_succ, List.getElem_cons_zero, List.setIfInBounds_toArray, List.set_cons_zero, List.set_cons_succ]
  refine wpAnyH_ready (rs := [6, 10]) (by kernel_rfl) (by simp) (AllReadyH.cons rfl (fun K1 hK1 => ?_) (AllReadyH.cons rfl (fun K1 hK1 => ?_) AllReadyH.nil))
  · skip
    try simp only [Act.put, List.getElem_toArray, List.getElem_cons_succ, List.getElem_cons_zero, List.setIfInBounds_toArray, List.set_cons_zero, List.set_cons_succ]
    go_simp
    have hd2 := (Below.refl w9.heap.size w9).alloc (Nat.le_refl _) (.cells #[.int .i64 kd, .int .i64 who, .int .i64 n] 3)
    have r1 : Row (w9.alloc (.cells #[.int .i64 kd, .int .i64 who, .int .i64 n] 3)) w9.heap.size 3 (Is [kd, who, n]) := Row.new w9 3 (Is [kd, who, n])
    have hHeld2 := hHeld.step hd2
    generalize w9.alloc (.cells #[.int .i64 kd, .int .i64 who, .int .i64 n] 3) = wb1 at *
    obtain ⟨gb3, gb3e⟩ : ∃ gb3, gb3 = w9.heap.size := ⟨_, rfl⟩
    rw [← gb3e] at r1 ⊢
    refine hK1.out _ _ (hHeld2) (fun hHeld => ?_)
    clear hK1 K1
    try simp only [Act.put, List.getElem_toArray, List.getElem_cons_succ, List.getElem_cons_zero, List.setIfInBounds_toArray, List.set_cons_zero, List.set_cons_succ]
    clear hHeld2 gb3e
    refine wpAnyH_ready (rs := [7, 10]) (by kernel_rfl) (by simp) (AllReadyH.cons rfl (fun K1 hK1 => ?_) (AllReadyH.cons rfl (fun K1 hK1 => ?_) AllReadyH.nil))
    · skip
      try simp only [Act.put, List.getElem_toArray, List.getElem_cons_succ, List.getElem_cons_zero, List.setIfInBounds_toArray, List.set_cons_zero, List.set_cons_succ]
      go_simp
      refine Calls.mono (NB.out _ _ r1) ?_
      rintro e wn4 ⟨vN, rfl, hown, hn5⟩
      have hown := hown.mono hHeld.size
      clear r1
      refine hK1.out _ _ (hHeld.step hn5) (fun hHeld => ?_)
      clear hK1 K1
      try simp only [Act.put, List.getElem_toArray, List.getElem_cons_succ, List.getElem_cons_zero, List.setIfInBounds_toArray, List.set_cons_zero, List.set_cons_succ]
      refine wpAnyH_ready (rs := [10]) (by kernel_rfl) (by simp) (AllReadyH.cons rfl (fun K1 hK1 => ?_) AllReadyH.nil)
      try simp only [Act.put, List.getElem_toArray, List.getElem_cons_succ, List.getElem_cons_zero, List.setIfInBounds_toArray, List.set_cons_zero, List.set_cons_succ]
      go_simp
      have hd7 := (Below.refl wn4.heap.size wn4).alloc (Nat.le_refl _) (.cells #[.string tx] 9)
      have r2 : Row (wn4.alloc (.cells #[.string tx] 9)) wn4.heap.size 9 ([.string tx]) := Row.new wn4 9 ([.string tx])
      have hown := own_below hown hd7
      have hHeld2 := hHeld.step hd7
      generalize wn4.alloc (.cells #[.string tx] 9) = wb6 at *
      obtain ⟨gb8, gb8e⟩ : ∃ gb8, gb8 = wn4.heap.size := ⟨_, rfl⟩
      rw [← gb8e] at r2 ⊢
      refine hK1.out _ _ (hHeld2) (fun hHeld => ?_)
      clear hK1 K1
      try simp only [Act.put, List.getElem_toArray, List.getElem_cons_succ, List.getElem_cons_zero, List.setIfInBounds_toArray, List.set_cons_zero, List.set_cons_succ]
      clear hHeld2 gb8e
      refine wpAnyH_ready (rs := [11]) (by kernel_rfl) (by simp) (AllReadyH.cons rfl (fun K1 hK1 => ?_) AllReadyH.nil)
      try simp only [Act.put, List.getElem_toArray, List.getElem_cons_succ, List.getElem_cons_zero, List.setIfInBounds_toArray, List.set_cons_zero, List.set_cons_succ]
      rw [if_pos (by rfl)]
      refine wp_append_own_wide wb6 _ _ 56 rfl w.heap.size 9 i0 (.string ByteArray.empty) 1 16 Tryz.underlying56 Hi.out Hz.out Hs.out Hby.out rfl (by decide) vN 3 NS rfl hown ⟨gb8, 0, none⟩ 1 1 [.string tx] rfl rfl (row_news r2) (by intro u hu; simp at hu; first | (subst hu; rfl) | (rcases hu with rfl | rfl <;> rfl)) (by unfold maxLen; omega) (by omega) hHeld.size fun vP wp9 hownP hgrow _ => ?_
      have hHeld2 := own_keeps hHeld (by decide) hown (Nat.le_refl _) hgrow
      have hownP := Lib.hid hownP
      clear hown r2 hgrow
      refine hK1.out _ _ (hHeld2) (fun hHeld => ?_)
      clear hK1 K1
      try simp only [Act.put, List.getElem_toArray, List.getElem_cons_succ, List.getElem_cons_zero, List.setIfInBounds_toArray, List.set_cons_zero, List.set_cons_succ]
      refine wpAnyH_take (i := 12) (v := vP) rfl (by kernel_rfl) (by kernel_rfl) (by kernel_rfl) (fun _ _ _ h => h) (Or.inl ⟨by rfl, fun w' hSw => by go_simp⟩) hHeld ?_
      try simp only [Act.put, List.getElem_toArray, List.getElem_cons_succ, List.getElem_cons_zero, List.setIfInBounds_toArray, List.set_cons_zero, List.set_cons_succ]
      refine wpAnyH_done (by kernel_rfl) ?_ _
      have Hbe := Lib.hid hHeld.2
      clear hHeld
      go_wp2_with fail
      go_ret
      exact ⟨vP, rfl, by rw [← Hff.out]; exact hownP.out, Hbe.out⟩
    · skip
      try simp only [Act.put, List.getElem_toArray, List.getElem_cons_succ, List.getElem_cons_zero, List.setIfInBounds_toArray, List.set_cons_zero, List.set_cons_succ]
      go_simp
      have hd11 := (Below.refl wb1.heap.size wb1).alloc (Nat.le_refl _) (.cells #[.string tx] 9)
      have r2 : Row (wb1.alloc (.cells #[.string tx] 9)) wb1.heap.size 9 ([.string tx]) := Row.new wb1 9 ([.string tx])
      have r1 := r1.kept (grownBy_of_below hd11 none) (by simp)
      have hHeld2 := hHeld.step hd11
      generalize wb1.alloc (.cells #[.string tx] 9) = wb10 at *
      obtain ⟨gb12, gb12e⟩ : ∃ gb12, gb12 = wb1.heap.size := ⟨_, rfl⟩
      rw [← gb12e] at r2 ⊢
      refine hK1.out _ _ (hHeld2) (fun hHeld => ?_)
      clear hK1 K1
      try simp only [Act.put, List.getElem_toArray, List.getElem_cons_succ, List.getElem_cons_zero, List.setIfInBounds_toArray, List.set_cons_zero, List.set_cons_succ]
      clear hHeld2 gb12e
      refine wpAnyH_ready (rs := [7]) (by kernel_rfl) (by simp) (AllReadyH.cons rfl (fun K1 hK1 => ?_) AllReadyH.nil)
      try simp only [Act.put, List.getElem_toArray, List.getElem_cons_succ, List.getElem_cons_zero, List.setIfInBounds_toArray, List.set_cons_zero, List.set_cons_succ]
      go_simp
      refine Calls.mono (NB.out _ _ r1) ?_
      rintro e wn13 ⟨vN, rfl, hown, hn14⟩
      have hown := hown.mono hHeld.size
      clear r1
      have r2 := r2.kept (grownBy_of_below hn14 none) (by simp)
      refine hK1.out _ _ (hHeld.step hn14) (fun hHeld => ?_)
      clear hK1 K1
      try simp only [Act.put, List.getElem_toArray, List.getElem_cons_succ, List.getElem_cons_zero, List.setIfInBounds_toArray, List.set_cons_zero, List.set_cons_succ]
      refine wpAnyH_ready (rs := [11]) (by kernel_rfl) (by simp) (AllReadyH.cons rfl (fun K1 hK1 => ?_) AllReadyH.nil)
      try simp only [Act.put, List.getElem_toArray, List.getElem_cons_succ, List.getElem_cons_zero, List.setIfInBounds_toArray, List.set_cons_zero, List.set_cons_succ]
      rw [if_pos (by rfl)]
      refine wp_append_own_wide wn13 _ _ 56 rfl w.heap.size 9 i0 (.string ByteArray.empty) 1 16 Tryz.underlying56 Hi.out Hz.out Hs.out Hby.out rfl (by decide) vN 3 NS rfl hown ⟨gb12, 0, none⟩ 1 1 [.string tx] rfl rfl (row_news r2) (by intro u hu; simp at hu; first | (subst hu; rfl) | (rcases hu with rfl | rfl <;> rfl)) (by unfold maxLen; omega) (by omega) hHeld.size fun vP wp15 hownP hgrow _ => ?_
      have hHeld2 := own_keeps hHeld (by decide) hown (Nat.le_refl _) hgrow
      have hownP := Lib.hid hownP
      clear hown r2 hgrow
      refine hK1.out _ _ (hHeld2) (fun hHeld => ?_)
      clear hK1 K1
      try simp only [Act.put, List.getElem_toArray, List.getElem_cons_succ, List.getElem_cons_zero, List.setIfInBounds_toArray, List.set_cons_zero, List.set_cons_succ]
      refine wpAnyH_take (i := 12) (v := vP) rfl (by kernel_rfl) (by kernel_rfl) (by kernel_rfl) (fun _ _ _ h => h) (Or.inl ⟨by rfl, fun w' hSw => by go_simp⟩) hHeld ?_
      try simp only [Act.put, List.getElem_toArray, List.getElem_cons_succ, List.getElem_cons_zero, List.setIfInBounds_toArray, List.set_cons_zero, List.set_cons_succ]
      refine wpAnyH_done (by kernel_rfl) ?_ _
      have Hbe := Lib.hid hHeld.2
      clear hHeld
      go_wp2_with fail
      go_ret
      exact ⟨vP, rfl, by rw [← Hff.out]; exact hownP.out, Hbe.out⟩
  · skip
    try simp only [Act.put, List.getElem_toArray, List.getElem_cons_succ, List.getElem_cons_zero, List.setIfInBounds_toArray, List.set_cons_zero, List.set_cons_succ]
    go_simp
    have hd17 := (Below.refl w9.heap.size w9).alloc (Nat.le_refl _) (.cells #[.string tx] 9)
    have r2 : Row (w9.alloc (.cells #[.string tx] 9)) w9.heap.size 9 ([.string tx]) := Row.new w9 9 ([.string tx])
    have hHeld2 := hHeld.step hd17
    generalize w9.alloc (.cells #[.string tx] 9) = wb16 at *
    obtain ⟨gb18, gb18e⟩ : ∃ gb18, gb18 = w9.heap.size := ⟨_, rfl⟩
    rw [← gb18e] at r2 ⊢
    refine hK1.out _ _ (hHeld2) (fun hHeld => ?_)
    clear hK1 K1
    try simp only [Act.put, List.getElem_toArray, List.getElem_cons_succ, List.getElem_cons_zero, List.setIfInBounds_toArray, List.set_cons_zero, List.set_cons_succ]
    clear hHeld2 gb18e
    refine wpAnyH_ready (rs := [6]) (by kernel_rfl) (by simp) (AllReadyH.cons rfl (fun K1 hK1 => ?_) AllReadyH.nil)
    try simp only [Act.put, List.getElem_toArray, List.getElem_cons_succ, List.getElem_cons_zero, List.setIfInBounds_toArray, List.set_cons_zero, List.set_cons_succ]
    go_simp
    have hd20 := (Below.refl wb16.heap.size wb16).alloc (Nat.le_refl _) (.cells #[.int .i64 kd, .int .i64 who, .int .i64 n] 3)
    have r1 : Row (wb16.alloc (.cells #[.int .i64 kd, .int .i64 who, .int .i64 n] 3)) wb16.heap.size 3 (Is [kd, who, n]) := Row.new wb16 3 (Is [kd, who, n])
    have r2 := r2.kept (grownBy_of_below hd20 none) (by simp)
    have hHeld2 := hHeld.step hd20
    generalize wb16.alloc (.cells #[.int .i64 kd, .int .i64 who, .int .i64 n] 3) = wb19 at *
    obtain ⟨gb21, gb21e⟩ : ∃ gb21, gb21 = wb16.heap.size := ⟨_, rfl⟩
    rw [← gb21e] at r1 ⊢
    refine hK1.out _ _ (hHeld2) (fun hHeld => ?_)
    clear hK1 K1
    try simp only [Act.put, List.getElem_toArray, List.getElem_cons_succ, List.getElem_cons_zero, List.setIfInBounds_toArray, List.set_cons_zero, List.set_cons_succ]
    clear hHeld2 gb21e
    refine wpAnyH_ready (rs := [7]) (by kernel_rfl) (by simp) (AllReadyH.cons rfl (fun K1 hK1 => ?_) AllReadyH.nil)
    try simp only [Act.put, List.getElem_toArray, List.getElem_cons_succ, List.getElem_cons_zero, List.setIfInBounds_toArray, List.set_cons_zero, List.set_cons_succ]
    go_simp
    refine Calls.mono (NB.out _ _ r1) ?_
    rintro e wn22 ⟨vN, rfl, hown, hn23⟩
    have hown := hown.mono hHeld.size
    clear r1
    have r2 := r2.kept (grownBy_of_below hn23 none) (by simp)
    refine hK1.out _ _ (hHeld.step hn23) (fun hHeld => ?_)
    clear hK1 K1
    try simp only [Act.put, List.getElem_toArray, List.getElem_cons_succ, List.getElem_cons_zero, List.setIfInBounds_toArray, List.set_cons_zero, List.set_cons_succ]
    refine wpAnyH_ready (rs := [11]) (by kernel_rfl) (by simp) (AllReadyH.cons rfl (fun K1 hK1 => ?_) AllReadyH.nil)
    try simp only [Act.put, List.getElem_toArray, List.getElem_cons_succ, List.getElem_cons_zero, List.setIfInBounds_toArray, List.set_cons_zero, List.set_cons_succ]
    rw [if_pos (by rfl)]
    refine wp_append_own_wide wn22 _ _ 56 rfl w.heap.size 9 i0 (.string ByteArray.empty) 1 16 Tryz.underlying56 Hi.out Hz.out Hs.out Hby.out rfl (by decide) vN 3 NS rfl hown ⟨gb18, 0, none⟩ 1 1 [.string tx] rfl rfl (row_news r2) (by intro u hu; simp at hu; first | (subst hu; rfl) | (rcases hu with rfl | rfl <;> rfl)) (by unfold maxLen; omega) (by omega) hHeld.size fun vP wp24 hownP hgrow _ => ?_
    have hHeld2 := own_keeps hHeld (by decide) hown (Nat.le_refl _) hgrow
    have hownP := Lib.hid hownP
    clear hown r2 hgrow
    refine hK1.out _ _ (hHeld2) (fun hHeld => ?_)
    clear hK1 K1
    try simp only [Act.put, List.getElem_toArray, List.getElem_cons_succ, List.getElem_cons_zero, List.setIfInBounds_toArray, List.set_cons_zero, List.set_cons_succ]
    refine wpAnyH_take (i := 12) (v := vP) rfl (by kernel_rfl) (by kernel_rfl) (by kernel_rfl) (fun _ _ _ h => h) (Or.inl ⟨by rfl, fun w' hSw => by go_simp⟩) hHeld ?_
    try simp only [Act.put, List.getElem_toArray, List.getElem_cons_succ, List.getElem_cons_zero, List.setIfInBounds_toArray, List.set_cons_zero, List.set_cons_succ]
    refine wpAnyH_done (by kernel_rfl) ?_ _
    have Hbe := Lib.hid hHeld.2
    clear hHeld
    go_wp2_with fail
    go_ret
    exact ⟨vP, rfl, by rw [← Hff.out]; exact hownP.out, Hbe.out⟩
theorem textsL {r : Rp} {W : World} {base : Nat} {v : Value} (h : W.ownsRow base 9 1 v 4 (r.texts.map S)) :
    Calls Tryz.prog 95 #[v] W fun e w' => ∃ n : Int, e = .returned (.tuple #[S (Oct.listE r.texts).1, .int .i64 n]) ∧ Below W.heap.size W w' :=
  (list_owned (k := 3) _ rfl h rfl).mono fun e w' ⟨h1, h2⟩ => ⟨_, h1, h2⟩
set_option maxRecDepth 20000 in
set_option maxHeartbeats 1600000 in
theorem link_any (r : Rp) (hp : r.prev.length = 32) (hh : r.hash.length = 32) (w : World) (hT : Tab w) (hk : r.ok = true) :
    Calls Tryz.prog 113 #[.agg r.cells.toArray] w fun e w' => e = .returned (.agg (bRow r.link)) ∧ Below w.heap.size w w' := by
  have HL := Lib.hid (Rp.cells_len hp hh)
  have Hrow0 := Lib.hid (Row.new w 64 r.cells)
  have HTab := Lib.hid hT
  have Hp := Lib.hid hT.pos
  have hbl := listE_len r.texts
  have RT := Lib.hid (fun W => receiptTexts_any r W hk)
  have BL : Hid (∀ (W : World) (base : Nat) (v : Value), W.ownsRow base 9 1 v 4 (r.texts.map S) → Calls Tryz.prog 95 #[v] W fun e w' => ∃ n : Int, e = .returned (.tuple #[S (Oct.listE r.texts).1, .int .i64 n]) ∧ Below W.heap.size W w') := fun W base v h => textsL h
  have CH : Hid (∀ W, Tab W → Calls Tryz.prog 151 #[.agg (bRow r.prev), S (Oct.listE r.texts).1] W fun e w' => e = .returned (.agg (bRow r.link)) ∧ Below W.heap.size W w') := fun W hW => chain_any r.prev ⟨(Oct.listE r.texts).1.toArray⟩ W hW hp (by show (Oct.listE r.texts).1.length ≤ _; omega)
  have BX : Hid (∀ (W : World) (g : Nat) (T : TypeId), Row W g T r.cells → W.rangeAt g 4 (bRow r.prev).toList) := fun W g T h => rp_prev hp h
  have HPL := Lib.hid (Tx.bRow_len _ hp)
  have HB32 := Lib.hid (Tx.bRow_len _ (Rp.link_len r))
  have HR := Lib.hid (Rp.link_len r)
  have HZ32 := Lib.hid (Tx.bRow_len Tx.zero rfl)
  have hzv := hash_zv
  generalize r.texts.map S = NS at *
  generalize (Oct.listE r.texts).1 = bs at *
  generalize r.link = K at *
  generalize r.cells = C at *
  clear hT hp hh hk hbl
  go_enter Tryz.func113, Tryz.ntmps113
  go_wp2_with (with_reducible show wpList _ _ _ (⟨_, .load 64 _, _, _, _, _⟩ :: _) _ _; refine wpList_load_tx rfl 64 (.tmp 1) rfl w.heap.size 0 rfl C _ (World.rangeAt_alloc (row_range Hrow0.out) _) Tryz.underlying64 rfl (by rw [rp_info, HL.out]) ?_)
  refine calls_named ?_
  intro w1 hw1
  have hb1 : Below w.heap.size w w1 := by rw [hw1]; exact (row_two w C.toArray (bRow Tx.zero) 64 62).2.1
  have hr1 : Row w1 (w.heap.size + 1) 62 (bRow Tx.zero).toList := by rw [hw1]; exact (row_two w C.toArray (bRow Tx.zero) 64 62).1
  have hq1 : Row w1 w.heap.size 64 C := by rw [hw1]; exact (row_two w C.toArray (bRow Tx.zero) 64 62).2.2
  clear hw1 hzv
  refine (RT.out w1).mono ?_
  rintro _ w2 ⟨v, rfl, hown, hb2⟩
  have hg2 := grownBy_of_below hb2 none
  have Hr2 := Lib.hid (hr1.kept hg2 (by simp))
  have Hq2 := Lib.hid (hq1.kept hg2 (by simp))
  have Hb2 := Lib.hid (two_below' hb1 hb2)
  have Hown := Lib.hid hown
  clear hb1 hr1 hq1 hb2 hg2 hown
  go_wp2_with fail
  refine (BL.out w2 _ v Hown.out).mono ?_
  rintro _ w3 ⟨n, rfl, hb3⟩
  have hg3 := grownBy_of_below hb3 none
  have Hr3 := Lib.hid (Hr2.out.kept hg3 (by simp))
  have Hb3 := Lib.hid (two_below' Hb2.out hb3)
  have Hrt := Lib.hid (BX.out _ _ _ (Hq2.out.kept hg3 (by simp)))
  clear hb3 hg3
  go_wp2_with (with_reducible show wpList _ _ _ (⟨_, .load 62 _, _, _, _, _⟩ :: _) _ _; refine wpList_load_tx rfl 62 (.tmp 11) rfl w.heap.size 4 rfl (bRow r.prev).toList _ Hrt.out Tryz.underlying62 rfl (by rw [hash_info, HPL.out]) ?_)
  refine (CH.out w3 (HTab.out.below Hb3.out Hp.out)).mono ?_
  rintro _ w4 ⟨rfl, hb4⟩
  have Hr4 := Lib.hid (Hr3.out.kept (grownBy_of_below hb4 none) (by simp))
  have Hb4 := Lib.hid (two_below' Hb3.out hb4)
  clear hb4
  go_wp2_with (with_reducible show wpList _ _ _ (⟨_, .store 62 _ _, _, _, _, _⟩ :: _) _ _
               refine wpList_store_at rfl 62 (.tmp 2) (.tmp 14) rfl (w.heap.size + 1) 0 (bRow K).toList _ _ rfl rfl Hr4.out (by have := HB32.out; have := HZ32.out; omega) (by rw [hash_info, HB32.out]) (hash_one K HR.out) ?_
               intro w5 hr5 hg5
               rw [splice_all (HB32.out.trans HZ32.out.symm)] at hr5
               have Hr5 := Lib.hid hr5
               have Hb5 := Lib.hid (below_own Hb4.out hg5 (fun k hk => by cases hk; omega))
               clear hr5 hg5)
  refine bodyPost_ret (results_cell_row rfl _ _ (w.heap.size + 1) _ _ (0, 0) _ rfl Hr5.out Tryz.underlying62 rfl (by rw [hash_info, List.size_toArray, HB32.out])) rfl ⟨rfl, Hb5.out⟩
end Go.Proofs.YtalfnadejpmjnaaGreatDoor
namespace Go.Proofs.YtalfnadejpmjnaaGreatDoor
open Go.RowKit
set_option linter.unusedVariables false
set_option linter.unusedSimpArgs false

theorem rp_places : (Tryz.prog.underlying 64).map (fun d => match d with | .struct fields => fields.toList.mapM (fun f => (Tryz.prog.info? f.type).map fun i => (f.offset, i.size)) | _ => Option.none) = some (some [(0, 1), (1, 1), (2, 1), (3, 1), (4, 32), (36, 32)]) := by kernel_rfl
theorem rp_zero : (Tryz.prog.info? 64).map (·.zero) = some (some (.agg Rp.zero.cells.toArray)) := by kernel_rfl
theorem rp_built (parts : List (Nat × Value)) : Tryz.prog.built 64 parts = Instr.fill (#[(0, 1), (1, 1), (2, 1), (3, 1), (4, 32), (36, 32)][·]?) Rp.zero.cells.toArray parts := by
  obtain ⟨i0, hi, hz⟩ := Option.map_eq_some_iff.1 rp_zero
  have hp := rp_places
  rw [Tryz.underlying64] at hp
  simp only [Option.map_some, Option.some.injEq] at hp
  unfold Program.built
  rw [hi, Tryz.underlying64]
  simp only [hz, hp]
  rfl
theorem rp_five (a b c : Int) (s : ByteArray) (R : List UInt8) (hR : R.length = 32) :
    Tryz.prog.built 64 [(0, .int .i64 a), (1, .int .i64 b), (2, .int .i64 c), (3, .string s), (4, .agg (bRow R))] = some (Rp.cells ⟨a, b, c, s, R, Tx.zero⟩).toArray := by
  have hz := Tx.bRow_len Tx.zero rfl
  have hr := Tx.bRow_len R hR
  have hL := Rp.cells_len (r := Rp.zero) rfl rfl
  rw [rp_built]
  rw [fill_step _ _ 0 _ [.int .i64 a] _ 0 1 rfl rfl rfl (by rw [hL]; omega)]
  rw [fill_step _ _ 1 _ [.int .i64 b] _ 1 1 rfl rfl rfl (by simp only [List.length_append, List.length_take, List.length_drop, List.length_cons, List.length_nil, hL]; omega)]
  rw [fill_step _ _ 2 _ [.int .i64 c] _ 2 1 rfl rfl rfl (by simp only [List.length_append, List.length_take, List.length_drop, List.length_cons, List.length_nil, hL]; omega)]
  rw [fill_step _ _ 3 _ [.string s] _ 3 1 rfl rfl rfl (by simp only [List.length_append, List.length_take, List.length_drop, List.length_cons, List.length_nil, hL]; omega)]
  rw [fill_step _ _ 4 _ (bRow R).toList _ 4 32 rfl (by simp [Value.cells]) hr (by simp only [List.length_append, List.length_take, List.length_drop, List.length_cons, List.length_nil, hL]; omega)]
  rw [fill_end]
  have e : ∀ Z : List Value, Z.length = 32 → ([.int .i64 0, .int .i64 0, .int .i64 0, .string ByteArray.empty] ++ (Z ++ Z) : List Value).drop 36 = Z := fun Z hZ => by
    show ((Z ++ Z).drop 32) = Z
    rw [List.drop_left' hZ]
  unfold Rp.cells Rp.zero
  simp only [List.cons_append, List.nil_append, List.take_succ_cons, List.take_zero, List.drop_succ_cons, List.drop_zero]
  rw [List.drop_left' hz]
theorem row_three (w : World) (A B D : List Value) (t1 t2 t3 : TypeId) : Row (((w.alloc (.cells A.toArray t1)).alloc (.cells B.toArray t2)).alloc (.cells D.toArray t3)) (w.heap.size + 1 + 1) t3 D ∧ Below w.heap.size w (((w.alloc (.cells A.toArray t1)).alloc (.cells B.toArray t2)).alloc (.cells D.toArray t3)) ∧ Row (((w.alloc (.cells A.toArray t1)).alloc (.cells B.toArray t2)).alloc (.cells D.toArray t3)) (w.heap.size + 1) t2 B ∧ Row (((w.alloc (.cells A.toArray t1)).alloc (.cells B.toArray t2)).alloc (.cells D.toArray t3)) w.heap.size t1 A := by
  obtain ⟨h1, h2, h3⟩ := row_two w A.toArray B.toArray t1 t2
  have h := Row.new ((w.alloc (.cells A.toArray t1)).alloc (.cells B.toArray t2)) t3 D
  rw [show ((w.alloc (.cells A.toArray t1)).alloc (.cells B.toArray t2)).heap.size = w.heap.size + 1 + 1 by simp] at h
  exact ⟨h, h2.alloc (by simp; omega) _, h1.kept (grownBy_alloc _ _ none) (by simp), h3.kept (grownBy_alloc _ _ none) (by simp)⟩
set_option maxRecDepth 20000 in
set_option maxHeartbeats 1600000 in
theorem link5_any (a k n : Int) (body : ByteArray) (p : List UInt8) (hp : p.length = 32) (w : World) (hT : Tab w) :
    Calls Tryz.prog 128 #[.agg (bRow p), .int .i64 a, .int .i64 k, .int .i64 n, .string body] w fun e w' => e = .returned (Rp.pairV (Rp.linkE ⟨a, k, n, body, p, Tx.zero⟩)) ∧ Below w.heap.size w w' := by
  obtain ⟨r, hr⟩ : ∃ r : Rp, r = ⟨a, k, n, body, p, Tx.zero⟩ := ⟨_, rfl⟩
  have hrp : r.prev.length = 32 := by rw [hr]; exact hp
  have hrh : r.hash.length = 32 := by rw [hr]; rfl
  have hbu := rp_five a k n body p hp
  rw [← hr] at hbu ⊢
  have Hbu := Lib.hid hbu
  have MB := Lib.hid (fun W => linked_any r W)
  have HL := Lib.hid (Rp.cells_len hrp hrh)
  have HL1 := Lib.hid (Rp.cells_one hrp hrh)
  have HZL := Lib.hid (Rp.cells_len (r := Rp.zero) rfl rfl)
  have HZ1 := Lib.hid (Rp.cells_one (r := Rp.zero) rfl rfl)
  have HTab := Lib.hid hT
  have Hp := Lib.hid hT.pos
  have HPL := Lib.hid (Tx.bRow_len _ hp)
  have Hcl := Lib.hid (Rp.put_hash hrp hrh r.link (Rp.link_len r))
  have hce : Rp.cells { r with hash := r.link } = r.linked.cells := rfl
  rw [hce] at Hcl
  have HDL := Lib.hid (Rp.cells_len (r := r.linked) hrp (Rp.link_len r))
  have HD1 := Lib.hid (Rp.cells_one (r := r.linked) hrp (Rp.link_len r))
  have HB32 := Lib.hid (Tx.bRow_len _ (Rp.link_len r))
  have HR := Lib.hid (Rp.link_len r)
  have Hrow0 := Lib.hid (Row.new w 62 (bRow p).toList)
  have hzv : ∀ W : World, (zeroValue 64).run Tryz.prog W = .ok (.agg Rp.zero.cells.toArray) W := fun W => by kernel_rfl
  rcases Bool.eq_false_or_eq_true r.ok with hk | hk
  all_goals rw [hk] at MB
  · have LK := Lib.hid (fun W (hW : Tab W) => link_any r hrp hrh W hW hk)
    have he : Rp.pairV r.linkE = .tuple #[.agg r.linked.cells.toArray, .int .i64 0] := by unfold Rp.linkE; rw [if_pos hk]; rfl
    rw [he]
    generalize r.linked.cells = D at *
    generalize r.link = K at *
    generalize r.cells = C at *
    clear hT hp hrp hrh hr hbu hk he hce
    go_enter Tryz.func128, Tryz.ntmps128
    have H3 := Lib.hid (row_three w (bRow p).toList Rp.zero.cells Rp.zero.cells 62 64 64)
    go_wp2_with (first
      | (with_reducible show wpList _ _ _ (⟨_, .load 62 _, _, _, _, _⟩ :: _) _ _; refine wpList_load_tx rfl 62 (.tmp 5) rfl w.heap.size 0 rfl (bRow p).toList _ (World.rangeAt_alloc (row_range Hrow0.out) _) Tryz.underlying62 rfl (by rw [hash_info, HPL.out]) ?_)
      | ((with_reducible show wpList _ _ _ (⟨_, .build 64 _, _, _, _, _⟩ :: _) _ _); refine wpList_buildL rfl 64 [(0, .tmp 13), (1, .tmp 14), (2, .tmp 15), (3, .tmp 16), (4, .tmp 17)] rfl (some 18) rfl [(0, .int .i64 a), (1, .int .i64 k), (2, .int .i64 n), (3, .string body), (4, .agg (bRow p))] rfl C.toArray Hbu.out ?_)
      | (with_reducible show wpList _ _ _ (⟨_, .store 64 _ _, _, _, _, _⟩ :: _) _ _
         refine wpList_store_at rfl 64 (.tmp 12) (.tmp 18) rfl (w.heap.size + 1 + 1) 0 C _ _ rfl rfl H3.out.1 (by have := HZL.out; have := HL.out; omega) (by rw [rp_info, HL.out]) HL1.out ?_
         intro w1 hr1 hg1
         rw [splice_all (HL.out.trans HZL.out.symm)] at hr1
         have Hq1 := Lib.hid hr1
         have Hr1 := Lib.hid (H3.out.2.2.1.kept hg1 (by simp))
         have Hp1 := Lib.hid (H3.out.2.2.2.kept hg1 (by simp; omega))
         have Hb1 := Lib.hid (below_own H3.out.2.1 hg1 (fun k hk => by cases hk; omega))
         clear hr1 hg1)
      | (with_reducible show wpList _ _ _ (⟨_, .load 64 _, _, _, _, _⟩ :: _) _ _; refine wpList_load_tx rfl 64 (.tmp 12) rfl (w.heap.size + 1 + 1) 0 rfl C _ (row_range Hq1.out) Tryz.underlying64 rfl (by rw [rp_info, HL.out]) ?_))
    refine (MB.out w1).mono ?_
    rintro _ w2 ⟨rfl, hb2⟩
    have hg2 := grownBy_of_below hb2 none
    have Hr2 := Lib.hid (Hr1.out.kept hg2 (by simp))
    have Hq2 := Lib.hid (Hq1.out.kept hg2 (by simp))
    have Hb2 := Lib.hid (two_below' Hb1.out hb2)
    have hlt2 := Hq2.out.lt
    clear hb2 hg2 hzv
    go_wp2_with (with_reducible show wpList _ _ _ (⟨_, .load 64 _, _, _, _, _⟩ :: _) _ _; refine wpList_load_tx rfl 64 (.tmp 12) rfl (w.heap.size + 1 + 1) 0 rfl C _ (row_range Hq2.out) Tryz.underlying64 rfl (by rw [rp_info, HL.out]) ?_)
    refine (LK.out w2 (HTab.out.below Hb2.out Hp.out)).mono ?_
    rintro _ w3 ⟨rfl, hb3⟩
    have hg3 := grownBy_of_below hb3 none
    have Hr3 := Lib.hid (Hr2.out.kept hg3 (by simp))
    have Hq3 := Lib.hid (Hq2.out.kept hg3 (by simp))
    have Hb3 := Lib.hid (two_below' Hb2.out hb3)
    clear hb3 hg3
    go_wp2_with (first
      | (with_reducible show wpList _ _ _ (⟨_, .store 62 _ _, _, _, _, _⟩ :: _) _ _
         refine wpList_store_at rfl 62 (.tmp 25) (.tmp 24) rfl (w.heap.size + 1 + 1) 36 (bRow K).toList _ _ rfl rfl Hq3.out (by rw [HB32.out, HL.out]; decide) (by rw [hash_info, HB32.out]) (hash_one K HR.out) ?_
         intro w5 hr5 hg5
         rw [Hcl.out] at hr5
         have Hq5 := Lib.hid hr5
         have Hr5 := Lib.hid (Hr3.out.kept hg5 (by simp))
         have Hb5 := Lib.hid (below_own Hb3.out hg5 (fun k hk => by cases hk; omega))
         clear hr5 hg5)
      | (with_reducible show wpList _ _ _ (⟨_, .load 64 _, _, _, _, _⟩ :: _) _ _; refine wpList_load_tx rfl 64 (.tmp 12) rfl (w.heap.size + 1 + 1) 0 rfl D _ (row_range Hq5.out) Tryz.underlying64 rfl (by rw [rp_info, HDL.out]) ?_)
      | (with_reducible show wpList _ _ _ (⟨_, .store 64 _ _, _, _, _, _⟩ :: _) _ _
         refine wpList_store_at rfl 64 (.tmp 10) (.tmp 26) rfl (w.heap.size + 1) 0 D _ _ rfl rfl Hr5.out (by have := HZL.out; have := HDL.out; omega) (by rw [rp_info, HDL.out]) HD1.out ?_
         intro w8 hr8 hg8
         rw [splice_all (HDL.out.trans HZL.out.symm)] at hr8
         have Hr8 := Lib.hid hr8
         have Hb8 := Lib.hid (below_own Hb5.out hg8 (fun k hk => by cases hk; omega))
         clear hr8 hg8))
    refine bodyPost_ret (results_rowL rfl _ _ (w.heap.size + 1) 64 _ _ rfl Hr8.out Tryz.underlying64 rfl (by rw [rp_info, List.size_toArray, HDL.out]) _ rfl) rfl ⟨rfl, Hb8.out⟩
  · have he : Rp.pairV r.linkE = .tuple #[.agg Rp.zero.cells.toArray, .int .i64 2] := by unfold Rp.linkE; rw [if_neg (by rw [hk]; simp)]; rfl
    have He := Lib.hid he
    generalize Rp.pairV r.linkE = NE at *
    generalize r.cells = C at *
    clear hT hp hrp hrh hr hbu hk he hce HDL HD1 HB32 HR Hcl
    go_enter Tryz.func128, Tryz.ntmps128
    have H3 := Lib.hid (row_three w (bRow p).toList Rp.zero.cells Rp.zero.cells 62 64 64)
    go_wp2_with (first
      | (with_reducible show wpList _ _ _ (⟨_, .load 62 _, _, _, _, _⟩ :: _) _ _; refine wpList_load_tx rfl 62 (.tmp 5) rfl w.heap.size 0 rfl (bRow p).toList _ (World.rangeAt_alloc (row_range Hrow0.out) _) Tryz.underlying62 rfl (by rw [hash_info, HPL.out]) ?_)
      | ((with_reducible show wpList _ _ _ (⟨_, .build 64 _, _, _, _, _⟩ :: _) _ _); refine wpList_buildL rfl 64 [(0, .tmp 13), (1, .tmp 14), (2, .tmp 15), (3, .tmp 16), (4, .tmp 17)] rfl (some 18) rfl [(0, .int .i64 a), (1, .int .i64 k), (2, .int .i64 n), (3, .string body), (4, .agg (bRow p))] rfl C.toArray Hbu.out ?_)
      | (with_reducible show wpList _ _ _ (⟨_, .store 64 _ _, _, _, _, _⟩ :: _) _ _
         refine wpList_store_at rfl 64 (.tmp 12) (.tmp 18) rfl (w.heap.size + 1 + 1) 0 C _ _ rfl rfl H3.out.1 (by have := HZL.out; have := HL.out; omega) (by rw [rp_info, HL.out]) HL1.out ?_
         intro w1 hr1 hg1
         rw [splice_all (HL.out.trans HZL.out.symm)] at hr1
         have Hq1 := Lib.hid hr1
         have Hr1 := Lib.hid (H3.out.2.2.1.kept hg1 (by simp))
         have Hp1 := Lib.hid (H3.out.2.2.2.kept hg1 (by simp; omega))
         have Hb1 := Lib.hid (below_own H3.out.2.1 hg1 (fun k hk => by cases hk; omega))
         clear hr1 hg1)
      | (with_reducible show wpList _ _ _ (⟨_, .load 64 _, _, _, _, _⟩ :: _) _ _; refine wpList_load_tx rfl 64 (.tmp 12) rfl (w.heap.size + 1 + 1) 0 rfl C _ (row_range Hq1.out) Tryz.underlying64 rfl (by rw [rp_info, HL.out]) ?_))
    refine (MB.out w1).mono ?_
    rintro _ w2 ⟨rfl, hb2⟩
    have hg2 := grownBy_of_below hb2 none
    have Hr2 := Lib.hid (Hr1.out.kept hg2 (by simp))
    have Hq2 := Lib.hid (Hq1.out.kept hg2 (by simp))
    have Hb2 := Lib.hid (two_below' Hb1.out hb2)
    have hlt2 := Hq2.out.lt
    clear hb2 hg2 hzv
    have Hr2' : Hid (Row w2 (w.heap.size + 1) 64 Rp.zero.cells) := Hr2
    clear Hr2
    go_wp2_with (first
      | (with_reducible show wpList _ _ _ (⟨_, .build 64 _, _, _, _, _⟩ :: _) _ _; refine wpList_buildL rfl 64 [] rfl (some 22) rfl _ rfl _ Rp.zero_built0 ?_)
      | (with_reducible show wpList _ _ _ (⟨_, .store 64 _ _, _, _, _, _⟩ :: _) _ _
         refine wpList_store_at rfl 64 (.tmp 10) (.tmp 22) rfl (w.heap.size + 1) 0 Rp.zero.cells _ _ rfl rfl Hr2'.out (by have := HZL.out; omega) (by rw [rp_info, HZL.out]) HZ1.out ?_
         intro wZ hrZ hgZ
         rw [splice_all rfl] at hrZ
         have HrZ := Lib.hid hrZ
         have HbZ := Lib.hid (below_own Hb2.out hgZ (fun k hk => by cases hk; omega))
         clear hrZ hgZ))
    refine bodyPost_ret (results_rowL rfl _ _ (w.heap.size + 1) 64 _ _ rfl HrZ.out Tryz.underlying64 rfl (by rw [rp_info, List.size_toArray, HZL.out]) _ rfl) rfl ⟨?_, HbZ.out⟩
    rw [He.out]
    exact rfl
end Go.Proofs.YtalfnadejpmjnaaGreatDoor
namespace Go.Proofs.YtalfnadejpmjnaaGreatDoor
open Go.RowKit
set_option linter.unusedVariables false
set_option linter.unusedSimpArgs false

set_option maxRecDepth 20000 in
theorem writeReceipt_no (r : Rp) (w : World) (hp : r.prev.length = 32) (hh : r.hash.length = 32) (h : r.ok = false) :
    Calls Tryz.prog 94 #[.agg r.cells.toArray] w fun e w' => e = .returned (.tuple #[S [], .int .i64 2]) ∧ Below w.heap.size w w' := by
  have MB : Hid (∀ W, Calls Tryz.prog 112 #[.agg r.cells.toArray] W fun e w' => e = .returned (.bool false) ∧ Below W.heap.size W w') := fun W => by have := linked_any r W; rw [h] at this; exact this
  have HL := Lib.hid (Rp.cells_len hp hh)
  have Hrow0 := Lib.hid (Row.new w 64 r.cells)
  generalize r.cells = C at *
  clear h
  go_enter Tryz.func94, Tryz.ntmps94
  go_wp2_with (with_reducible show wpList _ _ _ (⟨_, .load 64 _, _, _, _, _⟩ :: _) _ _; refine wpList_load_tx rfl 64 (.tmp 1) rfl w.heap.size 0 rfl C _ (row_range Hrow0.out) Tryz.underlying64 rfl (by rw [rp_info, HL.out]) ?_)
  refine (MB.out _).mono ?_
  rintro _ w1 ⟨rfl, hb1⟩
  have Hb1 := Lib.hid (tx_below (grownBy_of_below hb1 none))
  clear hb1
  go_wp2_with fail
  go_ret2
  exact ⟨rfl, Hb1.out⟩
set_option maxRecDepth 20000 in
set_option maxHeartbeats 1600000 in
theorem writeReceipt_ne (r : Rp) (w : World) (hT : Tab w) (hp : r.prev.length = 32) (hh : r.hash.length = 32) (h : r.ok = true) (hl : r.hash ≠ r.link) :
    Calls Tryz.prog 94 #[.agg r.cells.toArray] w fun e w' => e = .returned (.tuple #[S [], .int .i64 7]) ∧ Below w.heap.size w w' := by
  obtain ⟨i0, hi, hz, hs, hby⟩ := str5
  have Hi := Lib.hid hi
  have Hz := Lib.hid hz
  have Hs := Lib.hid hs
  have Hby := Lib.hid hby
  have MB : Hid (∀ W, Calls Tryz.prog 112 #[.agg r.cells.toArray] W fun e w' => e = .returned (.bool true) ∧ Below W.heap.size W w') := fun W => by have := linked_any r W; rw [h] at this; exact this
  have LK := Lib.hid (fun W (hW : Tab W) => link_any r hp hh W hW h)
  have RT := Lib.hid (fun W => receiptTexts_any r W h)
  have HTab := Lib.hid hT
  have Hp := Lib.hid hT.pos
  have HL := Lib.hid (Rp.cells_len hp hh)
  have Hrow0 := Lib.hid (Row.new w 64 r.cells)
  have HP := Lib.hid hp
  have HH := Lib.hid hh
  have HB32 := Lib.hid (Tx.bRow_len _ hh)
  have BT : Hid (∀ (W : World) (g : Nat) (T : TypeId), Row W g T r.cells → W.rangeAt g 4 (bRow r.prev).toList ∧ W.rangeAt g 36 (bRow r.hash).toList) := fun W g T h => ⟨rp_prev hp h, rp_hash hp h⟩
  have heqs : ∀ W, (Op.equalIn 10000 62 (.agg (bRow r.hash)) (.agg (bRow r.link))).run Tryz.prog W = .ok false W := fun W => (hash_eq W _ _ hh (Rp.link_len r)).trans (by rw [decide_eq_false hl])
  have hff : r.texts.map S ++ [S r.prev, S r.hash] = r.fields.map S := by unfold Rp.fields; rw [List.map_append]; rfl
  have Hff := Lib.hid hff
  have Hfl : Hid (5 + 1 = r.fields.length) := (rfl : 5 + 1 = r.fields.length)
  generalize r.link = K at *
  generalize r.texts.map S = NS at *
  generalize r.fields = L at *
  generalize r.cells = C at *
  clear hi hz hs hby h hff hp hh hT hl
  have hu := Tryz.underlying64
  have hi48 : (Tryz.prog.info? 64).map (·.size) = some C.length := by rw [rp_info, HL.out]
  have hu23 := Tryz.underlying62
  have hi23 : (Tryz.prog.info? 62).map (·.size) = some (bRow r.hash).toList.length := by rw [hash_info, HB32.out]
  go_enter Tryz.func94, Tryz.ntmps94
  go_wp2_with (with_reducible show wpList _ _ _ (⟨_, .load 64 _, _, _, _, _⟩ :: _) _ _; refine wpList_load_tx rfl 64 (.tmp 1) rfl w.heap.size 0 rfl C _ (row_range Hrow0.out) Tryz.underlying64 rfl (by rw [rp_info, HL.out]) ?_)
  refine (MB.out _).mono ?_
  rintro _ w1 ⟨rfl, hb1⟩
  have HS0 := Lib.hid ((rowIn_call hb1).drew)
  clear hb1
  go_wp2_with fail
  refine wp_region_held_drew (S := fun w' => RowIn w w' w.heap.size 64 C) (by kernel_rfl) (HS0.out) (fun hHeld => ?_)
  generalize w1.drew = w9 at *
  refine wpAnyH_take (i := 0) (v := .pointer (some ⟨w.heap.size, 36, none⟩)) rfl (by kernel_rfl) (by kernel_rfl) (by kernel_rfl) (fun _ _ _ h => h) (Or.inl ⟨by rfl, fun w' hSw => by go_simp⟩) hHeld ?_
  try simp only [Act.put, List.getElem_toArray, List.getElem_cons_succ, List.getElem_cons_zero, List.setIfInBounds_toArray, List.set_cons_zero, List.set_cons_succ]
  refine' wpAnyH_take (i := 1) (v := _) rfl (by kernel_rfl) (by kernel_rfl) (by kernel_rfl) (fun _ _ _ h => h) (yieldsIf_load_mid (by rfl) _ _ rfl w.heap.size 36 rfl (bRow r.hash).toList _ (fun w' hSw => (BT.out _ _ _ hSw.1).2) hu23 rfl hi23) hHeld ?_
  try simp only [Act.put, List.getElem_toArray, List.getElem_cons_succ, List.getElem_cons_zero, List.setIfInBounds_toArray, List.set_cons_zero, List.set_cons_succ]
  refine' wpAnyH_take (i := 2) (v := _) rfl (by kernel_rfl) (by kernel_rfl) (by kernel_rfl) (fun _ _ _ h => h) (yieldsIf_load_mid (by rfl) _ _ rfl w.heap.size 0 rfl C _ (fun w' hSw => (row_range hSw.1)) hu rfl hi48) hHeld ?_
  try simp only [Act.put, List.getElem_toArray, List.getElem_cons_succ, List.getElem_cons_zero, List.setIfInBounds_toArray, List.set_cons_zero, List.set_cons_succ]
  refine wpAnyH_ready (rs := [3]) (by kernel_rfl) (by simp) (AllReadyH.cons rfl (fun K1 hK1 => ?_) AllReadyH.nil)
  try simp only [Act.put, List.getElem_toArray, List.getElem_cons_succ, List.getElem_cons_zero, List.setIfInBounds_toArray, List.set_cons_zero, List.set_cons_succ]
  go_simp
  refine Calls.mono (LK.out _ (HTab.out.below hHeld.2 Hp.out)) ?_
  rintro e wc1 ⟨rfl, hc2⟩
  refine hK1.out _ _ (hHeld.step hc2) (fun hHeld => ?_)
  clear hK1 K1
  try simp only [Act.put, List.getElem_toArray, List.getElem_cons_succ, List.getElem_cons_zero, List.setIfInBounds_toArray, List.set_cons_zero, List.set_cons_succ]
  refine wpAnyH_take (i := 4) (v := .bool true) rfl (by kernel_rfl) (by kernel_rfl) (by kernel_rfl) (fun _ _ _ h => h) (Or.inl ⟨by rfl, fun w' hSw => by go_simp⟩) hHeld ?_
  try simp only [Act.put, List.getElem_toArray, List.getElem_cons_succ, List.getElem_cons_zero, List.setIfInBounds_toArray, List.set_cons_zero, List.set_cons_succ]
  refine wpAnyH_done (by kernel_rfl) ?_ _
  have Hbe := Lib.hid hHeld.2
  clear hHeld hu hi48 heqs hu23 hi23
  go_wp2_with fail
  go_ret2
  exact ⟨rfl, Hbe.out⟩
set_option maxRecDepth 20000 in
set_option maxHeartbeats 1600000 in
theorem writeReceipt_eq (r : Rp) (w : World) (hT : Tab w) (hp : r.prev.length = 32) (hh : r.hash.length = 32) (h : r.ok = true) (hl : r.hash = r.link) :
    Calls Tryz.prog 94 #[.agg r.cells.toArray] w fun e w' => e = .returned (.tuple #[S (Oct.listE r.fields).1, .int .i64 (Oct.listE r.fields).2]) ∧ Below w.heap.size w w' := by
  obtain ⟨i0, hi, hz, hs, hby⟩ := str5
  have Hi := Lib.hid hi
  have Hz := Lib.hid hz
  have Hs := Lib.hid hs
  have Hby := Lib.hid hby
  have MB : Hid (∀ W, Calls Tryz.prog 112 #[.agg r.cells.toArray] W fun e w' => e = .returned (.bool true) ∧ Below W.heap.size W w') := fun W => by have := linked_any r W; rw [h] at this; exact this
  have LK := Lib.hid (fun W (hW : Tab W) => link_any r hp hh W hW h)
  have RT := Lib.hid (fun W => receiptTexts_any r W h)
  have HTab := Lib.hid hT
  have Hp := Lib.hid hT.pos
  have HL := Lib.hid (Rp.cells_len hp hh)
  have Hrow0 := Lib.hid (Row.new w 64 r.cells)
  have HP := Lib.hid hp
  have HH := Lib.hid hh
  have HB32 := Lib.hid (Tx.bRow_len _ hh)
  have BT : Hid (∀ (W : World) (g : Nat) (T : TypeId), Row W g T r.cells → W.rangeAt g 4 (bRow r.prev).toList ∧ W.rangeAt g 36 (bRow r.hash).toList) := fun W g T h => ⟨rp_prev hp h, rp_hash hp h⟩
  have heqs : ∀ W, (Op.equalIn 10000 62 (.agg (bRow r.hash)) (.agg (bRow r.link))).run Tryz.prog W = .ok true W := fun W => (hash_eq W _ _ hh (Rp.link_len r)).trans (by rw [decide_eq_true hl])
  have hff : r.texts.map S ++ [S r.prev, S r.hash] = r.fields.map S := by unfold Rp.fields; rw [List.map_append]; rfl
  have Hff := Lib.hid hff
  have Hfl : Hid (5 + 1 = r.fields.length) := (rfl : 5 + 1 = r.fields.length)
  generalize r.link = K at *
  generalize r.texts.map S = NS at *
  generalize r.fields = L at *
  generalize r.cells = C at *
  clear hi hz hs hby h hff hp hh hT hl
  have hu := Tryz.underlying64
  have hi48 : (Tryz.prog.info? 64).map (·.size) = some C.length := by rw [rp_info, HL.out]
  have hu23 := Tryz.underlying62
  have hi23 : (Tryz.prog.info? 62).map (·.size) = some (bRow r.hash).toList.length := by rw [hash_info, HB32.out]
  go_enter Tryz.func94, Tryz.ntmps94
  go_wp2_with (with_reducible show wpList _ _ _ (⟨_, .load 64 _, _, _, _, _⟩ :: _) _ _; refine wpList_load_tx rfl 64 (.tmp 1) rfl w.heap.size 0 rfl C _ (row_range Hrow0.out) Tryz.underlying64 rfl (by rw [rp_info, HL.out]) ?_)
  refine (MB.out _).mono ?_
  rintro _ w1 ⟨rfl, hb1⟩
  have HS0 := Lib.hid ((rowIn_call hb1).drew)
  clear hb1
  go_wp2_with fail
  refine wp_region_held_drew (S := fun w' => RowIn w w' w.heap.size 64 C) (by kernel_rfl) (HS0.out) (fun hHeld => ?_)
  generalize w1.drew = w9 at *
  refine wpAnyH_take (i := 0) (v := .pointer (some ⟨w.heap.size, 36, none⟩)) rfl (by kernel_rfl) (by kernel_rfl) (by kernel_rfl) (fun _ _ _ h => h) (Or.inl ⟨by rfl, fun w' hSw => by go_simp⟩) hHeld ?_
  try simp only [Act.put, List.getElem_toArray, List.getElem_cons_succ, List.getElem_cons_zero, List.setIfInBounds_toArray, List.set_cons_zero, List.set_cons_succ]
  refine' wpAnyH_take (i := 1) (v := _) rfl (by kernel_rfl) (by kernel_rfl) (by kernel_rfl) (fun _ _ _ h => h) (yieldsIf_load_mid (by rfl) _ _ rfl w.heap.size 36 rfl (bRow r.hash).toList _ (fun w' hSw => (BT.out _ _ _ hSw.1).2) hu23 rfl hi23) hHeld ?_
  try simp only [Act.put, List.getElem_toArray, List.getElem_cons_succ, List.getElem_cons_zero, List.setIfInBounds_toArray, List.set_cons_zero, List.set_cons_succ]
  refine' wpAnyH_take (i := 2) (v := _) rfl (by kernel_rfl) (by kernel_rfl) (by kernel_rfl) (fun _ _ _ h => h) (yieldsIf_load_mid (by rfl) _ _ rfl w.heap.size 0 rfl C _ (fun w' hSw => (row_range hSw.1)) hu rfl hi48) hHeld ?_
  try simp only [Act.put, List.getElem_toArray, List.getElem_cons_succ, List.getElem_cons_zero, List.setIfInBounds_toArray, List.set_cons_zero, List.set_cons_succ]
  refine wpAnyH_ready (rs := [3]) (by kernel_rfl) (by simp) (AllReadyH.cons rfl (fun K1 hK1 => ?_) AllReadyH.nil)
  try simp only [Act.put, List.getElem_toArray, List.getElem_cons_succ, List.getElem_cons_zero, List.setIfInBounds_toArray, List.set_cons_zero, List.set_cons_succ]
  go_simp
  refine Calls.mono (LK.out _ (HTab.out.below hHeld.2 Hp.out)) ?_
  rintro e wc1 ⟨rfl, hc2⟩
  refine hK1.out _ _ (hHeld.step hc2) (fun hHeld => ?_)
  clear hK1 K1
  try simp only [Act.put, List.getElem_toArray, List.getElem_cons_succ, List.getElem_cons_zero, List.setIfInBounds_toArray, List.set_cons_zero, List.set_cons_succ]
  refine wpAnyH_take (i := 4) (v := .bool false) rfl (by kernel_rfl) (by kernel_rfl) (by kernel_rfl) (fun _ _ _ h => h) (Or.inl ⟨by rfl, fun w' hSw => by go_simp⟩) hHeld ?_
  try simp only [Act.put, List.getElem_toArray, List.getElem_cons_succ, List.getElem_cons_zero, List.setIfInBounds_toArray, List.set_cons_zero, List.set_cons_succ]
  refine wpAnyH_done (by kernel_rfl) ?_ _
  have HS1 := Lib.hid hHeld.drew
  clear hHeld heqs hu23 hi23
  go_wp2_with fail
  refine wp_region_noPanic ?_
  refine wp_region_held_drew (S := fun w' => RowIn w w' w.heap.size 64 C) (by kernel_rfl) (HS1.out) (fun hHeld => ?_)
  generalize wc1.drew = wq at *
  refine' wpAnyH_take (i := 0) (v := _) rfl (by kernel_rfl) (by kernel_rfl) (by kernel_rfl) (fun _ _ _ h => h) (yieldsIf_load_mid (by rfl) _ _ rfl w.heap.size 0 rfl C _ (fun w' hSw => (row_range hSw.1)) hu rfl hi48) hHeld ?_
  try simp only [Act.put, List.getElem_toArray, List.getElem_cons_succ, List.getElem_cons_zero, List.setIfInBounds_toArray, List.set_cons_zero, List.set_cons_succ]
  refine wpAnyH_take (i := 2) (v := .pointer (some ⟨w.heap.size, 4, none⟩)) rfl (by kernel_rfl) (by kernel_rfl) (by kernel_rfl) (fun _ _ _ h => h) (Or.inl ⟨by rfl, fun w' hSw => by go_simp⟩) hHeld ?_
  try simp only [Act.put, List.getElem_toArray, List.getElem_cons_succ, List.getElem_cons_zero, List.setIfInBounds_toArray, List.set_cons_zero, List.set_cons_succ]
  refine wpAnyH_take (i := 3) (v := .slice (some ⟨w.heap.size, 4, none⟩) 32 32) rfl (by kernel_rfl) (by kernel_rfl) (by kernel_rfl) (fun _ _ _ h => h) (Or.inl ⟨by rfl, fun w' hSw => by go_simp⟩) hHeld ?_
  try simp only [Act.put, List.getElem_toArray, List.getElem_cons_succ, List.getElem_cons_zero, List.setIfInBounds_toArray, List.set_cons_zero, List.set_cons_succ]
  refine wpAnyH_take (i := 4) (v := S r.prev) rfl (by kernel_rfl) (by kernel_rfl) (by kernel_rfl) (fun _ _ _ h => h) (Or.inl ⟨by rfl, fun w' hSw => by have hq := hSw; have hc := hash_str4 w' w.heap.size 4 r.prev HP.out (BT.out w' _ _ hq.1).1; go_simp⟩) hHeld ?_
  try simp only [Act.put, List.getElem_toArray, List.getElem_cons_succ, List.getElem_cons_zero, List.setIfInBounds_toArray, List.set_cons_zero, List.set_cons_succ]
  refine wpAnyH_take (i := 5) (v := .pointer (some ⟨w.heap.size, 36, none⟩)) rfl (by kernel_rfl) (by kernel_rfl) (by kernel_rfl) (fun _ _ _ h => h) (Or.inl ⟨by rfl, fun w' hSw => by go_simp⟩) hHeld ?_
  try simp only [Act.put, List.getElem_toArray, List.getElem_cons_succ, List.getElem_cons_zero, List.setIfInBounds_toArray, List.set_cons_zero, List.set_cons_succ]
  refine wpAnyH_take (i := 6) (v := .slice (some ⟨w.heap.size, 36, none⟩) 32 32) rfl (by kernel_rfl) (by kernel_rfl) (by kernel_rfl) (fun _ _ _ h => h) (Or.inl ⟨by rfl, fun w' hSw => by go_simp⟩) hHeld ?_
  try simp only [Act.put, List.getElem_toArray, List.getElem_cons_succ, List.getElem_cons_zero, List.setIfInBounds_toArray, List.set_cons_zero, List.set_cons_succ]
  refine wpAnyH_take (i := 7) (v := S r.hash) rfl (by kernel_rfl) (by kernel_rfl) (by kernel_rfl) (fun _ _ _ h => h) (Or.inl ⟨by rfl, fun w' hSw => by have hq := hSw; have hc := hash_str4 w' w.heap.size 36 r.hash HH.out (BT.out w' _ _ hq.1).2; go_simp⟩) hHeld ?_
  try simp only [Act.put, List.getElem_toArray, List.getElem_cons_succ, List.getElem_cons_zero, List.setIfInBounds_toArray, List.set_cons_zero, List.set_cons_succ]
  refine wpAnyH_ready (rs := [1, 8]) (by kernel_rfl) (by simp) (AllReadyH.cons rfl (fun K1 hK1 => ?_) (AllReadyH.cons rfl (fun K1 hK1 => ?_) AllReadyH.nil))
  · skip
    try simp only [Act.put, List.getElem_toArray, List.getElem_cons_succ, List.getElem_cons_zero, List.setIfInBounds_toArray, List.set_cons_zero, List.set_cons_succ]
    go_simp
    refine Calls.mono (RT.out _) ?_
    rintro e wn1 ⟨vN, rfl, hown, hn2⟩
    have hown := hown.mono hHeld.size
    refine hK1.out _ _ (hHeld.step hn2) (fun hHeld => ?_)
    clear hK1 K1
    try simp only [Act.put, List.getElem_toArray, List.getElem_cons_succ, List.getElem_cons_zero, List.setIfInBounds_toArray, List.set_cons_zero, List.set_cons_succ]
    refine wpAnyH_ready (rs := [8]) (by kernel_rfl) (by simp) (AllReadyH.cons rfl (fun K1 hK1 => ?_) AllReadyH.nil)
    try simp only [Act.put, List.getElem_toArray, List.getElem_cons_succ, List.getElem_cons_zero, List.setIfInBounds_toArray, List.set_cons_zero, List.set_cons_succ]
    go_simp
    have hd4 := (Below.refl wn1.heap.size wn1).alloc (Nat.le_refl _) (.cells #[S r.prev, S r.hash] 9)
    have r2 : Row (wn1.alloc (.cells #[S r.prev, S r.hash] 9)) wn1.heap.size 9 ([S r.prev, S r.hash]) := Row.new wn1 9 ([S r.prev, S r.hash])
    have hown := own_below hown hd4
    have hHeld2 := hHeld.step hd4
    generalize wn1.alloc (.cells #[S r.prev, S r.hash] 9) = wb3 at *
    obtain ⟨gb5, gb5e⟩ : ∃ gb5, gb5 = wn1.heap.size := ⟨_, rfl⟩
    rw [← gb5e] at r2 ⊢
    refine hK1.out _ _ (hHeld2) (fun hHeld => ?_)
    clear hK1 K1
    try simp only [Act.put, List.getElem_toArray, List.getElem_cons_succ, List.getElem_cons_zero, List.setIfInBounds_toArray, List.set_cons_zero, List.set_cons_succ]
    clear hHeld2 gb5e
    refine wpAnyH_ready (rs := [9]) (by kernel_rfl) (by simp) (AllReadyH.cons rfl (fun K1 hK1 => ?_) AllReadyH.nil)
    try simp only [Act.put, List.getElem_toArray, List.getElem_cons_succ, List.getElem_cons_zero, List.setIfInBounds_toArray, List.set_cons_zero, List.set_cons_succ]
    rw [if_pos (by rfl)]
    refine wp_append_own_wide wb3 _ _ 56 rfl w.heap.size 9 i0 (.string ByteArray.empty) 1 16 Tryz.underlying56 Hi.out Hz.out Hs.out Hby.out rfl (by decide) vN 4 NS rfl hown ⟨gb5, 0, none⟩ 2 2 [S r.prev, S r.hash] rfl rfl (row_news r2) (by intro u hu; simp at hu; first | (subst hu; rfl) | (rcases hu with rfl | rfl <;> rfl)) (by unfold maxLen; omega) (by omega) hHeld.size fun vP wp6 hownP hgrow _ => ?_
    have hHeld2 := own_keeps hHeld (by decide) hown (Nat.le_refl _) hgrow
    clear hown r2 hgrow
    refine hK1.out _ _ (hHeld2) (fun hHeld => ?_)
    clear hK1 K1
    try simp only [Act.put, List.getElem_toArray, List.getElem_cons_succ, List.getElem_cons_zero, List.setIfInBounds_toArray, List.set_cons_zero, List.set_cons_succ]
    refine wpAnyH_ready (rs := [10]) (by kernel_rfl) (by simp) (AllReadyH.cons rfl (fun K1 hK1 => ?_) AllReadyH.nil)
    try simp only [Act.put, List.getElem_toArray, List.getElem_cons_succ, List.getElem_cons_zero, List.setIfInBounds_toArray, List.set_cons_zero, List.set_cons_succ]
    go_simp
    refine Calls.mono (list_owned L Hff.out hownP Hfl.out) ?_
    rintro e wl7 ⟨rfl, hl8⟩
    refine hK1.out _ _ (hHeld.step hl8) (fun hHeld => ?_)
    clear hK1 K1
    try simp only [Act.put, List.getElem_toArray, List.getElem_cons_succ, List.getElem_cons_zero, List.setIfInBounds_toArray, List.set_cons_zero, List.set_cons_succ]
    refine wpAnyH_take (i := 11) (v := S (Oct.listE L).1) rfl (by kernel_rfl) (by kernel_rfl) (by kernel_rfl) (fun _ _ _ h => h) (Or.inl ⟨by rfl, fun w' hSw => by go_simp⟩) hHeld ?_
    try simp only [Act.put, List.getElem_toArray, List.getElem_cons_succ, List.getElem_cons_zero, List.setIfInBounds_toArray, List.set_cons_zero, List.set_cons_succ]
    refine wpAnyH_take (i := 12) (v := .int .i64 (Oct.listE L).2) rfl (by kernel_rfl) (by kernel_rfl) (by kernel_rfl) (fun _ _ _ h => h) (Or.inl ⟨by rfl, fun w' hSw => by go_simp⟩) hHeld ?_
    try simp only [Act.put, List.getElem_toArray, List.getElem_cons_succ, List.getElem_cons_zero, List.setIfInBounds_toArray, List.set_cons_zero, List.set_cons_succ]
    refine wpAnyH_take (i := 13) (v := S (Oct.listE L).1) rfl (by kernel_rfl) (by kernel_rfl) (by kernel_rfl) (fun _ _ _ h => h) (Or.inl ⟨by rfl, fun w' hSw => by go_simp⟩) hHeld ?_
    try simp only [Act.put, List.getElem_toArray, List.getElem_cons_succ, List.getElem_cons_zero, List.setIfInBounds_toArray, List.set_cons_zero, List.set_cons_succ]
    refine wpAnyH_take (i := 14) (v := .int .i64 (Oct.listE L).2) rfl (by kernel_rfl) (by kernel_rfl) (by kernel_rfl) (fun _ _ _ h => h) (Or.inl ⟨by rfl, fun w' hSw => by go_simp⟩) hHeld ?_
    try simp only [Act.put, List.getElem_toArray, List.getElem_cons_succ, List.getElem_cons_zero, List.setIfInBounds_toArray, List.set_cons_zero, List.set_cons_succ]
    refine wpAnyH_done (by kernel_rfl) ?_ _
    refine NoPanic.normal ?_
    have Hbe := Lib.hid hHeld.2
    clear hHeld hu hi48
    go_wp2_with fail
    go_ret2
    exact ⟨rfl, Hbe.out⟩
  · skip
    try simp only [Act.put, List.getElem_toArray, List.getElem_cons_succ, List.getElem_cons_zero, List.setIfInBounds_toArray, List.set_cons_zero, List.set_cons_succ]
    go_simp
    have hd10 := (Below.refl wq.heap.size wq).alloc (Nat.le_refl _) (.cells #[S r.prev, S r.hash] 9)
    have r2 : Row (wq.alloc (.cells #[S r.prev, S r.hash] 9)) wq.heap.size 9 ([S r.prev, S r.hash]) := Row.new wq 9 ([S r.prev, S r.hash])
    have hHeld2 := hHeld.step hd10
    generalize wq.alloc (.cells #[S r.prev, S r.hash] 9) = wb9 at *
    obtain ⟨gb11, gb11e⟩ : ∃ gb11, gb11 = wq.heap.size := ⟨_, rfl⟩
    rw [← gb11e] at r2 ⊢
    refine hK1.out _ _ (hHeld2) (fun hHeld => ?_)
    clear hK1 K1
    try simp only [Act.put, List.getElem_toArray, List.getElem_cons_succ, List.getElem_cons_zero, List.setIfInBounds_toArray, List.set_cons_zero, List.set_cons_succ]
    clear hHeld2 gb11e
    refine wpAnyH_ready (rs := [1]) (by kernel_rfl) (by simp) (AllReadyH.cons rfl (fun K1 hK1 => ?_) AllReadyH.nil)
    try simp only [Act.put, List.getElem_toArray, List.getElem_cons_succ, List.getElem_cons_zero, List.setIfInBounds_toArray, List.set_cons_zero, List.set_cons_succ]
    go_simp
    refine Calls.mono (RT.out _) ?_
    rintro e wn12 ⟨vN, rfl, hown, hn13⟩
    have hown := hown.mono hHeld.size
    have r2 := r2.kept (grownBy_of_below hn13 none) (by simp)
    refine hK1.out _ _ (hHeld.step hn13) (fun hHeld => ?_)
    clear hK1 K1
    try simp only [Act.put, List.getElem_toArray, List.getElem_cons_succ, List.getElem_cons_zero, List.setIfInBounds_toArray, List.set_cons_zero, List.set_cons_succ]
    refine wpAnyH_ready (rs := [9]) (by kernel_rfl) (by simp) (AllReadyH.cons rfl (fun K1 hK1 => ?_) AllReadyH.nil)
    try simp only [Act.put, List.getElem_toArray, List.getElem_cons_succ, List.getElem_cons_zero, List.setIfInBounds_toArray, List.set_cons_zero, List.set_cons_succ]
    rw [if_pos (by rfl)]
    refine wp_append_own_wide wn12 _ _ 56 rfl w.heap.size 9 i0 (.string ByteArray.empty) 1 16 Tryz.underlying56 Hi.out Hz.out Hs.out Hby.out rfl (by decide) vN 4 NS rfl hown ⟨gb11, 0, none⟩ 2 2 [S r.prev, S r.hash] rfl rfl (row_news r2) (by intro u hu; simp at hu; first | (subst hu; rfl) | (rcases hu with rfl | rfl <;> rfl)) (by unfold maxLen; omega) (by omega) hHeld.size fun vP wp14 hownP hgrow _ => ?_
    have hHeld2 := own_keeps hHeld (by decide) hown (Nat.le_refl _) hgrow
    clear hown r2 hgrow
    refine hK1.out _ _ (hHeld2) (fun hHeld => ?_)
    clear hK1 K1
    try simp only [Act.put, List.getElem_toArray, List.getElem_cons_succ, List.getElem_cons_zero, List.setIfInBounds_toArray, List.set_cons_zero, List.set_cons_succ]
    refine wpAnyH_ready (rs := [10]) (by kernel_rfl) (by simp) (AllReadyH.cons rfl (fun K1 hK1 => ?_) AllReadyH.nil)
    try simp only [Act.put, List.getElem_toArray, List.getElem_cons_succ, List.getElem_cons_zero, List.setIfInBounds_toArray, List.set_cons_zero, List.set_cons_succ]
    go_simp
    refine Calls.mono (list_owned L Hff.out hownP Hfl.out) ?_
    rintro e wl15 ⟨rfl, hl16⟩
    refine hK1.out _ _ (hHeld.step hl16) (fun hHeld => ?_)
    clear hK1 K1
    try simp only [Act.put, List.getElem_toArray, List.getElem_cons_succ, List.getElem_cons_zero, List.setIfInBounds_toArray, List.set_cons_zero, List.set_cons_succ]
    refine wpAnyH_take (i := 11) (v := S (Oct.listE L).1) rfl (by kernel_rfl) (by kernel_rfl) (by kernel_rfl) (fun _ _ _ h => h) (Or.inl ⟨by rfl, fun w' hSw => by go_simp⟩) hHeld ?_
    try simp only [Act.put, List.getElem_toArray, List.getElem_cons_succ, List.getElem_cons_zero, List.setIfInBounds_toArray, List.set_cons_zero, List.set_cons_succ]
    refine wpAnyH_take (i := 12) (v := .int .i64 (Oct.listE L).2) rfl (by kernel_rfl) (by kernel_rfl) (by kernel_rfl) (fun _ _ _ h => h) (Or.inl ⟨by rfl, fun w' hSw => by go_simp⟩) hHeld ?_
    try simp only [Act.put, List.getElem_toArray, List.getElem_cons_succ, List.getElem_cons_zero, List.setIfInBounds_toArray, List.set_cons_zero, List.set_cons_succ]
    refine wpAnyH_take (i := 13) (v := S (Oct.listE L).1) rfl (by kernel_rfl) (by kernel_rfl) (by kernel_rfl) (fun _ _ _ h => h) (Or.inl ⟨by rfl, fun w' hSw => by go_simp⟩) hHeld ?_
    try simp only [Act.put, List.getElem_toArray, List.getElem_cons_succ, List.getElem_cons_zero, List.setIfInBounds_toArray, List.set_cons_zero, List.set_cons_succ]
    refine wpAnyH_take (i := 14) (v := .int .i64 (Oct.listE L).2) rfl (by kernel_rfl) (by kernel_rfl) (by kernel_rfl) (fun _ _ _ h => h) (Or.inl ⟨by rfl, fun w' hSw => by go_simp⟩) hHeld ?_
    try simp only [Act.put, List.getElem_toArray, List.getElem_cons_succ, List.getElem_cons_zero, List.setIfInBounds_toArray, List.set_cons_zero, List.set_cons_succ]
    refine wpAnyH_done (by kernel_rfl) ?_ _
    refine NoPanic.normal ?_
    have Hbe := Lib.hid hHeld.2
    clear hHeld hu hi48
    go_wp2_with fail
    go_ret2
    exact ⟨rfl, Hbe.out⟩
theorem writeReceipt_any (r : Rp) (hp : r.prev.length = 32) (hh : r.hash.length = 32) (w : World) (hT : Tab w) :
    Calls Tryz.prog 94 #[r.v] w fun e w' => e = .returned (two r.textE.1 r.textE.2) ∧ Below w.heap.size w w' := by
  unfold Rp.textE
  rcases Bool.eq_false_or_eq_true r.ok with h | h
  · rw [if_pos h]
    by_cases hl : r.hash = r.link
    · rw [if_pos hl]; exact writeReceipt_eq r w hT hp hh h hl
    · rw [if_neg hl]; exact writeReceipt_ne r w hT hp hh h hl
  · rw [if_neg (by rw [h]; simp)]; exact writeReceipt_no r w hp hh h
end Go.Proofs.YtalfnadejpmjnaaGreatDoor

/- ---- NoReg ---- -/
/- Steps of drawn regions: a struct literal with rows; a row stored. -/
namespace Go.Proofs.YtalfnadejpmjnaaGreatDoor
open Go.RowKit
set_option linter.unusedVariables false
set_option linter.unusedSimpArgs false

theorem yieldsIf_buildL {P : Program} {ops : Array Oper} {S : World → Prop} {op : Oper} {a : Act} (hw : Region.wanted op (yielded ops a.tmps) = true) (t : TypeId) (parts : List (Nat × Operand)) (ho : op.op = .build t parts.toArray)
    (vs : List (Nat × Value)) (hv : parts.map (fun p => (p.1, a.eval p.2)) = vs) (cells : Array Value) (hf : P.built t vs = some cells) : YieldsIf P ops S op (.agg cells) a :=
  .inl ⟨hw, fun w _ => by
    have e : (parts.toArray.map fun (i, x) => (i, a.eval x)).toList = vs := by rw [← hv]; simp
    have h2 : P.built t ((parts.toArray.map fun (i, x) => (i, a.eval x)).toList) = some cells := by rw [e]; exact hf
    unfold execOp
    simp only [ho, Sem.run_bind, run_build w t _ cells h2, Result.andThen_ok, Sem.run_pure]⟩
theorem wp_store_at {P : Program} {op : Oper} {a : Act} {w : World} {K : Act → World → Prop} {Q : Exit → Act → World → Prop} (ty : TypeId) (x y : Operand) (ho : op.op = .store ty x y)
    (g off : Nat) (l xs : List Value) (T : TypeId) (hx : a.eval x = .pointer (some ⟨g, off, none⟩)) (hy : a.eval y = .agg l.toArray) (hg : Row w g T xs) (hoff : off + l.length ≤ xs.length)
    (hi : (P.info? ty).map (·.size) = some l.length) (h1 : ∀ v ∈ l, v.oneCell' = true)
    (h : ∀ w', Row w' g T (xs.take off ++ (l ++ xs.drop (off + l.length))) → w.grownBy w' (some g) → K (a.put op.dst undef) w') : op.wp P a w K Q := by
  obtain ⟨r1, r2⟩ := row_setCells l off w xs hg hoff
  exact wp_store_mid ty x y ho g off l.toArray hx hy (fun j hj => ⟨by
    have hj' : j < l.length := by simpa using hj
    rw [hg.cell (off + j) (by omega)]; rfl, hg.free _⟩) (by simpa using hi) (all_oneCell_toArray h1) (h _ r1 r2)
end Go.Proofs.YtalfnadejpmjnaaGreatDoor

/- ---- NoE ---- -/
/- The reference of layer 5: Link. -/
/- The reference of layer 5: WriteReceipt; receipts held against each other. -/
namespace Go.Proofs.YtalfnadejpmjnaaGreatDoor
open Go.RowKit
set_option linter.unusedVariables false
set_option linter.unusedSimpArgs false

/-- what Link's drawn statement counts on -/
def LinkIn (w0 W : World) (p : List UInt8) : Prop := Below w0.heap.size w0 W ∧ Row W w0.heap.size 62 (bRow p).toList ∧ ∃ Z : List Value, Z.length = 68 ∧ Row W (w0.heap.size + 1) 64 Z
theorem LinkIn.step {w0 W W' : World} {p : List UInt8} (h : LinkIn w0 W p) (hb : Below W.heap.size W W') : LinkIn w0 W' p := by
  obtain ⟨h1, h2, Z, h3, h4⟩ := h
  have hg := grownBy_of_below hb none
  exact ⟨two_below' h1 hb, h2.kept hg (by simp), Z, h3, h4.kept hg (by simp)⟩
theorem LinkIn.put {w0 W W' : World} {p : List UInt8} {Z : List Value} (h : LinkIn w0 W p) (hg : W.grownBy W' (some (w0.heap.size + 1))) (hZ : Z.length = 68) (hr : Row W' (w0.heap.size + 1) 64 Z) : LinkIn w0 W' p :=
  ⟨h.1.grown hg h.1.size (fun k hk => by cases hk; omega), h.2.1.kept hg (by simp), Z, hZ, hr⟩
end Go.Proofs.YtalfnadejpmjnaaGreatDoor
namespace Go.Proofs.YtalfnadejpmjnaaGreatDoor
open Go.RowKit
set_option linter.unusedVariables false
set_option linter.unusedSimpArgs false

namespace Rp
end Rp
end Go.Proofs.YtalfnadejpmjnaaGreatDoor

/- ---- NoG ---- -/
/- The reference of layer 5: a part's text. -/
/- The reference of layer 5: WriteBatch. -/
namespace Go.Proofs.YtalfnadejpmjnaaGreatDoor
open Go.RowKit
set_option linter.unusedVariables false
set_option linter.unusedSimpArgs false

end Go.Proofs.YtalfnadejpmjnaaGreatDoor
namespace Go.Proofs.YtalfnadejpmjnaaGreatDoor
open Go.RowKit
set_option linter.unusedVariables false
set_option linter.unusedSimpArgs false

structure Bt.Fits (b : Bt) : Prop where
  seq : Tx.fits b.seq
  first : Tx.fits b.first
  before : Tx.fits b.before
  texts : ∀ p ∈ b.parts, p.2.length ≤ 140737488351232
end Go.Proofs.YtalfnadejpmjnaaGreatDoor

/- ---- NoBlocks ---- -/
/- Blocks that a walk holds: each with what it holds, all made since the call began. -/
namespace Go.Proofs.YtalfnadejpmjnaaGreatDoor
open Go.RowKit
set_option linter.unusedVariables false
set_option linter.unusedSimpArgs false

theorem Row.type {w : World} {B : Nat} {t u : TypeId} {xs ys : List Value} (h : Row w B t xs) (k : Row w B u ys) : t = u := by
  unfold Row at h k
  rw [h] at k
  injection k with k
  injection k
/-- what is in the blocks of a list -/
def Blocks (w0 W : World) (l : List (Nat × TypeId × List Value)) : Prop := Below w0.heap.size w0 W ∧ ∀ x ∈ l, Row W x.1 x.2.1 x.2.2
namespace Blocks
variable {w0 W W' : World} {l : List (Nat × TypeId × List Value)} {g : Nat} {T : TypeId} {C : List Value}
theorem nil (h : Below w0.heap.size w0 W) : Blocks w0 W [] := ⟨h, by simp⟩
theorem step (h : Blocks w0 W l) (hb : Below W.heap.size W W') : Blocks w0 W' l := ⟨two_below' h.1 hb, fun x hx => (h.2 x hx).kept (grownBy_of_below hb none) (by simp)⟩
theorem drew (h : Blocks w0 W l) : Blocks w0 W.drew l := h.step (Below.refl _ _).drew
theorem alloc (h : Blocks w0 W l) (o : Obj) : Blocks w0 (W.alloc o) l := h.step ((Below.refl _ _).alloc (Nat.le_refl _) o)
theorem put (h : Blocks w0 W l) (hg : W.grownBy W' (some g)) (hs : w0.heap.size ≤ g) (hn : ∀ x ∈ l, x.1 ≠ g) : Blocks w0 W' l :=
  ⟨h.1.grown hg h.1.size (fun k hk => by cases hk; exact hs), fun x hx => (h.2 x hx).kept hg (by have := hn x hx; simpa using this)⟩
theorem cons (h : Blocks w0 W l) (hr : Row W g T C) : Blocks w0 W ((g, T, C) :: l) := ⟨h.1, fun x hx => by
  rcases List.mem_cons.1 hx with rfl | hx
  · exact hr
  · exact h.2 x hx⟩
theorem size (h : Blocks w0 W l) : w0.heap.size ≤ W.heap.size := h.1.size
theorem fresh (h : Blocks w0 W l) : ∀ x ∈ l, x.1 ≠ W.heap.size := fun x hx => by have := (h.2 x hx).lt; omega
theorem hd (h : Blocks w0 W ((g, T, C) :: l)) : Row W g T C := h.2 (g, T, C) List.mem_cons_self
end Blocks
end Go.Proofs.YtalfnadejpmjnaaGreatDoor

/- ---- NoRf1 ---- -/
/- The reference of layer 4 and 5: List, Number, numbers. -/
namespace Go.Proofs.YtalfnadejpmjnaaGreatDoor
open Go.RowKit
set_option linter.unusedVariables false
set_option linter.unusedSimpArgs false

namespace No
end No
end Go.Proofs.YtalfnadejpmjnaaGreatDoor

/- ---- NoRf3 ---- -/
/- The reference of layer 4: Hash. -/
namespace Go.Proofs.YtalfnadejpmjnaaGreatDoor
open Go.RowKit
set_option linter.unusedVariables false
set_option linter.unusedSimpArgs false

end Go.Proofs.YtalfnadejpmjnaaGreatDoor

/- ---- NoRc4 ---- -/
/- notes: ReadReceipt. -/
namespace Go.Proofs.YtalfnadejpmjnaaGreatDoor
open Go.RowKit
set_option linter.unusedVariables false
set_option linter.unusedSimpArgs false

namespace Rp
end Rp
/-- two blocks as they were -/
def RowIn2 (w0 W : World) (g g2 : Nat) (T : TypeId) (C Z : List Value) : Prop := RowIn w0 W g T C ∧ Row W g2 T Z
theorem RowIn2.step {w0 W W' : World} {g g2 : Nat} {T : TypeId} {C Z : List Value} (h : RowIn2 w0 W g g2 T C Z) (hb : Below W.heap.size W W') : RowIn2 w0 W' g g2 T C Z :=
  ⟨h.1.step hb, h.2.kept (grownBy_of_below hb none) (by simp)⟩
end Go.Proofs.YtalfnadejpmjnaaGreatDoor
