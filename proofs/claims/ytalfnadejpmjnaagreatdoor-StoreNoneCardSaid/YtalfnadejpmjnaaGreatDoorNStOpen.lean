/- What later texts need of the earlier layers. -/
import Derived.Test.YtalfnadejpmjnaaGreatDoorNSlO
import Derived.Test.YtalfnadejpmjnaaGreatDoorNSlS
import Derived.Test.YtalfnadejpmjnaaGreatDoorNSlT
import Derived.Test.YtalfnadejpmjnaaGreatDoorNDkA
import Derived.Test.YtalfnadejpmjnaaGreatDoorNDkB
import Derived.Test.YtalfnadejpmjnaaGreatDoorNDkC
import Derived.Test.YtalfnadejpmjnaaGreatDoorNDkD
import Derived.Test.YtalfnadejpmjnaaGreatDoorNJrA
import Derived.Test.YtalfnadejpmjnaaGreatDoorNJrB
import Derived.Test.YtalfnadejpmjnaaGreatDoorNJrAdd
import Derived.Test.YtalfnadejpmjnaaGreatDoorNSlC
import Derived.Test.YtalfnadejpmjnaaGreatDoorNSlA
import Derived.Test.YtalfnadejpmjnaaGreatDoorNSlB
import Derived.Test.YtalfnadejpmjnaaGreatDoorNSlD
import Derived.Test.YtalfnadejpmjnaaGreatDoorNTxBack
import Derived.Test.YtalfnadejpmjnaaGreatDoorNOdA
import Derived.Test.YtalfnadejpmjnaaGreatDoorNRwA
import Derived.Test.YtalfnadejpmjnaaGreatDoorNOdB
import Derived.Test.YtalfnadejpmjnaaGreatDoorNOdAsk
import Derived.Test.YtalfnadejpmjnaaGreatDoorNOdLink
import Derived.Test.YtalfnadejpmjnaaGreatDoorNOdPut
import Derived.Test.YtalfnadejpmjnaaGreatDoorNOdAdd
import Derived.Test.YtalfnadejpmjnaaGreatDoorNStMem
import Derived.Test.YtalfnadejpmjnaaGreatDoorNOdTake
import Derived.Test.YtalfnadejpmjnaaGreatDoorNStA
import Derived.Test.YtalfnadejpmjnaaGreatDoorNShelfB
import Derived.Test.YtalfnadejpmjnaaGreatDoorNJrBld
import Derived.Test.YtalfnadejpmjnaaGreatDoorNJrC
import Derived.Test.YtalfnadejpmjnaaGreatDoorNStB
import Derived.Test.YtalfnadejpmjnaaGreatDoorNStAwk
import Derived.Deep.Slices
import Derived.Lib.SmallJoins
import Derived.Deep.AppendSrc
import Derived.Deep.DeepAppendWide
import Derived.OwnWalk
import Derived.Below
import Derived.WalkKit
import Derived.Shelf.Sort.Plain
import Derived.Shelf.Slices.In.SortNone
import Derived.Deep.QuietTactic
import Derived.BigQuiet
/- ---- StOpen ---- -/
/- What comes in at layer 20: acts. -/
namespace Go.Proofs.YtalfnadejpmjnaaGreatDoor
open Go.ChangeShapes Go.WideShapes Go.ChangeAt Go.RowKit Go.Joins Go.Deep
set_option linter.unusedVariables false
set_option linter.unusedSimpArgs false
set_option maxRecDepth 100000

theorem seg_step {cs seg rest : List Value} {o s : Nat} (h1 : (cs.drop o).take s = seg) (h2 : cs.drop (o + s) = rest) : cs.drop o = seg ++ rest := by
  rw [← h1, ← h2, ← List.drop_drop, List.take_append_drop]
theorem str_fits {H : Type} {s : ByteArray} {T : TypeId} {d : DataW H} (hwt : ∀ n ∈ d.weights Tryz.prog T, n ≤ reachBytes) (hm : s.data.toList.length ∈ d.weights Tryz.prog T) : s.size ≤ 140737488351232 := by
  have h6 := hwt _ hm
  have h7 : reachBytes = 140737488351232 := by decide
  have h8 : s.data.toList.length = s.size := rfl
  omega
structure Act20 where
  kind : Int
  mkind : Int
  later : Int
  n : Int
  body : ByteArray
def Act20.cells (x : Act20) : List Value := [.int .i64 x.kind] ++ ([.int .i64 x.mkind] ++ ([.int .i64 x.later] ++ ([.int .i64 x.n] ++ ([.string x.body] ++ []))))
structure Act20.Fits (x : Act20) : Prop where
  kind : (-9223372036854775808 ≤ x.kind ∧ x.kind ≤ 9223372036854775807)
  mkind : (-9223372036854775808 ≤ x.mkind ∧ x.mkind ≤ 9223372036854775807)
  later : (-9223372036854775808 ≤ x.later ∧ x.later ≤ 9223372036854775807)
  n : (-9223372036854775808 ≤ x.n ∧ x.n ≤ 9223372036854775807)
  body : x.body.size ≤ 140737488351232
theorem Act20.cells_len {x : Act20} (h : x.Fits) : x.cells.length = 5 := by
  unfold Act20.cells
  simp only [List.length_append, List.length_cons, List.length_nil]
section
variable {H : Type} {enc : TypeId × Value → H} {fuel : Nat}
theorem Act20_cells {W : World} {cs : List Value} {x : DataW H × List MemPlace} (hcs : cs.length = 5) (h : DataW.trod enc Tryz.prog W 0 (fun _ => true) true fuel 36 cs = some x)
    (hwt : ∀ n ∈ x.1.weights Tryz.prog 36, n ≤ reachBytes) : ∃ y : Act20, y.Fits ∧ cs = y.cells := by
  obtain ⟨xs, n, _, hx, _, hlen, hg⟩ := DataW.trod_struct Tryz.underlying36 h
  have h0 : DataW.trod enc Tryz.prog W 0 (fun _ => true) true n 3 ((cs.drop 0).take (Tryz.prog.cellsOf 3)) = xs[0]? := hg 0 _ rfl
  rw [show Tryz.prog.cellsOf 3 = 1 by kernel_rfl] at h0
  have h1 : DataW.trod enc Tryz.prog W 0 (fun _ => true) true n 3 ((cs.drop 1).take (Tryz.prog.cellsOf 3)) = xs[1]? := hg 1 _ rfl
  rw [show Tryz.prog.cellsOf 3 = 1 by kernel_rfl] at h1
  have h2 : DataW.trod enc Tryz.prog W 0 (fun _ => true) true n 3 ((cs.drop 2).take (Tryz.prog.cellsOf 3)) = xs[2]? := hg 2 _ rfl
  rw [show Tryz.prog.cellsOf 3 = 1 by kernel_rfl] at h2
  have h3 : DataW.trod enc Tryz.prog W 0 (fun _ => true) true n 3 ((cs.drop 3).take (Tryz.prog.cellsOf 3)) = xs[3]? := hg 3 _ rfl
  rw [show Tryz.prog.cellsOf 3 = 1 by kernel_rfl] at h3
  have h4 : DataW.trod enc Tryz.prog W 0 (fun _ => true) true n 9 ((cs.drop 4).take (Tryz.prog.cellsOf 9)) = xs[4]? := hg 4 _ rfl
  rw [show Tryz.prog.cellsOf 9 = 1 by kernel_rfl] at h4
  match xs, hlen with
  | [y0, y1, y2, y3, y4], _ =>
    have hde : x.1 = .agg [y0.1, y1.1, y2.1, y3.1, y4.1] := by rw [hx]; rfl
    obtain ⟨n0, e0, f0, w0⟩ := DataW.trod_int Tryz.underlying3 h0
    obtain ⟨n1, e1, f1, w1⟩ := DataW.trod_int Tryz.underlying3 h1
    obtain ⟨n2, e2, f2, w2⟩ := DataW.trod_int Tryz.underlying3 h2
    obtain ⟨n3, e3, f3, w3⟩ := DataW.trod_int Tryz.underlying3 h3
    obtain ⟨n4, e4, f4, w4⟩ := DataW.trod_string Tryz.underlying9 h4
    refine ⟨⟨n0, n1, n2, n3, n4⟩, ⟨bounds_i64 w0, bounds_i64 w1, bounds_i64 w2, bounds_i64 w3, str_fits hwt (by rw [hde, f4]; unfold DataW.weights; rw [Tryz.underlying36]; exact DataW.weights_mem_each (j := 4) (t := 9) (d := .lit (.string n4.data.toList)) rfl rfl _ (by simp [DataW.weights]))⟩, ?_⟩
    have e := seg_step (o := 0) (s := 1) e0 (seg_step (o := 1) (s := 1) e1 (seg_step (o := 2) (s := 1) e2 (seg_step (o := 3) (s := 1) e3 (seg_step (o := 4) (s := 1) e4 (List.drop_of_length_le (by rw [hcs]; decide))))))
    rw [List.drop_zero] at e
    exact e
end
section
variable {H : Type} {enc : TypeId × Value → H} {W : World} {r : Reach} {b0 : Nat} {v : Value} {d : DataW H} {ps : List MemPlace} {ts : List TypeId} {ds : List (DataW H)} {j : Nat}
theorem open_Act201 (hv : Value.okWide Tryz.prog W r b0 36 v) (h : DataW.Trod enc Tryz.prog W 0 (fun _ => true) true 36 v d ps)
    (hsz : (DataW.weightsEach Tryz.prog ts ds).all (· ≤ reachBytes) = true) (ht : ts[j]? = some 36) (hd : ds[j]? = some d) :
    ∃ y : Act20, y.Fits ∧ v = .agg y.cells.toArray := by
  have hwt : ∀ n ∈ d.weights Tryz.prog 36, n ≤ reachBytes := fun n hn => by
    have := List.all_eq_true.1 hsz _ (DataW.weights_mem_each ht hd n hn)
    simpa using this
  obtain ⟨cs, rfl, hcz⟩ := okWide_struct Tryz.underlying36 hv
  obtain ⟨fuel, hf⟩ := h
  obtain ⟨y, h1, h2⟩ := Act20_cells (cs := cs.toList) (x := (d, ps)) (by rw [Array.length_toList, hcz]; kernel_rfl) hf hwt
  exact ⟨y, h1, by rw [← h2, Array.toArray_toList]⟩
/-- a list of them -/
def Act20sAt (W : World) (B : Nat) (A : Option Addr) (l : List Act20) : Prop :=
  (l ≠ [] → ∃ b off, A = some ⟨b, off, none⟩ ∧ b < B ∧ ∀ i (h : i < l.length), W.rangeAt b (off + i * 5) l[i].cells) ∧ (A = none → l = []) ∧ (∀ x ∈ l, x.Fits) ∧ l.length ≤ 9223372036854775807
theorem Act20sAt.below {W W' : World} {B : Nat} {A : Option Addr} {l : List Act20} (h : Act20sAt W B A l) (hb : Below B W W') : Act20sAt W' B A l :=
  ⟨fun hne => by
    obtain ⟨b, off, h1, h2, h3⟩ := h.1 hne
    exact ⟨b, off, h1, h2, fun i hi => (fun j v hv => by
      have := h3 i hi j v hv
      rw [← this]; exact hb.cell (p := ⟨b, off + i * 5 + j, none⟩) h2)⟩, h.2.1, h.2.2⟩
theorem Act20sAt.mono {W : World} {B B' : Nat} {A : Option Addr} {l : List Act20} (h : Act20sAt W B A l) (hB : B ≤ B') : Act20sAt W B' A l :=
  ⟨fun hne => by
    obtain ⟨b, off, h1, h2, h3⟩ := h.1 hne
    exact ⟨b, off, h1, by omega, h3⟩, h.2⟩
end
end Go.Proofs.YtalfnadejpmjnaaGreatDoor
