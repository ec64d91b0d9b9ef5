/- Both gates: what each call makes of them. -/
import Derived.Test.YtoicpidiejhjeaaDoorAdSit
import Derived.Test.YtoicpidiejhjeaaDoorAdLv
import Derived.Test.YtoicpidiejhjeaaDoorAdOf
namespace Go.Proofs.YtoicpidiejhjeaaDoor
open Go.RowKit Go.Maps
set_option linter.unusedVariables false
set_option linter.unusedSimpArgs false

section
variable {w wr : World} {B M X K n m : Nat} {fl : Int} {g : Ad.G} {v : Value} {N : List Int} {L : List Tx}
/-- behind a call of the reference's: rows that were none of it stay -/
def StaysG (X K : Nat) (v : Value) (w w' : World) : Prop := ∀ b T xs, ¬ RGS X K v b → Row w b T xs → Row w' b T xs
theorem AllG.askS (hT : Tab w) (s : ByteArray) (hs : s.size ≤ 9223372036854775807) (h : AllG w wr B M X K fl g n v N L m) :
    Calls Tryd.prog 11 #[.pointer (some ⟨B, 0, none⟩), .string s] wr fun e w' => e = .returned (.tuple #[.agg (Ad.askT g s.data.toList).cells.toArray, .int .i64 (Ad.askE g s.data.toList)]) ∧ AllG w w' B M X K fl g n v N L m ∧ Below wr.heap.size wr w' :=
  (askS_any s hs h.own.own (hT.below h.own.low hT.pos)).mono fun e W ⟨h1, h2⟩ => ⟨h1, h.below h2, h2⟩
theorem AllG.enterS (hT : Tab w) (s : ByteArray) (hs : s.size ≤ 9223372036854775807) (h : AllG w wr B M X K fl g n v N L m) (hn : n ≤ 1000) :
    Calls Tryd.prog 12 #[.pointer (some ⟨B, 0, none⟩), .string s] wr fun e w' => e = .returned (.tuple #[.agg (Ad.askT g s.data.toList).cells.toArray, .int .i64 (Ad.askE g s.data.toList)]) ∧ AllG w w' B M X K fl (Ad.enter g s.data.toList) (n + 1) v N L m ∧ KeepsG wr w' :=
  (enter_any s hs h.own hT hn).mono fun e W ⟨h1, h2, h3⟩ => ⟨h1, h.ownStep h2 h3, h3⟩
theorem AllG.leaveS (hT : Tab w) (t : Tx) (ht : t.Ok) (h : AllG w wr B M X K fl g n v N L m) :
    Calls Tryd.prog 19 #[.pointer (some ⟨B, 0, none⟩), .agg t.cells.toArray] wr fun e w' => e = .returned (.int .i64 (Ad.namedE g t)) ∧ AllG w w' B M X K fl (Ad.leave g t) (n + 1) v N L m ∧ KeepsG wr w' :=
  (leave_any t ht h.own hT).mono fun e W ⟨h1, h2, h3⟩ => ⟨h1, h.ownStep h2 h3, h3⟩
theorem AllG.doneS (hT : Tab w) (t : Tx) (ht : t.Ok) (h : AllG w wr B M X K fl g n v N L m) (hn : n ≤ 1000) :
    Calls Tryd.prog 18 #[.pointer (some ⟨B, 0, none⟩), .agg t.cells.toArray] wr fun e w' => e = .returned (.int .i64 (Ad.doneE g t)) ∧ AllG w w' B M X K fl (Ad.done g t) (n + 2) v N L m ∧ KeepsG wr w' :=
  (done_any t ht h.own hT hn).mono fun e W ⟨h1, h2, h3⟩ => ⟨h1, h.ownStep h2 h3, h3⟩
theorem AllG.raskS (hRS : RefSum) (s : ByteArray) (hs : s.size ≤ 140737488351232) (h : AllG w wr B M X K fl g n v N L m) (hm : m ≤ 1000) :
    Calls Tryd.prog 20 #[.pointer (some ⟨X, 0, none⟩), .string s] wr fun e w' => (∃ (t : Tx) (i : Int), t.Ok ∧ e = .returned (.tuple #[.agg t.cells.toArray, .int .i64 i])) ∧ AllG w w' B M X K fl g n v N L m ∧ Below wr.heap.size wr w' :=
  (rgAsk_any hRS s hs h.ref hm).mono fun e W ⟨⟨t, i, h1, _, h3⟩, h2⟩ => ⟨⟨t, i, h1, h3⟩, h.below h2, h2⟩
theorem AllG.renterS (hRS : RefSum) (s : ByteArray) (hs : s.size ≤ 140737488351232) (h : AllG w wr B M X K fl g n v N L m) (hm : m ≤ 900) :
    Calls Tryd.prog 15 #[.pointer (some ⟨X, 0, none⟩), .string s] wr fun e w' => (∃ (t : Tx) (i : Int), t.Ok ∧ e = .returned (.tuple #[.agg t.cells.toArray, .int .i64 i])) ∧ (∃ v' L', AllG w w' B M X K fl g n v' N L' (m + 1)) ∧ StaysG X K v wr w' :=
  (rgEnter_any hRS s hs h.ref hm h.own.low.size).mono fun e W ⟨h1, h2⟩ => ⟨h1, by
    obtain ⟨v', L', h3, h4, h5⟩ := h2
    exact ⟨⟨v', L', h.refStep h3 h4⟩, fun b T xs hb hr => h4.row hr hb⟩⟩
theorem AllG.rleaveS (t : Tx) (ht : t.Ok) (dn : Bool) (h : AllG w wr B M X K fl g n v N L m) (hm : m ≤ 900) :
    Calls Tryd.prog 21 #[.pointer (some ⟨X, 0, none⟩), .agg t.cells.toArray, .bool dn] wr fun e w' => (∃ i : Int, e = .returned (.int .i64 i)) ∧ (∃ v' N' L', AllG w w' B M X K fl g n v' N' L' (m + 1)) ∧ StaysG X K v wr w' :=
  (rgLeave_any t ht dn h.ref hm).mono fun e W ⟨h1, h2⟩ => ⟨h1, by
    obtain ⟨v', N', L', h3, h4, h5⟩ := h2
    exact ⟨⟨v', N', L', h.refStep h3 h4⟩, fun b T xs hb hr => h4.row hr hb⟩⟩
end
end Go.Proofs.YtoicpidiejhjeaaDoor
