/- Both gates, side by side. -/
import Derived.Test.YtoicpidiejhjeaaDoorAdRlv
namespace Go.Proofs.YtoicpidiejhjeaaDoor
open Go.RowKit Go.Maps
set_option linter.unusedVariables false
set_option linter.unusedSimpArgs false

/-- a list in own memory stays where the rows of its type stay -/
theorem OwnL.keepT {α : Type} {w w' : World} {base : Nat} {e : TypeId} {m : Nat} {f : α → List Value} {v : Value} {l : List α} (h : OwnL w base e m f v l) (hk : ∀ g xs, Row w g e xs → Row w' g e xs) : OwnL w' base e m f v l := by
  constructor
  refine ⟨h.own.1, ?_⟩
  rcases h.own.2 with h1 | ⟨g, cap, cur, h1, h2, h3, h4⟩
  · exact .inl h1
  · exact .inr ⟨g, cap, cur, h1, h2, hk g cur.toList h3, h4⟩
/-- the own gate and the reference's, above w -/
structure AllG (w wr : World) (B M X K : Nat) (fl : Int) (g : Ad.G) (n : Nat) (v : Value) (N : List Int) (L : List Tx) (m : Nat) : Prop where
  own : GTo w wr B M g n
  ref : RGAt wr w.heap.size X K v fl N L m
section
variable {w wr W : World} {B M X K n m n' m' : Nat} {fl : Int} {g g' : Ad.G} {v v' : Value} {N N' : List Int} {L L' : List Tx}
theorem AllG.below (h : AllG w wr B M X K fl g n v N L m) (hb : Below wr.heap.size wr W) : AllG w W B M X K fl g n v N L m := ⟨h.own.below hb, h.ref.below hb⟩
theorem AllG.mono (h : AllG w wr B M X K fl g n v N L m) (hn : n ≤ n') (hm : m ≤ m') : AllG w wr B M X K fl g n' v N L m' := ⟨h.own.mono hn, h.ref.mono hm⟩
/-- a step of the own gate -/
theorem AllG.ownStep (h : AllG w wr B M X K fl g n v N L m) (hg : GTo w W B M g' n') (hk : KeepsG wr W) : AllG w W B M X K fl g' n' v N L m :=
  ⟨hg, ⟨hk _ _ _ (by decide) h.ref.row, hk _ _ _ (by decide) h.ref.nx, h.ref.own.keepT (fun b xs hr => hk b _ xs (by decide) hr), h.ref.len, h.ref.txs, h.ref.lo⟩⟩
theorem RGAt.not_row {base : Nat} (h : RGAt wr base X K v fl N L m) {k : Nat} {T : TypeId} {xs : List Value} (hr : Row wr k T xs) (h1 : T ≠ 57) (h2 : T ≠ 3) (h3 : T ≠ 35) : ¬ RGS X K v k := by
  rintro (rfl | rfl | hk)
  · exact row_ne_row hr h.row h1 rfl
  · exact row_ne_row hr h.nx h2 rfl
  · exact h.own.ne_block hr h3 hk
/-- a step of the reference's -/
theorem AllG.refStep (h : AllG w wr B M X K fl g n v N L m) (hr : RGAt W w.heap.size X K v' fl N' L' m') (hc : Chg (RGS X K v) wr W) : AllG w W B M X K fl g n v' N' L' m' := by
  obtain ⟨D, N0, hN, hD, hR⟩ := h.own.own.map
  refine ⟨⟨below_chg h.own.low hc h.own.low.size (fun k hk => (h.ref.lt k hk).1), ⟨hc.row h.own.own.row (h.ref.not_row h.own.own.row (by decide) (by decide) (by decide)), ⟨D, N0, hN, hc.ownsMap hD ?_, hR⟩, h.own.own.ok⟩, h.own.hi⟩, hr⟩
  rintro (e | e | e)
  · exact row_ne_map hD h.ref.row e.symm
  · exact row_ne_map hD h.ref.nx e.symm
  · exact own_ne_map hD h.ref.own e
theorem AllG.enter (h : AllG w wr B M X K fl g n v N L m) (hr : RGTo wr W w.heap.size X K v fl N m') : ∃ v' L', AllG w W B M X K fl g n v' N L' m' ∧ ∀ k, RGS X K v' k → RGS X K v k ∨ wr.heap.size ≤ k := by
  obtain ⟨v', L', h1, h2, h3⟩ := hr
  exact ⟨v', L', h.refStep h1 h2, h3⟩
theorem AllG.leave (h : AllG w wr B M X K fl g n v N L m) (hr : RGTo2 wr W w.heap.size X K v fl m') : ∃ v' N' L', AllG w W B M X K fl g n v' N' L' m' ∧ ∀ k, RGS X K v' k → RGS X K v k ∨ wr.heap.size ≤ k := by
  obtain ⟨v', N', L', h1, h2, h3⟩ := hr
  exact ⟨v', N', L', h.refStep h1 h2, h3⟩
/-- a row that is none of the reference's stays through its step -/
theorem AllG.stays (hc : Chg (RGS X K v) wr W) {b : Nat} {T : TypeId} {xs : List Value} (hr : Row wr b T xs) (hn : ¬ RGS X K v b) : Row W b T xs := hc.row hr hn
end
end Go.Proofs.YtoicpidiejhjeaaDoor
