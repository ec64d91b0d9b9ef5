/- A gate: as plain functions, and in memory. -/
import Derived.Test.YtoicpidiejhjeaaDoorAdMap
import Derived.Test.YtoicpidiejhjeaaDoorTxBack
namespace Go.Proofs.YtoicpidiejhjeaaDoor
open Go.RowKit Go.Maps
set_option linter.unusedVariables false
set_option linter.unusedSimpArgs false
set_option maxRecDepth 100000

namespace Ad
structure G where
  fl : Int
  nx : List Int
  nm : List (List UInt8)
def nxt (g : G) (i : Int) : Int := g.nx.getD i.toNat 0
def askE (g : G) (s : List UInt8) : Int := match Tx.read s with
  | none => 6
  | some t => if t.signedE ≠ 0 then 21 else if t.fee < g.fl then 24 else if t.nonce < nxt g t.frm then 22 else if t.nameE.1 ∈ g.nm then 23 else 0
def askT (g : G) (s : List UInt8) : Tx := match Tx.read s with
  | none => Tx.none
  | some t => if askE g s = 0 then t else Tx.none
def askN (g : G) (s : List UInt8) : List UInt8 := match Tx.read s with
  | none => Tx.zero
  | some t => if askE g s = 0 then t.nameE.1 else Tx.zero
def enter (g : G) (s : List UInt8) : G := if askE g s = 0 then { g with nm := g.nm ++ [askN g s] } else g
def namedE (g : G) (t : Tx) : Int := if t.nameE.2 ≠ 0 ∨ t.nameE.1 ∉ g.nm then 34 else 0
def leave (g : G) (t : Tx) : G := if namedE g t = 0 then { g with nm := g.nm.erase t.nameE.1 } else g
def doneE (g : G) (t : Tx) : Int := if namedE g t ≠ 0 then namedE g t else if t.nonce ≠ nxt g t.frm then 33 else 0
def done (g : G) (t : Tx) : G := if doneE g t = 0 then { g with nm := g.nm.erase t.nameE.1, nx := g.nx.set t.frm.toNat (nxt g t.frm + 1) } else g
structure Ok (n : Nat) (g : G) : Prop where
  len : g.nx.length = 64
  nxs : ∀ v ∈ g.nx, 0 ≤ v ∧ v ≤ n
  fl : 0 ≤ g.fl ∧ g.fl ≤ 1099511627776
theorem Ok.mono {n m : Nat} {g : G} (h : Ok n g) (hm : n ≤ m) : Ok m g := ⟨h.len, fun v hv => by have := h.nxs v hv; omega, h.fl⟩
theorem Ok.nxt {n : Nat} {g : G} (h : Ok n g) (i : Int) : 0 ≤ nxt g i ∧ nxt g i ≤ n := by
  unfold Ad.nxt
  rcases Nat.lt_or_ge i.toNat g.nx.length with hi | hi
  · rw [List.getD_eq_getElem?_getD, List.getElem?_eq_getElem hi]
    exact h.nxs _ (List.getElem_mem hi)
  · rw [List.getD_eq_getElem?_getD, List.getElem?_eq_none hi]
    exact ⟨Int.le_refl _, by simp⟩
theorem Ok.set {n : Nat} {g : G} (h : Ok n g) (i : Int) (nm : List (List UInt8)) : Ok (n + 1) { g with nm := nm, nx := g.nx.set i.toNat (Ad.nxt g i + 1) } := by
  refine ⟨by rw [List.length_set]; exact h.len, fun v hv => ?_, h.fl⟩
  have hx := h.nxt i
  rcases List.mem_or_eq_of_mem_set hv with hv | rfl
  · have := h.nxs v hv; omega
  · omega
end Ad
def Ad.cells (g : Ad.G) (M : Nat) : List Value := .int .i64 g.fl :: (g.nx.map (Value.int .i64) ++ [.map (some M)])
/-- a gate in memory: its block B, its map's M; behind n calls -/
structure GateAt (w : World) (B M : Nat) (g : Ad.G) (n : Nat) : Prop where
  row : Row w B 53 (Ad.cells g M)
  map : ∃ (D : DataW Unit) (N : Nat), N ≤ n ∧ w.ownsMap Tryd.prog 33 unitElem M N D ∧ ReadsS D g.nm
  ok : Ad.Ok n g
section
variable {w w' : World} {B M n m : Nat} {g : Ad.G}
theorem GateAt.kept {r : Option Nat} (h : GateAt w B M g n) (hg : w.grownBy w' r) (h1 : some B ≠ r) (h2 : some M ≠ r) : GateAt w' B M g n := by
  obtain ⟨D, N, hN, hD, hR⟩ := h.map
  exact ⟨h.row.kept hg h1, ⟨D, N, hN, hD.kept hg h2, hR⟩, h.ok⟩
theorem GateAt.below (h : GateAt w B M g n) (hb : Below w.heap.size w w') : GateAt w' B M g n :=
  h.kept (grownBy_of_below hb none) (by simp) (by simp)
theorem GateAt.mono (h : GateAt w B M g n) (hm : n ≤ m) : GateAt w B M g m := by
  obtain ⟨D, N, hN, hD, hR⟩ := h.map
  exact ⟨h.row, ⟨D, N, by omega, hD, hR⟩, h.ok.mono hm⟩
theorem GateAt.apart (h : GateAt w B M g n) : B ≠ M := by
  rintro rfl
  obtain ⟨D, N, hN, ⟨es, clock, hb, _⟩, hR⟩ := h.map
  rw [h.row] at hb
  cases hb
theorem GateAt.ltB (h : GateAt w B M g n) : B < w.heap.size := h.row.lt
theorem GateAt.ltM (h : GateAt w B M g n) : M < w.heap.size := by
  obtain ⟨D, N, hN, ⟨es, clock, hb, _⟩, hR⟩ := h.map
  exact (Array.getElem?_eq_some_iff.1 hb).1
theorem Ad.cells_len (h : Ad.Ok n g) : (Ad.cells g M).length = 66 := by unfold Ad.cells; simp [h.len]
theorem GateAt.c0 (h : GateAt w B M g n) : w.cell? ⟨B, 0, none⟩ = some (.int .i64 g.fl) := by
  have := row_range h.row 0 (.int .i64 g.fl) rfl
  simpa using this
theorem GateAt.c1 (h : GateAt w B M g n) (i : Int) (hi : 0 ≤ i ∧ i ≤ 63) : w.cell? ⟨B, 1 + i.toNat, none⟩ = some (.int .i64 (Ad.nxt g i)) := by
  have hl := h.ok.len
  have hj : i.toNat < g.nx.length := by omega
  have := row_range h.row (1 + i.toNat) (.int .i64 (Ad.nxt g i)) (by
    unfold Ad.cells Ad.nxt
    rw [Nat.add_comm 1, List.getElem?_cons_succ, List.getElem?_append_left (by rw [List.length_map]; exact hj), List.getElem?_map, List.getElem?_eq_getElem hj, List.getD_eq_getElem?_getD, List.getElem?_eq_getElem hj]
    rfl)
  simpa using this
theorem GateAt.c65 (h : GateAt w B M g n) : w.cell? ⟨B, 65, none⟩ = some (.map (some M)) := by
  have hl := h.ok.len
  have := row_range h.row 65 (.map (some M)) (by
    unfold Ad.cells
    rw [List.getElem?_cons_succ, List.getElem?_append_right (by rw [List.length_map]; omega)]
    rw [List.length_map, hl]
    rfl)
  simpa using this
theorem zero61 (w : World) : (zeroValue 61).run Tryd.prog w = .ok (.agg #[]) w := by kernel_rfl
/-- what a look into the set gives -/
theorem GateAt.look (h : GateAt w B M g n) {x : List UInt8} (hx : x.length = 32) :
    (Instr.lookup 50 (.map (some M)) (.agg (bRow x)) true).run Tryd.prog w = .ok (.tuple #[.agg #[], .bool (decide (x ∈ g.nm))]) w := by
  obtain ⟨D, N, hN, hD, hR⟩ := h.map
  obtain ⟨v, ps, h1, h2⟩ := hD.look_ok lawH Tryd.underlying50 (zero61 w) (zd := .agg []) (zp := []) unitElem_mk (keyH hx)
  obtain ⟨rfl, _⟩ := unitElem_inv h2
  rw [h1, hR.mem x hx]
/-- only the gate and its map have changed, and new blocks -/
structure GTo (w0 w' : World) (B M : Nat) (g : Ad.G) (n : Nat) : Prop where
  low : Below w0.heap.size w0 w'
  own : GateAt w' B M g n
  hi : w0.heap.size ≤ B ∧ w0.heap.size ≤ M
theorem GTo.below {w0 : World} (h : GTo w0 w B M g n) (hb : Below w.heap.size w w') : GTo w0 w' B M g n := ⟨two_below' h.low hb, h.own.below hb, h.hi⟩
theorem GTo.mono {w0 : World} (h : GTo w0 w B M g n) (hm : n ≤ m) : GTo w0 w B M g m := ⟨h.low, h.own.mono hm, h.hi⟩
/-- rows of other types stay -/
def KeepsG (w w' : World) : Prop := ∀ g T xs, T ≠ 53 → Row w g T xs → Row w' g T xs
theorem KeepsG.below (h : Below w.heap.size w w') : KeepsG w w' := fun g T xs _ hr => hr.below h
theorem KeepsG.trans {a b c : World} (h : KeepsG a b) (k : KeepsG b c) : KeepsG a c := fun g T xs h1 hr => k g T xs h1 (h g T xs h1 hr)
end
theorem Tx.name_len {t : Tx} : t.nameE.1.length = 32 := by
  unfold Tx.nameE
  split
  · exact Sha.sum_len _
  · rfl
end Go.Proofs.YtoicpidiejhjeaaDoor
