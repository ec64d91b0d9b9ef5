/- A lane's map, and a lane in memory. -/
import Derived.Test.YtlapmdgkcidhnaaDoorSlD
import Derived.Test.YtlapmdgkcidhnaaDoorLnMath
import Derived.Maps.RangeWalk
import Derived.Maps.OwnSet
import Derived.Maps.Views
namespace Go.Proofs.YtlapmdgkcidhnaaDoor
open Go.RowKit Go.Maps
set_option linter.unusedVariables false
set_option linter.unusedSimpArgs false

def held16 (v : Value) : Option (DataW Value × List MemPlace) := some (.held v, [])
theorem held16_eq (v : Value) : held16 v = some (.held v, []) := rfl
theorem lawI16 : Keyed Tryd.prog 3 := int_keyed Tryd.underlying3
abbrev K16 (x : Int) : Lit := .int .i64 x
theorem K16_ne {x y : Int} (h : x ≠ y) : K16 x ≠ K16 y := fun e => h (by injection e)
theorem wf16 {x : Int} (h0 : -9223372036854775808 ≤ x) (h1 : x ≤ 9223372036854775807) : (Lit.int .i64 x).wf = true := by
  simp [Lit.wf, IntKind.min, IntKind.max, IntKind.signed, IntKind.bits]
  omega
theorem key16 {x : Int} (h : Ln.fits x) : keyOf Tryd.prog 3 (.int .i64 x) = some (K16 x) := keyOf_int_mk (P := Tryd.prog) Tryd.underlying3 (wf16 h.1 h.2)
abbrev seatV (a t : Int) : Value := .agg #[.int .i64 a, .int .i64 t]
theorem seat_zero (w : World) : (zeroValue 119).run Tryd.prog w = .ok (seatV 0 0) w := by kernel_rfl
def Reads16 (D : DataW Value) (L : List Ln.H) : Prop := IsMap D ∧ ∀ r, has D (K16 r) = (Ln.look L r).isSome ∧ ∀ h, Ln.look L r = some h → ∀ z, D.atKey (K16 r) z = .held (seatV h.who h.turn)
theorem Reads16.empty : Reads16 (.map []) [] := ⟨isMap_empty, fun x => ⟨rfl, fun h e => by cases e⟩⟩
theorem Reads16.put {D : DataW Value} {L : List Ln.H} (h : Reads16 D L) (r a t : Int) : Reads16 (D.put (K16 r) (.held (seatV a t))) (Ln.upd L r a t) := by
  refine ⟨h.1.put _ _, fun y => ?_⟩
  rw [Ln.look_upd]
  by_cases hy : r = y
  · subst hy
    simp only [↓reduceIte]
    refine ⟨(has_put_same (k := K16 r) h.1 trivial _).trans rfl, fun c' e z => ?_⟩
    cases e
    exact atKey_put_same (k := K16 r) h.1 trivial _ _
  · simp only [if_neg hy]
    have hy2 : y ≠ r := fun e => hy e.symm
    refine ⟨(has_put_other (K16_ne hy2) _).trans (h.2 y).1, fun c' e z => ?_⟩
    rw [atKey_put_other (K16_ne hy2)]
    exact (h.2 y).2 c' e z
set_option maxRecDepth 100000 in
/-- what a look into the map gives -/
theorem run_look16 {w : World} {M n : Nat} {D : DataW Value} {L : List Ln.H} (hown : w.ownsMap Tryd.prog 3 held16 M n D) (hV : Reads16 D L) (c : Bool) (r : Int) (hr : Ln.fits r) :
    (Instr.lookup 113 (.map (some M)) (.int .i64 r) c).run Tryd.prog w =
      .ok (if c then .tuple #[seatV (Ln.whoOf L r) (Ln.turnOf L r), .bool (Ln.look L r).isSome] else seatV (Ln.whoOf L r) (Ln.turnOf L r)) w := by
  obtain ⟨es, clock, hb, F, _, rfl⟩ := hown
  rcases Maps.fit_look c lawI16 Tryd.underlying113 (seat_zero w) hb F (key16 hr) with ⟨hrun, _, hat⟩ | ⟨e0, y, _, _, hrun, hRv, hat, _⟩
  · rcases hf : Ln.look L r with _ | f
    · rw [hrun]; unfold Ln.whoOf Ln.turnOf; rw [hf]; rfl
    · have h1 := (hV.2 r).2 f hf .nil
      rw [hat] at h1
      cases h1
  · rcases hf : Ln.look L r with _ | f
    · have h1 := (hV.2 r).1
      rw [hf, Maps.has_true_of_atKey hat] at h1
      cases h1
    · have h1 := (hV.2 r).2 f hf .nil
      rw [hat] at h1
      unfold held16 at hRv
      injection hRv with hRv
      rw [← hRv] at h1
      injection h1 with h1
      rw [hrun, h1]; unfold Ln.whoOf Ln.turnOf; rw [hf]; rfl
theorem wpList_look16 (w : World) {ops : Array Oper} {rest : List Oper} {o : Oper} {a : Act} {Q : Exit → Act → World → Prop} (hg : o.guard = none) (m x : Operand) (c : Bool) (hop : o.op = Op.lookup 113 m x c)
    {M n : Nat} {D : DataW Value} {L : List Ln.H} (r : Int) (hm : a.eval m = .map (some M)) (hown : w.ownsMap Tryd.prog 3 held16 M n D) (hV : Reads16 D L) (hx : a.eval x = .int .i64 r) (hr : Ln.fits r) (wh tn : Int) (b : Bool) (e1 : Ln.whoOf L r = wh) (e2 : Ln.turnOf L r = tn) (e3 : (Ln.look L r).isSome = b)
    (hK : wpList Tryd.prog ops Q rest (a.put o.dst (if c then .tuple #[seatV wh tn, .bool b] else seatV wh tn)) w) :
    wpList Tryd.prog ops Q (o :: rest) a w := by
  refine wpList_plain hg fun K' hK' => ?_
  have hrun := run_look16 hown hV c r hr
  rw [e1, e2, e3] at hrun
  unfold Oper.wp
  simp [execOp, hop, hm, hx, hrun, Result.andThen]
  exact hK' _ _ hK
/-- a lane in memory: its block B, its map's M; behind n calls -/
structure LaneAt (w : World) (B M : Nat) (len : Int) (L : List Ln.H) (n : Nat) : Prop where
  row : Row w B 115 [.int .i64 len, .map (some M)]
  map : ∃ D N, N ≤ n ∧ w.ownsMap Tryd.prog 3 held16 M N D ∧ Reads16 D L
  ok : Ln.Ok n L
  len : 1 ≤ len ∧ len ≤ 1099511627776
theorem LaneAt.kept {w w' : World} {B M n : Nat} {len : Int} {L : List Ln.H} {r : Option Nat} (h : LaneAt w B M len L n) (hg : w.grownBy w' r) (h1 : some B ≠ r) (h2 : some M ≠ r) : LaneAt w' B M len L n := by
  obtain ⟨D, N, hN, hD, hR⟩ := h.map
  exact ⟨h.row.kept hg h1, ⟨D, N, hN, hD.kept hg h2, hR⟩, h.ok, h.len⟩
theorem LaneAt.below {w w' : World} {B M n : Nat} {len : Int} {L : List Ln.H} (h : LaneAt w B M len L n) (hb : Below w.heap.size w w') : LaneAt w' B M len L n :=
  h.kept (grownBy_of_below hb none) (by simp) (by simp)
theorem LaneAt.mono {w : World} {B M n m : Nat} {len : Int} {L : List Ln.H} (h : LaneAt w B M len L n) (hm : n ≤ m) : LaneAt w B M len L m := by
  obtain ⟨D, N, hN, hD, hR⟩ := h.map
  exact ⟨h.row, ⟨D, N, by omega, hD, hR⟩, h.ok.mono hm, h.len⟩
theorem LaneAt.apart {w : World} {B M n : Nat} {len : Int} {L : List Ln.H} (h : LaneAt w B M len L n) : B ≠ M := by
  rintro rfl
  obtain ⟨D, N, _, ⟨es, clock, hb, _⟩, _⟩ := h.map
  have h1 := h.row
  unfold Row at h1
  rw [h1] at hb
  simp at hb
theorem LaneAt.ltM {w : World} {B M n : Nat} {len : Int} {L : List Ln.H} (h : LaneAt w B M len L n) : M < w.heap.size := by
  obtain ⟨D, N, _, hD, _⟩ := h.map
  exact hD.lt
theorem LaneAt.ltB {w : World} {B M n : Nat} {len : Int} {L : List Ln.H} (h : LaneAt w B M len L n) : B < w.heap.size := h.row.lt
theorem LaneAt.c0 {w : World} {B M n : Nat} {len : Int} {L : List Ln.H} (h : LaneAt w B M len L n) : w.cell? ⟨B, 0, none⟩ = some (.int .i64 len) := h.row.cell 0 (by simp)
theorem LaneAt.c1 {w : World} {B M n : Nat} {len : Int} {L : List Ln.H} (h : LaneAt w B M len L n) : w.cell? ⟨B, 1, none⟩ = some (.map (some M)) := h.row.cell 1 (by simp)
end Go.Proofs.YtlapmdgkcidhnaaDoor
