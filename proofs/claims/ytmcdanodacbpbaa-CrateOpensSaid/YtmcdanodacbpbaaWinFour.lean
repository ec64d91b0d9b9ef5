/- window: fourAt. -/
import Derived.Test.YtmcdanodacbpbaaWinKey
import Derived.Test.YtmcdanodacbpbaaWinUp
import Derived.Laws.ResultCell
import Derived.Laws.Rows
import Derived.Test.YtmcdanodacbpbaaRow
namespace Go.Proofs.Ytmcdanodacbpbaa
open Go.RowKit
set_option linter.unusedVariables false
set_option linter.unusedSimpArgs false

/-- two results, the first of which lies in a block -/
theorem results_rowL {P : Program} {fn : Func} {p u : Tmp} {ty : TypeId} (h : fn.results = #[.cell p ty, .tmp u]) (tmps : Array Value) (w : World) (g : Nat) (T : TypeId) (xs : List Value) (d : TypeDesc)
    (hp : tmps.getD p undef = .pointer (some ⟨g, 0, none⟩)) (hg : Row w g T xs)
    (hu : P.underlying ty = some d) (hd : (match d with | .struct _ | .array _ _ => true | _ => false) = true) (hi : (P.info? ty).map (·.size) = some xs.toArray.size) (x : Value) (hx : tmps.getD u undef = x) :
    (results fn tmps).run P w = .ok (.tuple #[.agg xs.toArray, x]) w := by
  rw [results_cell_tmp h, hp]
  have hl := run_loadVar_row w g T ty xs.toArray (0, 0) d hg hu hd hi
  have ha : (asAddr (.pointer (some ⟨g, 0, none⟩))).run P w = .ok ⟨g, 0, none⟩ w := rfl
  rw [ha]
  simp only [Result.andThen, hl, hx]
theorem arrayAt4 (W : World) (g c : Nat) : (Instr.arrayAt 64 (.slice (some ⟨g, 0, none⟩) 4 c)).run Try.prog W = .ok (.pointer (some ⟨g, 0, none⟩)) W := by
  simp [Instr.arrayAt, run_underlying Try.underlying64]
theorem four_set {w0 w : World} {g : Nat} {t : TypeId} {a b c d : Value} (h : Row w g t [a, b, c, d]) (hb : Below w0.heap.size w0 w) (hg : w0.heap.size ≤ g) (a' b' c' d' : Value) :
    Row ((((w.setCell ⟨g, 0, none⟩ a').setCell ⟨g, 1, none⟩ b').setCell ⟨g, 2, none⟩ c').setCell ⟨g, 3, none⟩ d') g t [a', b', c', d'] ∧ Below w0.heap.size w0 ((((w.setCell ⟨g, 0, none⟩ a').setCell ⟨g, 1, none⟩ b').setCell ⟨g, 2, none⟩ c').setCell ⟨g, 3, none⟩ d') := by
  refine ⟨(((h.set 0 a' (by simp)).set 1 b' (by simp)).set 2 c' (by simp)).set 3 d' (by simp), ?_⟩
  have st : ∀ (W : World) (i : Nat) (v : Value), Below w0.heap.size w0 W → Below w0.heap.size w0 (W.setCell ⟨g, i, none⟩ v) := fun W i v hW => hW.grown (grownBy_set W g i v) hW.size (fun k hk => by cases hk; exact hg)
  exact st _ 3 d' (st _ 2 c' (st _ 1 b' (st _ 0 a' hb)))
abbrev zero4 : Value := four4 0 0 0 0
set_option maxHeartbeats 800000 in
theorem fourAt_short (s : ByteArray) (B p : Nat) (w : World) (hcell : w.cell? ⟨B, 0, none⟩ = some (.string s)) (hs : s.size ≤ 140737488351232) (hp : p ≤ s.size) (h4 : s.size < p + 4) :
    Calls Try.prog 51 #[.pointer (some ⟨B, 0, none⟩), .int .i64 (p : Int)] w fun e w' => e = .returned (.tuple #[zero4, .bool false]) ∧ Below w.heap.size w w' := by
  have hd : decide ((s.size : Int) - (p : Int) < 4) = true := by simp only [decide_eq_true_eq]; omega
  have hcell' := fun o : Obj => Lib.cell?_alloc_marked (W := w) o hcell
  go_enter Try.func51, Try.ntmps51
  go_wp2_with fail
  have hr := Row.new w 64 [.int .u8 0, .int .u8 0, .int .u8 0, .int .u8 0]
  exact bodyPost_ret (results_rowL rfl _ _ w.heap.size 64 _ _ rfl hr Try.underlying64 rfl (by kernel_rfl) _ rfl) rfl ⟨rfl, (Below.refl _ _).alloc (Nat.le_refl _) _⟩
set_option maxHeartbeats 800000 in
theorem fourAt_long (s : ByteArray) (B p : Nat) (a b c d : UInt8) (r : List UInt8) (w : World) (hcell : w.cell? ⟨B, 0, none⟩ = some (.string s)) (hs : s.size ≤ 140737488351232) (hp : p + 4 ≤ s.size) (hx : s.data.toList.drop p = a :: b :: c :: d :: r) :
    Calls Try.prog 51 #[.pointer (some ⟨B, 0, none⟩), .int .i64 (p : Int)] w fun e w' => e = .returned (.tuple #[four4 a b c d, .bool true]) ∧ Below w.heap.size w w' := by
  have hd : decide ((s.size : Int) - (p : Int) < 4) = false := by simp only [decide_eq_false_iff_not]; omega
  have hcut := cut_run (P := Try.prog) 9 (by kernel_rfl) s p 4 hp
  rw [hx] at hcut
  have hcut' := fun W : World => (show (Instr.slice 9 (.string s) (some (.int .i64 (p : Int))) (some (.int .i64 ((p : Int) + 4))) none).run Try.prog W = .ok (S [a, b, c, d]) W from hcut W)
  have hcs := fun W : World => Lib.run_convert_string_bytes (P := Try.prog) W 9 34 5 ⟨[a, b, c, d].toArray⟩ Try.underlying9 Try.underlying34 Try.underlying5
  have hat := arrayAt4
  have hbc := fun (W : World) (g : Nat) (hg : g = W.heap.size) (j : Nat) (hj : j < 4) => (show (Lib.bytesWorld W 5 ⟨[a, b, c, d].toArray⟩).cell? ⟨g, j, none⟩ = some (.int .u8 ([a, b, c, d].getD j 0).toNat) by subst hg; exact Lib.bytesWorld_cell W 5 ⟨[a, b, c, d].toArray⟩ j hj)
  have W0 := w.alloc (.cells #[.int .u8 0, .int .u8 0, .int .u8 0, .int .u8 0] 64)
  have b0 := hbc (w.alloc (.cells #[.int .u8 0, .int .u8 0, .int .u8 0, .int .u8 0] 64)) (w.heap.size + 1) (by simp) 0 (by omega)
  have b1 := hbc (w.alloc (.cells #[.int .u8 0, .int .u8 0, .int .u8 0, .int .u8 0] 64)) (w.heap.size + 1) (by simp) 1 (by omega)
  have b2 := hbc (w.alloc (.cells #[.int .u8 0, .int .u8 0, .int .u8 0, .int .u8 0] 64)) (w.heap.size + 1) (by simp) 2 (by omega)
  have b3 := hbc (w.alloc (.cells #[.int .u8 0, .int .u8 0, .int .u8 0, .int .u8 0] 64)) (w.heap.size + 1) (by simp) 3 (by omega)
  have hr0 := Row.new w 64 [.int .u8 0, .int .u8 0, .int .u8 0, .int .u8 0]
  have hcs0 := hcs (w.alloc (.cells #[.int .u8 0, .int .u8 0, .int .u8 0, .int .u8 0] 64))
  have hbb := below_bytes (w.alloc (.cells #[.int .u8 0, .int .u8 0, .int .u8 0, .int .u8 0] 64)) 5 ⟨[a, b, c, d].toArray⟩
  have hr1 : Row (Lib.bytesWorld (w.alloc (.cells #[.int .u8 0, .int .u8 0, .int .u8 0, .int .u8 0] 64)) 5 ⟨[a, b, c, d].toArray⟩) w.heap.size 64 [.int .u8 0, .int .u8 0, .int .u8 0, .int .u8 0] := (hbb.block w.heap.size (by simp)).trans hr0
  have hbel : Below w.heap.size w (Lib.bytesWorld (w.alloc (.cells #[.int .u8 0, .int .u8 0, .int .u8 0, .int .u8 0] 64)) 5 ⟨[a, b, c, d].toArray⟩) := ((Below.refl _ _).alloc (Nat.le_refl _) _).trans (hbb.mono (by simp))
  have hz : (⟨[a, b, c, d].toArray⟩ : ByteArray).size = 4 := rfl
  rw [hz] at hcs0
  generalize Lib.bytesWorld (w.alloc (.cells #[.int .u8 0, .int .u8 0, .int .u8 0, .int .u8 0] 64)) 5 ⟨[a, b, c, d].toArray⟩ = W1 at *
  have s0 := hr1.cell 0 (by simp)
  have s1 := hr1.cell 1 (by simp)
  have s2 := hr1.cell 2 (by simp)
  have s3 := hr1.cell 3 (by simp)
  have t0 := hr1.free 0
  have t1 := hr1.free 1
  have t2 := hr1.free 2
  have t3 := hr1.free 3
  have Hx := Lib.hid hx
  have Hr1 := Lib.hid hr1
  have Hbel := Lib.hid hbel
  have hcell' := fun o : Obj => Lib.cell?_alloc_marked (W := w) o hcell
  clear hcut hx hr0 hr1 hbel hbb hcs hbc W0
  go_enter Try.func51, Try.ntmps51
  go_wp2_with fail
  obtain ⟨hr2, hb2⟩ := four_set Hr1.out Hbel.out (Nat.le_refl _) (.int .u8 (a.toNat : Int)) (.int .u8 (b.toNat : Int)) (.int .u8 (c.toNat : Int)) (.int .u8 (d.toNat : Int))
  exact bodyPost_ret (results_rowL rfl _ _ w.heap.size 64 _ _ rfl hr2 Try.underlying64 rfl (by kernel_rfl) _ rfl) rfl ⟨rfl, hb2⟩
end Go.Proofs.Ytmcdanodacbpbaa
