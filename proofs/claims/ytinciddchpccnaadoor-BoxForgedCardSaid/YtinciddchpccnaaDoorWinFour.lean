/- What later texts need of the earlier layers. -/
import Derived.Test.YtinciddchpccnaaDoorBxO
import Derived.Test.YtinciddchpccnaaDoorBxS
import Derived.Test.YtinciddchpccnaaDoorBxT
import Derived.Test.YtinciddchpccnaaDoorBxC
import Derived.Test.YtinciddchpccnaaDoorBxA
import Derived.Test.YtinciddchpccnaaDoorWinMath
import Derived.Test.YtinciddchpccnaaDoorWinNum
import Derived.Test.YtinciddchpccnaaDoorOwnApp
import Derived.Test.YtinciddchpccnaaDoorWinOwn
import Derived.Test.YtinciddchpccnaaDoorWinOwn8
import Derived.Test.YtinciddchpccnaaDoorWinKey
import Derived.Test.YtinciddchpccnaaDoorWinPack
import Derived.Test.YtinciddchpccnaaDoorWinUn
import Derived.Test.YtinciddchpccnaaDoorWinAgain
import Derived.Test.YtinciddchpccnaaDoorWinUp
import Derived.Laws.ResultCell
import Derived.Laws.Rows
set_option maxRecDepth 100000
/- ---- WinFour ---- -/
/- window: fourAt. -/
namespace Go.Proofs.YtinciddchpccnaaDoor
open Go.RowKit
set_option linter.unusedVariables false
set_option linter.unusedSimpArgs false

theorem arrayAt4 (W : World) (g c : Nat) : (Instr.arrayAt 141 (.slice (some ⟨g, 0, none⟩) 4 c)).run Tryd.prog W = .ok (.pointer (some ⟨g, 0, none⟩)) W := by
  simp [Instr.arrayAt, run_underlying Tryd.underlying141]
theorem four_set {w0 w : World} {g : Nat} {t : TypeId} {a b c d : Value} (h : Row w g t [a, b, c, d]) (hb : Below w0.heap.size w0 w) (hg : w0.heap.size ≤ g) (a' b' c' d' : Value) :
    Row ((((w.setCell ⟨g, 0, none⟩ a').setCell ⟨g, 1, none⟩ b').setCell ⟨g, 2, none⟩ c').setCell ⟨g, 3, none⟩ d') g t [a', b', c', d'] ∧ Below w0.heap.size w0 ((((w.setCell ⟨g, 0, none⟩ a').setCell ⟨g, 1, none⟩ b').setCell ⟨g, 2, none⟩ c').setCell ⟨g, 3, none⟩ d') := by
  refine ⟨(((h.set 0 a' (by simp)).set 1 b' (by simp)).set 2 c' (by simp)).set 3 d' (by simp), ?_⟩
  have st : ∀ (W : World) (i : Nat) (v : Value), Below w0.heap.size w0 W → Below w0.heap.size w0 (W.setCell ⟨g, i, none⟩ v) := fun W i v hW => hW.grown (grownBy_set W g i v) hW.size (fun k hk => by cases hk; exact hg)
  exact st _ 3 d' (st _ 2 c' (st _ 1 b' (st _ 0 a' hb)))
abbrev zero4 : Value := four4 0 0 0 0
set_option maxHeartbeats 800000 in
theorem fourAt_short (s : ByteArray) (B p : Nat) (w : World) (hcell : w.cell? ⟨B, 0, none⟩ = some (.string s)) (hs : s.size ≤ 140737488351232) (hp : p ≤ s.size) (h4 : s.size < p + 4) :
    Calls Tryd.prog 111 #[.pointer (some ⟨B, 0, none⟩), .int .i64 (p : Int)] w fun e w' => e = .returned (.tuple #[zero4, .bool false]) ∧ Below w.heap.size w w' := by
  have hd : decide ((s.size : Int) - (p : Int) < 4) = true := by simp only [decide_eq_true_eq]; omega
  have hcell' := fun o : Obj => Lib.cell?_alloc_marked (W := w) o hcell
  go_enter Tryd.func111, Tryd.ntmps111
  go_wp2_with fail
  have hr := Row.new w 141 [.int .u8 0, .int .u8 0, .int .u8 0, .int .u8 0]
  exact bodyPost_ret (results_rowL rfl _ _ w.heap.size 141 _ _ rfl hr Tryd.underlying141 rfl (by kernel_rfl) _ rfl) rfl ⟨rfl, (Below.refl _ _).alloc (Nat.le_refl _) _⟩
set_option maxHeartbeats 800000 in
theorem fourAt_long (s : ByteArray) (B p : Nat) (a b c d : UInt8) (r : List UInt8) (w : World) (hcell : w.cell? ⟨B, 0, none⟩ = some (.string s)) (hs : s.size ≤ 140737488351232) (hp : p + 4 ≤ s.size) (hx : s.data.toList.drop p = a :: b :: c :: d :: r) :
    Calls Tryd.prog 111 #[.pointer (some ⟨B, 0, none⟩), .int .i64 (p : Int)] w fun e w' => e = .returned (.tuple #[four4 a b c d, .bool true]) ∧ Below w.heap.size w w' := by
  have hd : decide ((s.size : Int) - (p : Int) < 4) = false := by simp only [decide_eq_false_iff_not]; omega
  have hcut := cut_run (P := Tryd.prog) 9 (by kernel_rfl) s p 4 hp
  rw [hx] at hcut
  have hcut' := fun W : World => (show (Instr.slice 9 (.string s) (some (.int .i64 (p : Int))) (some (.int .i64 ((p : Int) + 4))) none).run Tryd.prog W = .ok (S [a, b, c, d]) W from hcut W)
  have hcs := fun W : World => Lib.run_convert_string_bytes (P := Tryd.prog) W 9 48 5 ⟨[a, b, c, d].toArray⟩ Tryd.underlying9 Tryd.underlying48 Tryd.underlying5
  have hat := arrayAt4
  have hbc := fun (W : World) (g : Nat) (hg : g = W.heap.size) (j : Nat) (hj : j < 4) => (show (Lib.bytesWorld W 5 ⟨[a, b, c, d].toArray⟩).cell? ⟨g, j, none⟩ = some (.int .u8 ([a, b, c, d].getD j 0).toNat) by subst hg; exact Lib.bytesWorld_cell W 5 ⟨[a, b, c, d].toArray⟩ j hj)
  have W0 := w.alloc (.cells #[.int .u8 0, .int .u8 0, .int .u8 0, .int .u8 0] 141)
  have b0 := hbc (w.alloc (.cells #[.int .u8 0, .int .u8 0, .int .u8 0, .int .u8 0] 141)) (w.heap.size + 1) (by simp) 0 (by omega)
  have b1 := hbc (w.alloc (.cells #[.int .u8 0, .int .u8 0, .int .u8 0, .int .u8 0] 141)) (w.heap.size + 1) (by simp) 1 (by omega)
  have b2 := hbc (w.alloc (.cells #[.int .u8 0, .int .u8 0, .int .u8 0, .int .u8 0] 141)) (w.heap.size + 1) (by simp) 2 (by omega)
  have b3 := hbc (w.alloc (.cells #[.int .u8 0, .int .u8 0, .int .u8 0, .int .u8 0] 141)) (w.heap.size + 1) (by simp) 3 (by omega)
  have hr0 := Row.new w 141 [.int .u8 0, .int .u8 0, .int .u8 0, .int .u8 0]
  have hcs0 := hcs (w.alloc (.cells #[.int .u8 0, .int .u8 0, .int .u8 0, .int .u8 0] 141))
  have hbb := below_bytes (w.alloc (.cells #[.int .u8 0, .int .u8 0, .int .u8 0, .int .u8 0] 141)) 5 ⟨[a, b, c, d].toArray⟩
  have hr1 : Row (Lib.bytesWorld (w.alloc (.cells #[.int .u8 0, .int .u8 0, .int .u8 0, .int .u8 0] 141)) 5 ⟨[a, b, c, d].toArray⟩) w.heap.size 141 [.int .u8 0, .int .u8 0, .int .u8 0, .int .u8 0] := (hbb.block w.heap.size (by simp)).trans hr0
  have hbel : Below w.heap.size w (Lib.bytesWorld (w.alloc (.cells #[.int .u8 0, .int .u8 0, .int .u8 0, .int .u8 0] 141)) 5 ⟨[a, b, c, d].toArray⟩) := ((Below.refl _ _).alloc (Nat.le_refl _) _).trans (hbb.mono (by simp))
  have hz : (⟨[a, b, c, d].toArray⟩ : ByteArray).size = 4 := rfl
  rw [hz] at hcs0
  generalize Lib.bytesWorld (w.alloc (.cells #[.int .u8 0, .int .u8 0, .int .u8 0, .int .u8 0] 141)) 5 ⟨[a, b, c, d].toArray⟩ = W1 at *
  have s0 := hr1.cell 0 (by simp)
  have s1 := hr1.cell 1 (by simp)
  have s2 := hr1.cell 2 (by simp)
  have s3 := hr1.cell 3 (by simp)
  have t0 := hr1.free 0
  have t1 := hr1.free 1
  have t2 := hr1.free 2
  have t3 := hr1.free 3
  have Hx := Lib.hid hx
  have Hr1 := Lib.hid hr1
  have Hbel := Lib.hid hbel
  have hcell' := fun o : Obj => Lib.cell?_alloc_marked (W := w) o hcell
  clear hcut hx hr0 hr1 hbel hbb hcs hbc W0
  go_enter Tryd.func111, Tryd.ntmps111
  go_wp2_with fail
  obtain ⟨hr2, hb2⟩ := four_set Hr1.out Hbel.out (Nat.le_refl _) (.int .u8 (a.toNat : Int)) (.int .u8 (b.toNat : Int)) (.int .u8 (c.toNat : Int)) (.int .u8 (d.toNat : Int))
  exact bodyPost_ret (results_rowL rfl _ _ w.heap.size 141 _ _ rfl hr2 Tryd.underlying141 rfl (by kernel_rfl) _ rfl) rfl ⟨rfl, hb2⟩
end Go.Proofs.YtinciddchpccnaaDoor
