/- What later texts need of the earlier layers. -/
import Derived.Test.YtinciddchpccnaaDoorBxO
import Derived.Test.YtinciddchpccnaaDoorBxS
import Derived.Test.YtinciddchpccnaaDoorBxT
import Derived.Test.YtinciddchpccnaaDoorBxC
import Derived.Test.YtinciddchpccnaaDoorBxA
import Derived.Test.YtinciddchpccnaaDoorWinMath
import Derived.Test.YtinciddchpccnaaDoorWinNum
import Derived.Test.YtinciddchpccnaaDoorWinSame
import Derived.Test.YtinciddchpccnaaDoorOwnApp
import Derived.Test.YtinciddchpccnaaDoorWinOwn
import Derived.Test.YtinciddchpccnaaDoorWinOwn8
import Derived.Test.YtinciddchpccnaaDoorWinKey
import Derived.Test.YtinciddchpccnaaDoorWinPack
import Derived.Test.YtinciddchpccnaaDoorWinUn
import Derived.Test.YtinciddchpccnaaDoorWinAgain
import Derived.Test.YtinciddchpccnaaDoorWinUp
import Derived.Test.YtinciddchpccnaaDoorWinFour
import Derived.Test.YtinciddchpccnaaDoorWinML
set_option maxRecDepth 100000
/- ---- WinKnown ---- -/
/- Layer 7: known in memory: the text, the map of places, of each place the one ahead. -/
namespace Go.Proofs.YtinciddchpccnaaDoor
open Go.RowKit Go.Maps
set_option linter.unusedVariables false
set_option linter.unusedSimpArgs false

def aheadI : Option Nat → Int
  | none => -1
  | some c => (c : Int)
/-- at block B lies known over the text s: its map at M, its row at G; the places ahead of n are put -/
structure KAt (w : World) (B M G : Nat) (s : ByteArray) (n : Nat) : Prop where
  row : Row w B 129 [.string s, .map (some M), .slice (some ⟨G, 0, none⟩) s.size s.size]
  map : ∃ (D : DataW Unit) (N : Nat), N ≤ n ∧ w.ownsMap Tryd.prog 141 (plainElem Tryd.prog 3) M N D ∧ Reads4 D (fun x => Win.lastAt s.data.toList x n)
  ahead : ∃ L : List Int, Row w G 3 (Is L) ∧ L.length = s.size ∧ ∀ i, i < n → i + 4 ≤ s.size → L.getD i 0 = aheadI (Win.lastAt s.data.toList (Win.four s.data.toList i) i)
theorem KAt.below {w w' : World} {B M G : Nat} {s : ByteArray} {n : Nat} (h : KAt w B M G s n) (hb : Below w.heap.size w w') : KAt w' B M G s n := by
  obtain ⟨D, N, h1, h2, h3⟩ := h.map
  obtain ⟨L, h4, h5, h6⟩ := h.ahead
  exact ⟨h.row.below hb, ⟨D, N, h1, h2.kept (grownBy_of_below hb none) (by simp), h3⟩, ⟨L, h4.below hb, h5, h6⟩⟩
theorem KAt.c0 {w : World} {B M G : Nat} {s : ByteArray} {n : Nat} (h : KAt w B M G s n) : w.cell? ⟨B, 0, none⟩ = some (.string s) := h.row.cell 0 (by simp)
theorem KAt.c1 {w : World} {B M G : Nat} {s : ByteArray} {n : Nat} (h : KAt w B M G s n) : w.cell? ⟨B, 1, none⟩ = some (.map (some M)) := h.row.cell 1 (by simp)
theorem KAt.c2 {w : World} {B M G : Nat} {s : ByteArray} {n : Nat} (h : KAt w B M G s n) : w.cell? ⟨B, 2, none⟩ = some (.slice (some ⟨G, 0, none⟩) s.size s.size) := h.row.cell 2 (by simp)
theorem KAt.skip {w : World} {B M G : Nat} {s : ByteArray} {n : Nat} (h : KAt w B M G s n) (hn : ¬ n + 4 ≤ s.size) : KAt w B M G s (n + 1) := by
  obtain ⟨D, N, h1, h2, h3⟩ := h.map
  obtain ⟨L, h4, h5, h6⟩ := h.ahead
  refine ⟨h.row, ⟨D, N, by omega, h2, h3.skip hn⟩, ⟨L, h4, h5, fun i hi hl => ?_⟩⟩
  by_cases e : i = n
  · subst e; exact absurd hl hn
  · exact h6 i (by omega) hl
set_option maxHeartbeats 800000 in
theorem put_short (s : ByteArray) (B M G n : Nat) (w : World) (hK : KAt w B M G s n) (hs : s.size ≤ 140737488351232) (hp : n ≤ s.size) (h4 : s.size < n + 4) :
    Calls Tryd.prog 102 #[.pointer (some ⟨B, 0, none⟩), .int .i64 (n : Int)] w fun e w' => e = .returned (.tuple #[]) ∧ KAt w' B M G s (n + 1) ∧ Below w.heap.size w w' := by
  have hf := fourAt_short s B n w hK.c0 hs hp h4
  have HK := Lib.hid (hK.skip (by omega))
  have Hf := Lib.hid hf
  clear hf hK
  go_enter Tryd.func102, Tryd.ntmps102
  go_wp2_with fail
  refine Hf.out.mono ?_
  rintro e w1 ⟨rfl, hb1⟩
  have Hb1 := Lib.hid hb1
  clear hb1
  go_wp2_with fail
  refine bodyPost_ret (results_none rfl _ _ _) rfl ?_
  exact ⟨rfl, HK.out.below ((Hb1.out.alloc (Hb1.out.size) _)), (Hb1.out.alloc (Hb1.out.size) _)⟩
end Go.Proofs.YtinciddchpccnaaDoor
