/- What later texts need of the earlier layers. -/
import Derived.Test.YtjeooegkfjlejaaDoorEarO
import Derived.Test.YtjeooegkfjlejaaDoorEarS
import Derived.Test.YtjeooegkfjlejaaDoorEarT
import Derived.Test.YtjeooegkfjlejaaDoorEarC
import Derived.Test.YtjeooegkfjlejaaDoorEarA
import Derived.Test.YtjeooegkfjlejaaDoorEarB
import Derived.Test.YtjeooegkfjlejaaDoorIbA
import Derived.Test.YtjeooegkfjlejaaDoorTrMath
import Derived.Test.YtjeooegkfjlejaaDoorTrTm
import Derived.Test.YtjeooegkfjlejaaDoorTrHash
import Derived.Test.YtjeooegkfjlejaaDoorTrMem
import Derived.Test.YtjeooegkfjlejaaDoorTrLv
import Derived.Test.YtjeooegkfjlejaaDoorTrLink
import Derived.Test.YtjeooegkfjlejaaDoorTrBeh
import Derived.Test.YtjeooegkfjlejaaDoorTrCh
import Derived.Test.YtjeooegkfjlejaaDoorTrAt
import Derived.Test.YtjeooegkfjlejaaDoorTrNew
import Derived.Test.YtjeooegkfjlejaaDoorTrMine
import Derived.Test.YtjeooegkfjlejaaDoorTrAll
import Derived.Test.YtjeooegkfjlejaaDoorTrFind
import Derived.Test.YtjeooegkfjlejaaDoorTrAwk
import Derived.Test.YtjeooegkfjlejaaDoorTrLaw2
import Derived.Test.YtjeooegkfjlejaaDoorTrRch
import Derived.Test.YtjeooegkfjlejaaDoorTrRnew
import Derived.Test.YtjeooegkfjlejaaDoorTrFew
import Derived.Test.YtjeooegkfjlejaaDoorTrUpd
import Derived.Test.YtjeooegkfjlejaaDoorTrUpto
import Derived.Test.YtjeooegkfjlejaaDoorTrTurn
import Derived.Test.YtjeooegkfjlejaaDoorTrSame
import Derived.Test.YtjeooegkfjlejaaDoorTrSt
/- ---- TrSmall ---- -/
/- What TreeDoes shares with other laws of the layer (TrFinal, TrRefused say the same). -/
namespace Go.Proofs.YtjeooegkfjlejaaDoor
open Go.RowKit
set_option linter.unusedVariables false
set_option linter.unusedSimpArgs false

theorem sliceBlocks (A : Option Addr) (n k cp : Nat) (hc : k ≤ cp) (W : World) : (Instr.slice 36 (.slice A n cp) none (some (.int .i64 k)) none).run Tryd.prog W = .ok (.slice A k cp) W := by
  have hz : (sizeOf (Tryd.prog.elem 36)).run Tryd.prog W = .ok 35 W := by kernel_rfl
  have e := run_slice_h (P := Tryd.prog) (w := W) (t := 36) (a := A) (len := n) (cap := cp) (by kernel_rfl) (kh := .i64) (h := (k : Int)) (by omega) (by omega)
  rw [hz] at e
  simp only [Result.andThen, Int.toNat_natCast] at e
  rw [e]
  unfold sliced
  have e2 : A.map (fun x => x.add (0 * 35)) = A := by
    cases A with
    | none => rfl
    | some a => simp [Addr.add]
  rw [e2]
  simp
/-- the law's box of its act -/
def RfIn2 (b0 : Nat) (C : List Value) (W : World) : Prop := Row W b0 34 C
theorem RfIn2.below {b0 : Nat} {C : List Value} {W W' : World} (h : RfIn2 b0 C W) (hb : Below W.heap.size W W') : RfIn2 b0 C W' := Row.below h hb
end Go.Proofs.YtjeooegkfjlejaaDoor
