/- The law SealTurned, both ways together. -/
import Derived.Test.YtdifbndpgbdkbaaDoorSealLaw3
namespace Go.Proofs.YtdifbndpgbdkbaaDoor
open Go.RowKit
set_option linter.unusedVariables false
set_option linter.unusedSimpArgs false
theorem sealTurned_any (who dom : Int) (body : ByteArray) (t : List UInt8) (bit : Int) (w : World) (hT : Tab w) (hbit0 : 0 ≤ bit) (hbit1 : bit ≤ 255) (hs : body.size ≤ 140737488354900) :
    Calls Tryd.prog 12 #[.agg (saidRow who dom body t), .int .u8 bit] w fun e w' => e = .returned (.bool true) ∧ Below w.heap.size w w' := by
  by_cases he : (Seal.tag who dom body.data.toList).2 = 0
  · exact sealTurned_ok who dom body t bit w hT hbit0 hbit1 hs he
  · exact sealTurned_err who dom body t bit w hT hs he
end Go.Proofs.YtdifbndpgbdkbaaDoor
