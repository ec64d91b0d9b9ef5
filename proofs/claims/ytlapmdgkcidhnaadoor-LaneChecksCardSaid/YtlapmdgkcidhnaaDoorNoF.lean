/- What later texts need of the earlier layers. -/
import Derived.Test.YtlapmdgkcidhnaaDoorSlO
import Derived.Test.YtlapmdgkcidhnaaDoorSlS
import Derived.Test.YtlapmdgkcidhnaaDoorSlT
import Derived.Test.YtlapmdgkcidhnaaDoorSlC
import Derived.Test.YtlapmdgkcidhnaaDoorSlA
import Derived.Test.YtlapmdgkcidhnaaDoorSlB
/- ---- NoF ---- -/
/- notes: batchMayBe. -/
/- notes: WriteBatch. -/
namespace Go.Proofs.YtlapmdgkcidhnaaDoor
open Go.RowKit
set_option linter.unusedVariables false
set_option linter.unusedSimpArgs false

/-- a batch's cells -/
def Bt.cells (b : Bt) (A : Option Addr) (cap : Nat) : List Value := [.int .i64 b.seq, .int .i64 b.first, .int .i64 b.before, .slice A b.parts.length cap]
end Go.Proofs.YtlapmdgkcidhnaaDoor
namespace Go.Proofs.YtlapmdgkcidhnaaDoor
open Go.RowKit
set_option linter.unusedVariables false
set_option linter.unusedSimpArgs false

end Go.Proofs.YtlapmdgkcidhnaaDoor
