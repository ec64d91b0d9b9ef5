/- What later texts need of the earlier layers. -/
import Derived.Test.YtlapmdgkcidhnaaDoorSlO
import Derived.Test.YtlapmdgkcidhnaaDoorSlS
import Derived.Test.YtlapmdgkcidhnaaDoorSlT
import Derived.Test.YtlapmdgkcidhnaaDoorSlC
import Derived.Test.YtlapmdgkcidhnaaDoorSlA
import Derived.Test.YtlapmdgkcidhnaaDoorSlB
import Derived.Test.YtlapmdgkcidhnaaDoorNoF
import Derived.BigQuiet
import Derived.Laws.ResultCell
/- ---- NoG ---- -/
/- The reference of layer 5: a part's text. -/
/- The reference of layer 5: WriteBatch. -/
namespace Go.Proofs.YtlapmdgkcidhnaaDoor
open Go.RowKit
set_option linter.unusedVariables false
set_option linter.unusedSimpArgs false

end Go.Proofs.YtlapmdgkcidhnaaDoor
namespace Go.Proofs.YtlapmdgkcidhnaaDoor
open Go.RowKit
set_option linter.unusedVariables false
set_option linter.unusedSimpArgs false

structure Bt.Fits (b : Bt) : Prop where
  seq : Tx.fits b.seq
  first : Tx.fits b.first
  before : Tx.fits b.before
  texts : ∀ p ∈ b.parts, p.2.length ≤ 140737488351232
end Go.Proofs.YtlapmdgkcidhnaaDoor
