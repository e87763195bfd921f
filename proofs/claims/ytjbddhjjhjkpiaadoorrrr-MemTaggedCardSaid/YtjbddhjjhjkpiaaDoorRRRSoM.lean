/- The store: SetWord; the law's may. -/
import Derived.Test.YtjbddhjjhjkpiaaDoorRRRSoL
namespace Go.Proofs.YtjbddhjjhjkpiaaDoorRRR
set_option maxRecDepth 100000
open Go.RowKit Go.ChangeMaps Go.MapKept
open Go.Maps (Keyed)
set_option linter.unusedVariables false
set_option linter.unusedSimpArgs false

end Go.Proofs.YtjbddhjjhjkpiaaDoorRRR
