/- span.has on a line. -/
import Derived.Test.YtdfbmafeemflaaaSpMi
import Derived.Test.YtdfbmafeemflaaaSpQ
namespace Go.Proofs.Ytdfbmafeemflaaa
open Go.RowKit
set_option linter.unusedVariables false
set_option linter.unusedSimpArgs false
end Go.Proofs.Ytdfbmafeemflaaa

