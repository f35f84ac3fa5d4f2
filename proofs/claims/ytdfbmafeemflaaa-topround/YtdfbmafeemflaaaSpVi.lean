/- span.two by Div on a line. -/
import Derived.Test.YtdfbmafeemflaaaSpUi
namespace Go.Proofs.Ytdfbmafeemflaaa
open Go.RowKit
set_option linter.unusedVariables false
set_option linter.unusedSimpArgs false
end Go.Proofs.Ytdfbmafeemflaaa

