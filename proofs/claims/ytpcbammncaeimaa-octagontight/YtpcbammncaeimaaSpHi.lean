/- span.has on a line. -/
import Derived.Test.YtpcbammncaeimaaSpMi
import Derived.Test.YtpcbammncaeimaaSpQ
namespace Go.Proofs.Ytpcbammncaeimaa
open Go.RowKit
set_option linter.unusedVariables false
set_option linter.unusedSimpArgs false
end Go.Proofs.Ytpcbammncaeimaa

