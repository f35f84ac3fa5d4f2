/- span.join on a line. -/
import Derived.Test.YtpcbammncaeimaaSpMi
namespace Go.Proofs.Ytpcbammncaeimaa
open Go.RowKit
set_option linter.unusedVariables false
set_option linter.unusedSimpArgs false
end Go.Proofs.Ytpcbammncaeimaa

