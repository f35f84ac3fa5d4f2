/- The reference's ranks and sizes; soft's Abs, Most and Nan. -/
import Derived.Test.YtfbkiklopeebdaaSRefB
import Derived.Test.YtfbkiklopeebdaaSRefF
import Derived.Test.YtfbkiklopeebdaaSoftO
namespace Go.Proofs.Ytfbkiklopeebdaa
open Go.RowKit
set_option linter.unusedVariables false
set_option linter.unusedSimpArgs false
/-- A float without its sign. -/
def absF (s : Bool) (a : Int) : Int := if cls s a == 0 || cls s a == 5 then fNan s else zOf s a
end Go.Proofs.Ytfbkiklopeebdaa

