/- Texts of the proof, put together. -/
import Derived.Test.YtgdknlnpfnifiaaGreatTG9
import Derived.Test.YtgdknlnpfnifiaaGreatTRgNff
import Derived.Deep.DeepCutAuto
import Derived.Test.YtgdknlnpfnifiaaGreatTG8
import Derived.Test.YtgdknlnpfnifiaaGreatTG1
namespace Go.Proofs.YtgdknlnpfnifiaaGreat
open Go.RowKit
set_option linter.unusedVariables false
set_option linter.unusedSimpArgs false
end Go.Proofs.YtgdknlnpfnifiaaGreat


namespace Go.Proofs.YtgdknlnpfnifiaaGreat
open Go.RowKit
set_option linter.unusedVariables false
set_option linter.unusedSimpArgs false
end Go.Proofs.YtgdknlnpfnifiaaGreat

namespace Go.Proofs.YtgdknlnpfnifiaaGreat
open Go.RowKit
set_option linter.unusedVariables false
set_option linter.unusedSimpArgs false
end Go.Proofs.YtgdknlnpfnifiaaGreat


namespace Go.Proofs.YtgdknlnpfnifiaaGreat
open Go.RowKit
set_option linter.unusedVariables false
set_option linter.unusedSimpArgs false
end Go.Proofs.YtgdknlnpfnifiaaGreat


