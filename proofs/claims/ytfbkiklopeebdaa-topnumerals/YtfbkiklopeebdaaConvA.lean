/- What conv's shapeOf, sign and split answer, and the memory that they make. -/
import Derived.Test.YtfbkiklopeebdaaSoftO
import Derived.Deep.Draws
namespace Go.Proofs.Ytfbkiklopeebdaa
open Go.RowKit
set_option linter.unusedVariables false
set_option linter.unusedSimpArgs false
/-- How a format lays out its bits. -/
def shpV (s : Bool) : Value := .agg #[.int .i64 (if s then 32 else 64), .int .i64 (if s then 23 else 52), .int .i64 (if s then -149 else -1074)]
/-- A float taken apart. -/
def cprtV (s : Bool) (a : Int) : Value := .agg #[.bool (sgn s a), .int .u64 (whl s a), .int .i64 (pwr s a)]
theorem below_six (w : World) (a b c d e f : Obj) (n : Nat) : Below w.heap.size w (((((((w.alloc a).alloc b).alloc c).alloc d).alloc e).alloc f).drewN n) :=
  below_dN (below_new (below_new (below_new (below_three w a b c) d) e) f) n
end Go.Proofs.Ytfbkiklopeebdaa

