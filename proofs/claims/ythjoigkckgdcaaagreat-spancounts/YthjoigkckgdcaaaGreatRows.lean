/-
  No cell of these rows narrows 'for every input' (looked for: loops, veiled, ifaces, maps, wideKeys, modest, calm, conditions, laid).
  DERIVED. THE GIVEN ROWS OF THIS SEAT. 12 by the template 'for every input the law returns true; each argument reads behind the call as it read before'; 0 by the template 'total and deterministic' (their statements: YthjoigkckgdcaaaGreatTotals.lean).
  GIVEN WITH THE SEED: the statements are not yours to turn. If you find one false, say at which input.
  Laid BY PROGRAM, IN A SANDBOX (cutbox-rows.mjs): the forced cells as the released guide's own fill.sh prints them over the translation f7c2e1ca29454500… (all of the seat's roots in one cut). By AI agents, Wed Nov 11 2026. No macro, syntax, notation, axiom, sorry.
-/
import Derived.Test.YthjoigkckgdcaaaGreatChecked
import GoSem.Claim
import GoSem.ClaimJoined
import GoSem.ClaimMapViews
import Derived.JoinedTies
import Derived.KernelRfl
namespace Go.Proofs.YthjoigkckgdcaaaGreat
/- THE CELL 'sum', in the pinned program and in every row, IS THE sha256 OF THE DUMP (.gsa) THAT YthjoigkckgdcaaaGreatProg.lean LOADS. Nothing in Lean hashes anything: it is a label: what it is worth is what the hold of that sum in a sandbox is worth. -/
noncomputable def Tryz.pinned : Pinned := { name := "ythjoigkckgdcaaagreat", sum := "f7c2e1ca294545004d50072345bfc5c93ea8fe528a0c8e9c9b39d26f48c2922b", checked := Tryz.checked }
namespace Rows
def none {H : Type} : Left H := { results := [], args := [] }

/-- 'plumblinelaw08.SpanSets': WHATEVER THE INPUT: true; the input reads as it did. -/
def spanSetsSpec : ChangeSpec := { name := "spanSets", fn := fun _ => fun
  | [d1, d2, d3] => { results := [.lit (.bool true)], args := [d1, d2, d3] }
  | _ => none }
def spanSetsRow : OpenClaim := { program := "ythjoigkckgdcaaagreat", sum := "f7c2e1ca294545004d50072345bfc5c93ea8fe528a0c8e9c9b39d26f48c2922b", func := "plumbline/plumblinelaw08.SpanSets", spec := "spanSets", inPlace := ["math/bits.Sub64", "math/bits.Add64"], unfollowed := true, recurses := true, named := ["math/bits.divideError", "math/bits.overflowError"], apart := false }
def SpanSetsSaid : Prop := spanSetsRow.holds Tryz.pinned (OpenSpec.ofChange spanSetsSpec)

/-- ITS FALSE NEIGHBOUR: 'it returns false'. Refute it at one input. -/
def spanSetsWrong : ChangeSpec := { name := "spanSets", fn := fun _ => fun
  | [d1, d2, d3] => { results := [.lit (.bool false)], args := [d1, d2, d3] }
  | _ => none }
def SpanSetsWrongFalsely : Prop := spanSetsRow.holds Tryz.pinned (OpenSpec.ofChange spanSetsWrong)

/-- 'plumblinelaw08.SpanReckons': WHATEVER THE INPUT: true; the input reads as it did. -/
def spanReckonsSpec : ChangeSpec := { name := "spanReckons", fn := fun _ => fun
  | [d1, d2] => { results := [.lit (.bool true)], args := [d1, d2] }
  | _ => none }
def spanReckonsRow : OpenClaim := { program := "ythjoigkckgdcaaagreat", sum := "f7c2e1ca294545004d50072345bfc5c93ea8fe528a0c8e9c9b39d26f48c2922b", func := "plumbline/plumblinelaw08.SpanReckons", spec := "spanReckons", inPlace := ["math/bits.Sub64", "math/bits.Add64"], unfollowed := true, recurses := true, named := ["math/bits.divideError", "math/bits.overflowError"], apart := false }
def SpanReckonsSaid : Prop := spanReckonsRow.holds Tryz.pinned (OpenSpec.ofChange spanReckonsSpec)

/-- ITS FALSE NEIGHBOUR: 'it returns false'. Refute it at one input. -/
def spanReckonsWrong : ChangeSpec := { name := "spanReckons", fn := fun _ => fun
  | [d1, d2] => { results := [.lit (.bool false)], args := [d1, d2] }
  | _ => none }
def SpanReckonsWrongFalsely : Prop := spanReckonsRow.holds Tryz.pinned (OpenSpec.ofChange spanReckonsWrong)

/-- 'plumblinelaw08.SpanRefines': WHATEVER THE INPUT: true; the input reads as it did. -/
def spanRefinesSpec : ChangeSpec := { name := "spanRefines", fn := fun _ => fun
  | [d1, d2] => { results := [.lit (.bool true)], args := [d1, d2] }
  | _ => none }
def spanRefinesRow : OpenClaim := { program := "ythjoigkckgdcaaagreat", sum := "f7c2e1ca294545004d50072345bfc5c93ea8fe528a0c8e9c9b39d26f48c2922b", func := "plumbline/plumblinelaw08.SpanRefines", spec := "spanRefines", inPlace := ["math/bits.Sub64", "math/bits.Add64"], unfollowed := true, recurses := true, named := ["math/bits.divideError", "math/bits.overflowError"], apart := false }
def SpanRefinesSaid : Prop := spanRefinesRow.holds Tryz.pinned (OpenSpec.ofChange spanRefinesSpec)

/-- ITS FALSE NEIGHBOUR: 'it returns false'. Refute it at one input. -/
def spanRefinesWrong : ChangeSpec := { name := "spanRefines", fn := fun _ => fun
  | [d1, d2] => { results := [.lit (.bool false)], args := [d1, d2] }
  | _ => none }
def SpanRefinesWrongFalsely : Prop := spanRefinesRow.holds Tryz.pinned (OpenSpec.ofChange spanRefinesWrong)

/-- 'plumblinelaw08.SpanTurns': WHATEVER THE INPUT: true; the input reads as it did. -/
def spanTurnsSpec : ChangeSpec := { name := "spanTurns", fn := fun _ => fun
  | [d1, d2, d3] => { results := [.lit (.bool true)], args := [d1, d2, d3] }
  | _ => none }
def spanTurnsRow : OpenClaim := { program := "ythjoigkckgdcaaagreat", sum := "f7c2e1ca294545004d50072345bfc5c93ea8fe528a0c8e9c9b39d26f48c2922b", func := "plumbline/plumblinelaw08.SpanTurns", spec := "spanTurns", inPlace := ["math/bits.Sub64", "math/bits.Add64"], unfollowed := true, recurses := true, named := ["math/bits.divideError", "math/bits.overflowError"], apart := false }
def SpanTurnsSaid : Prop := spanTurnsRow.holds Tryz.pinned (OpenSpec.ofChange spanTurnsSpec)

/-- ITS FALSE NEIGHBOUR: 'it returns false'. Refute it at one input. -/
def spanTurnsWrong : ChangeSpec := { name := "spanTurns", fn := fun _ => fun
  | [d1, d2, d3] => { results := [.lit (.bool false)], args := [d1, d2, d3] }
  | _ => none }
def SpanTurnsWrongFalsely : Prop := spanTurnsRow.holds Tryz.pinned (OpenSpec.ofChange spanTurnsWrong)

/-- 'plumblinelaw08.SpanInts': WHATEVER THE INPUT: true; the input reads as it did. -/
def spanIntsSpec : ChangeSpec := { name := "spanInts", fn := fun _ => fun
  | [d1, d2, d3] => { results := [.lit (.bool true)], args := [d1, d2, d3] }
  | _ => none }
def spanIntsRow : OpenClaim := { program := "ythjoigkckgdcaaagreat", sum := "f7c2e1ca294545004d50072345bfc5c93ea8fe528a0c8e9c9b39d26f48c2922b", func := "plumbline/plumblinelaw08.SpanInts", spec := "spanInts", inPlace := ["math/bits.Sub64", "math/bits.Add64"], unfollowed := true, recurses := true, named := ["math/bits.divideError", "math/bits.overflowError"], apart := false }
def SpanIntsSaid : Prop := spanIntsRow.holds Tryz.pinned (OpenSpec.ofChange spanIntsSpec)

/-- ITS FALSE NEIGHBOUR: 'it returns false'. Refute it at one input. -/
def spanIntsWrong : ChangeSpec := { name := "spanInts", fn := fun _ => fun
  | [d1, d2, d3] => { results := [.lit (.bool false)], args := [d1, d2, d3] }
  | _ => none }
def SpanIntsWrongFalsely : Prop := spanIntsRow.holds Tryz.pinned (OpenSpec.ofChange spanIntsWrong)

/-- 'plumblinelaw08.SpanCounts': WHATEVER THE INPUT: true; the input reads as it did. -/
def spanCountsSpec : ChangeSpec := { name := "spanCounts", fn := fun _ => fun
  | [d1, d2, d3] => { results := [.lit (.bool true)], args := [d1, d2, d3] }
  | _ => none }
def spanCountsRow : OpenClaim := { program := "ythjoigkckgdcaaagreat", sum := "f7c2e1ca294545004d50072345bfc5c93ea8fe528a0c8e9c9b39d26f48c2922b", func := "plumbline/plumblinelaw08.SpanCounts", spec := "spanCounts", inPlace := ["math/bits.Sub64", "math/bits.Add64"], unfollowed := true, recurses := true, named := ["math/bits.divideError", "math/bits.overflowError"], apart := false }
def SpanCountsSaid : Prop := spanCountsRow.holds Tryz.pinned (OpenSpec.ofChange spanCountsSpec)

/-- ITS FALSE NEIGHBOUR: 'it returns false'. Refute it at one input. -/
def spanCountsWrong : ChangeSpec := { name := "spanCounts", fn := fun _ => fun
  | [d1, d2, d3] => { results := [.lit (.bool false)], args := [d1, d2, d3] }
  | _ => none }
def SpanCountsWrongFalsely : Prop := spanCountsRow.holds Tryz.pinned (OpenSpec.ofChange spanCountsWrong)

/-- 'plumblinelaw08.SpanSound': WHATEVER THE INPUT: true; the input reads as it did. -/
def spanSoundSpec : ChangeSpec := { name := "spanSound", fn := fun _ => fun
  | [d1, d2, d3] => { results := [.lit (.bool true)], args := [d1, d2, d3] }
  | _ => none }
def spanSoundRow : OpenClaim := { program := "ythjoigkckgdcaaagreat", sum := "f7c2e1ca294545004d50072345bfc5c93ea8fe528a0c8e9c9b39d26f48c2922b", func := "plumbline/plumblinelaw08.SpanSound", spec := "spanSound", inPlace := ["math/bits.Sub64", "math/bits.Add64"], unfollowed := true, recurses := true, named := ["math/bits.divideError", "math/bits.overflowError"], apart := false }
def SpanSoundSaid : Prop := spanSoundRow.holds Tryz.pinned (OpenSpec.ofChange spanSoundSpec)

/-- ITS FALSE NEIGHBOUR: 'it returns false'. Refute it at one input. -/
def spanSoundWrong : ChangeSpec := { name := "spanSound", fn := fun _ => fun
  | [d1, d2, d3] => { results := [.lit (.bool false)], args := [d1, d2, d3] }
  | _ => none }
def SpanSoundWrongFalsely : Prop := spanSoundRow.holds Tryz.pinned (OpenSpec.ofChange spanSoundWrong)

/-- 'plumblinelaw08.SpanKeeps': WHATEVER THE INPUT: true; the input reads as it did. -/
def spanKeepsSpec : ChangeSpec := { name := "spanKeeps", fn := fun _ => fun
  | [d1, d2, d3] => { results := [.lit (.bool true)], args := [d1, d2, d3] }
  | _ => none }
def spanKeepsRow : OpenClaim := { program := "ythjoigkckgdcaaagreat", sum := "f7c2e1ca294545004d50072345bfc5c93ea8fe528a0c8e9c9b39d26f48c2922b", func := "plumbline/plumblinelaw08.SpanKeeps", spec := "spanKeeps", inPlace := ["math/bits.Sub64", "math/bits.Add64"], unfollowed := true, recurses := true, named := ["math/bits.divideError", "math/bits.overflowError"], apart := false }
def SpanKeepsSaid : Prop := spanKeepsRow.holds Tryz.pinned (OpenSpec.ofChange spanKeepsSpec)

/-- ITS FALSE NEIGHBOUR: 'it returns false'. Refute it at one input. -/
def spanKeepsWrong : ChangeSpec := { name := "spanKeeps", fn := fun _ => fun
  | [d1, d2, d3] => { results := [.lit (.bool false)], args := [d1, d2, d3] }
  | _ => none }
def SpanKeepsWrongFalsely : Prop := spanKeepsRow.holds Tryz.pinned (OpenSpec.ofChange spanKeepsWrong)

/-- 'plumblinelaw08.SpanSingle': WHATEVER THE INPUT: true; the input reads as it did. -/
def spanSingleSpec : ChangeSpec := { name := "spanSingle", fn := fun _ => fun
  | [d1, d2, d3] => { results := [.lit (.bool true)], args := [d1, d2, d3] }
  | _ => none }
def spanSingleRow : OpenClaim := { program := "ythjoigkckgdcaaagreat", sum := "f7c2e1ca294545004d50072345bfc5c93ea8fe528a0c8e9c9b39d26f48c2922b", func := "plumbline/plumblinelaw08.SpanSingle", spec := "spanSingle", inPlace := ["math/bits.Sub64", "math/bits.Add64"], unfollowed := true, recurses := true, named := ["math/bits.divideError", "math/bits.overflowError"], apart := false }
def SpanSingleSaid : Prop := spanSingleRow.holds Tryz.pinned (OpenSpec.ofChange spanSingleSpec)

/-- ITS FALSE NEIGHBOUR: 'it returns false'. Refute it at one input. -/
def spanSingleWrong : ChangeSpec := { name := "spanSingle", fn := fun _ => fun
  | [d1, d2, d3] => { results := [.lit (.bool false)], args := [d1, d2, d3] }
  | _ => none }
def SpanSingleWrongFalsely : Prop := spanSingleRow.holds Tryz.pinned (OpenSpec.ofChange spanSingleWrong)

/-- 'plumblinelaw08.SpanIntSound': WHATEVER THE INPUT: true; the input reads as it did. -/
def spanIntSoundSpec : ChangeSpec := { name := "spanIntSound", fn := fun _ => fun
  | [d1, d2, d3] => { results := [.lit (.bool true)], args := [d1, d2, d3] }
  | _ => none }
def spanIntSoundRow : OpenClaim := { program := "ythjoigkckgdcaaagreat", sum := "f7c2e1ca294545004d50072345bfc5c93ea8fe528a0c8e9c9b39d26f48c2922b", func := "plumbline/plumblinelaw08.SpanIntSound", spec := "spanIntSound", inPlace := ["math/bits.Sub64", "math/bits.Add64"], unfollowed := true, recurses := true, named := ["math/bits.divideError", "math/bits.overflowError"], apart := false }
def SpanIntSoundSaid : Prop := spanIntSoundRow.holds Tryz.pinned (OpenSpec.ofChange spanIntSoundSpec)

/-- ITS FALSE NEIGHBOUR: 'it returns false'. Refute it at one input. -/
def spanIntSoundWrong : ChangeSpec := { name := "spanIntSound", fn := fun _ => fun
  | [d1, d2, d3] => { results := [.lit (.bool false)], args := [d1, d2, d3] }
  | _ => none }
def SpanIntSoundWrongFalsely : Prop := spanIntSoundRow.holds Tryz.pinned (OpenSpec.ofChange spanIntSoundWrong)

/-- 'plumblinelaw08.SpanMore': WHATEVER THE INPUT: true; the input reads as it did. -/
def spanMoreSpec : ChangeSpec := { name := "spanMore", fn := fun _ => fun
  | [d1, d2, d3] => { results := [.lit (.bool true)], args := [d1, d2, d3] }
  | _ => none }
def spanMoreRow : OpenClaim := { program := "ythjoigkckgdcaaagreat", sum := "f7c2e1ca294545004d50072345bfc5c93ea8fe528a0c8e9c9b39d26f48c2922b", func := "plumbline/plumblinelaw08.SpanMore", spec := "spanMore", inPlace := ["math/bits.Sub64", "math/bits.Add64"], unfollowed := true, recurses := true, named := ["math/bits.divideError", "math/bits.overflowError"], apart := false }
def SpanMoreSaid : Prop := spanMoreRow.holds Tryz.pinned (OpenSpec.ofChange spanMoreSpec)

/-- ITS FALSE NEIGHBOUR: 'it returns false'. Refute it at one input. -/
def spanMoreWrong : ChangeSpec := { name := "spanMore", fn := fun _ => fun
  | [d1, d2, d3] => { results := [.lit (.bool false)], args := [d1, d2, d3] }
  | _ => none }
def SpanMoreWrongFalsely : Prop := spanMoreRow.holds Tryz.pinned (OpenSpec.ofChange spanMoreWrong)

/-- 'plumblinelaw08.SpanReached': WHATEVER THE INPUT: true; the input reads as it did. -/
def spanReachedSpec : ChangeSpec := { name := "spanReached", fn := fun _ => fun
  | [d1, d2] => { results := [.lit (.bool true)], args := [d1, d2] }
  | _ => none }
def spanReachedRow : OpenClaim := { program := "ythjoigkckgdcaaagreat", sum := "f7c2e1ca294545004d50072345bfc5c93ea8fe528a0c8e9c9b39d26f48c2922b", func := "plumbline/plumblinelaw08.SpanReached", spec := "spanReached", inPlace := ["math/bits.Sub64", "math/bits.Add64"], unfollowed := true, recurses := true, named := ["math/bits.divideError", "math/bits.overflowError"], apart := false }
def SpanReachedSaid : Prop := spanReachedRow.holds Tryz.pinned (OpenSpec.ofChange spanReachedSpec)

/-- ITS FALSE NEIGHBOUR: 'it returns false'. Refute it at one input. -/
def spanReachedWrong : ChangeSpec := { name := "spanReached", fn := fun _ => fun
  | [d1, d2] => { results := [.lit (.bool false)], args := [d1, d2] }
  | _ => none }
def SpanReachedWrongFalsely : Prop := spanReachedRow.holds Tryz.pinned (OpenSpec.ofChange spanReachedWrong)

/- THE SECOND FORM. 'bulk': how many values and letters a reading holds, each counted each time it is reached (what is shared counts as often as it is met; a slice's spare places count too). A statement '..UptoSaid' is the law's where the arguments, and the package variables that the reading takes, are together of bulk at most 1048576: NARROWER than '..Said'. Prove '..Said' where nothing that the law and all that it calls make is longer than what came in: it says more and counts as full. Else prove '..UptoSaid'. A law counts once. -/
mutual
def uptoBulk {H : Type} : DataW H → Nat
  | .lit (.string bytes) => bytes.length + 1
  | .lit _ => 1
  | .nil => 1
  | .ptr d => uptoBulk d + 1
  | .slice elems spare => uptoBulkAll elems + uptoBulkAll spare + 1
  | .agg parts => uptoBulkAll parts + 1
  | .iface _ d => uptoBulk d + 1
  | .map entries => uptoBulkEntries entries + 1
  | .held _ => 1
def uptoBulkAll {H : Type} : List (DataW H) → Nat
  | [] => 0
  | d :: r => uptoBulk d + uptoBulkAll r
def uptoBulkEntries {H : Type} : List (Lit × DataW H) → Nat
  | [] => 0
  | x :: r => uptoBulkEntry x + uptoBulkEntries r
def uptoBulkEntry {H : Type} : Lit × DataW H → Nat
  | (.string bytes, d) => bytes.length + uptoBulk d + 1
  | (_, d) => uptoBulk d + 1
 end
def uptoSmall : (H : Type) → List (DataW H) → Bool := fun _ ds => decide (uptoBulkAll ds ≤ 1048576)
def OpenSpec.upto (s : _root_.Go.ChangeSpec) : _root_.Go.OpenSpec := { _root_.Go.OpenSpec.ofChange s with cond := some uptoSmall }

/-- 'plumblinelaw08.SpanSets', WHERE WHAT IT READS IS OF BULK AT MOST 1048576: true; the input reads as it did. -/
def spanSetsUptoRow : OpenClaim := { program := "ythjoigkckgdcaaagreat", sum := "f7c2e1ca294545004d50072345bfc5c93ea8fe528a0c8e9c9b39d26f48c2922b", func := "plumbline/plumblinelaw08.SpanSets", spec := "spanSets", inPlace := ["math/bits.Sub64", "math/bits.Add64"], unfollowed := true, recurses := true, named := ["math/bits.divideError", "math/bits.overflowError"], apart := false, narrowed := true }
def SpanSetsUptoSaid : Prop := spanSetsUptoRow.holds Tryz.pinned (OpenSpec.upto spanSetsSpec)

/-- 'plumblinelaw08.SpanReckons', WHERE WHAT IT READS IS OF BULK AT MOST 1048576: true; the input reads as it did. -/
def spanReckonsUptoRow : OpenClaim := { program := "ythjoigkckgdcaaagreat", sum := "f7c2e1ca294545004d50072345bfc5c93ea8fe528a0c8e9c9b39d26f48c2922b", func := "plumbline/plumblinelaw08.SpanReckons", spec := "spanReckons", inPlace := ["math/bits.Sub64", "math/bits.Add64"], unfollowed := true, recurses := true, named := ["math/bits.divideError", "math/bits.overflowError"], apart := false, narrowed := true }
def SpanReckonsUptoSaid : Prop := spanReckonsUptoRow.holds Tryz.pinned (OpenSpec.upto spanReckonsSpec)

/-- 'plumblinelaw08.SpanRefines', WHERE WHAT IT READS IS OF BULK AT MOST 1048576: true; the input reads as it did. -/
def spanRefinesUptoRow : OpenClaim := { program := "ythjoigkckgdcaaagreat", sum := "f7c2e1ca294545004d50072345bfc5c93ea8fe528a0c8e9c9b39d26f48c2922b", func := "plumbline/plumblinelaw08.SpanRefines", spec := "spanRefines", inPlace := ["math/bits.Sub64", "math/bits.Add64"], unfollowed := true, recurses := true, named := ["math/bits.divideError", "math/bits.overflowError"], apart := false, narrowed := true }
def SpanRefinesUptoSaid : Prop := spanRefinesUptoRow.holds Tryz.pinned (OpenSpec.upto spanRefinesSpec)

/-- 'plumblinelaw08.SpanTurns', WHERE WHAT IT READS IS OF BULK AT MOST 1048576: true; the input reads as it did. -/
def spanTurnsUptoRow : OpenClaim := { program := "ythjoigkckgdcaaagreat", sum := "f7c2e1ca294545004d50072345bfc5c93ea8fe528a0c8e9c9b39d26f48c2922b", func := "plumbline/plumblinelaw08.SpanTurns", spec := "spanTurns", inPlace := ["math/bits.Sub64", "math/bits.Add64"], unfollowed := true, recurses := true, named := ["math/bits.divideError", "math/bits.overflowError"], apart := false, narrowed := true }
def SpanTurnsUptoSaid : Prop := spanTurnsUptoRow.holds Tryz.pinned (OpenSpec.upto spanTurnsSpec)

/-- 'plumblinelaw08.SpanInts', WHERE WHAT IT READS IS OF BULK AT MOST 1048576: true; the input reads as it did. -/
def spanIntsUptoRow : OpenClaim := { program := "ythjoigkckgdcaaagreat", sum := "f7c2e1ca294545004d50072345bfc5c93ea8fe528a0c8e9c9b39d26f48c2922b", func := "plumbline/plumblinelaw08.SpanInts", spec := "spanInts", inPlace := ["math/bits.Sub64", "math/bits.Add64"], unfollowed := true, recurses := true, named := ["math/bits.divideError", "math/bits.overflowError"], apart := false, narrowed := true }
def SpanIntsUptoSaid : Prop := spanIntsUptoRow.holds Tryz.pinned (OpenSpec.upto spanIntsSpec)

/-- 'plumblinelaw08.SpanCounts', WHERE WHAT IT READS IS OF BULK AT MOST 1048576: true; the input reads as it did. -/
def spanCountsUptoRow : OpenClaim := { program := "ythjoigkckgdcaaagreat", sum := "f7c2e1ca294545004d50072345bfc5c93ea8fe528a0c8e9c9b39d26f48c2922b", func := "plumbline/plumblinelaw08.SpanCounts", spec := "spanCounts", inPlace := ["math/bits.Sub64", "math/bits.Add64"], unfollowed := true, recurses := true, named := ["math/bits.divideError", "math/bits.overflowError"], apart := false, narrowed := true }
def SpanCountsUptoSaid : Prop := spanCountsUptoRow.holds Tryz.pinned (OpenSpec.upto spanCountsSpec)

/-- 'plumblinelaw08.SpanSound', WHERE WHAT IT READS IS OF BULK AT MOST 1048576: true; the input reads as it did. -/
def spanSoundUptoRow : OpenClaim := { program := "ythjoigkckgdcaaagreat", sum := "f7c2e1ca294545004d50072345bfc5c93ea8fe528a0c8e9c9b39d26f48c2922b", func := "plumbline/plumblinelaw08.SpanSound", spec := "spanSound", inPlace := ["math/bits.Sub64", "math/bits.Add64"], unfollowed := true, recurses := true, named := ["math/bits.divideError", "math/bits.overflowError"], apart := false, narrowed := true }
def SpanSoundUptoSaid : Prop := spanSoundUptoRow.holds Tryz.pinned (OpenSpec.upto spanSoundSpec)

/-- 'plumblinelaw08.SpanKeeps', WHERE WHAT IT READS IS OF BULK AT MOST 1048576: true; the input reads as it did. -/
def spanKeepsUptoRow : OpenClaim := { program := "ythjoigkckgdcaaagreat", sum := "f7c2e1ca294545004d50072345bfc5c93ea8fe528a0c8e9c9b39d26f48c2922b", func := "plumbline/plumblinelaw08.SpanKeeps", spec := "spanKeeps", inPlace := ["math/bits.Sub64", "math/bits.Add64"], unfollowed := true, recurses := true, named := ["math/bits.divideError", "math/bits.overflowError"], apart := false, narrowed := true }
def SpanKeepsUptoSaid : Prop := spanKeepsUptoRow.holds Tryz.pinned (OpenSpec.upto spanKeepsSpec)

/-- 'plumblinelaw08.SpanSingle', WHERE WHAT IT READS IS OF BULK AT MOST 1048576: true; the input reads as it did. -/
def spanSingleUptoRow : OpenClaim := { program := "ythjoigkckgdcaaagreat", sum := "f7c2e1ca294545004d50072345bfc5c93ea8fe528a0c8e9c9b39d26f48c2922b", func := "plumbline/plumblinelaw08.SpanSingle", spec := "spanSingle", inPlace := ["math/bits.Sub64", "math/bits.Add64"], unfollowed := true, recurses := true, named := ["math/bits.divideError", "math/bits.overflowError"], apart := false, narrowed := true }
def SpanSingleUptoSaid : Prop := spanSingleUptoRow.holds Tryz.pinned (OpenSpec.upto spanSingleSpec)

/-- 'plumblinelaw08.SpanIntSound', WHERE WHAT IT READS IS OF BULK AT MOST 1048576: true; the input reads as it did. -/
def spanIntSoundUptoRow : OpenClaim := { program := "ythjoigkckgdcaaagreat", sum := "f7c2e1ca294545004d50072345bfc5c93ea8fe528a0c8e9c9b39d26f48c2922b", func := "plumbline/plumblinelaw08.SpanIntSound", spec := "spanIntSound", inPlace := ["math/bits.Sub64", "math/bits.Add64"], unfollowed := true, recurses := true, named := ["math/bits.divideError", "math/bits.overflowError"], apart := false, narrowed := true }
def SpanIntSoundUptoSaid : Prop := spanIntSoundUptoRow.holds Tryz.pinned (OpenSpec.upto spanIntSoundSpec)

/-- 'plumblinelaw08.SpanMore', WHERE WHAT IT READS IS OF BULK AT MOST 1048576: true; the input reads as it did. -/
def spanMoreUptoRow : OpenClaim := { program := "ythjoigkckgdcaaagreat", sum := "f7c2e1ca294545004d50072345bfc5c93ea8fe528a0c8e9c9b39d26f48c2922b", func := "plumbline/plumblinelaw08.SpanMore", spec := "spanMore", inPlace := ["math/bits.Sub64", "math/bits.Add64"], unfollowed := true, recurses := true, named := ["math/bits.divideError", "math/bits.overflowError"], apart := false, narrowed := true }
def SpanMoreUptoSaid : Prop := spanMoreUptoRow.holds Tryz.pinned (OpenSpec.upto spanMoreSpec)

/-- 'plumblinelaw08.SpanReached', WHERE WHAT IT READS IS OF BULK AT MOST 1048576: true; the input reads as it did. -/
def spanReachedUptoRow : OpenClaim := { program := "ythjoigkckgdcaaagreat", sum := "f7c2e1ca294545004d50072345bfc5c93ea8fe528a0c8e9c9b39d26f48c2922b", func := "plumbline/plumblinelaw08.SpanReached", spec := "spanReached", inPlace := ["math/bits.Sub64", "math/bits.Add64"], unfollowed := true, recurses := true, named := ["math/bits.divideError", "math/bits.overflowError"], apart := false, narrowed := true }
def SpanReachedUptoSaid : Prop := spanReachedUptoRow.holds Tryz.pinned (OpenSpec.upto spanReachedSpec)

end Rows
end Go.Proofs.YthjoigkckgdcaaaGreat
