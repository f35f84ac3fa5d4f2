/-
  No cell of these rows narrows 'for every input' (looked for: loops, veiled, ifaces, maps, wideKeys, modest, calm, conditions, laid).
  DERIVED. THE GIVEN ROWS OF THIS SEAT. 8 by the template 'for every input the law returns true; each argument reads behind the call as it read before'; 0 by the template 'total and deterministic' (their statements: YtpcbammncaeimaaTotals.lean).
  GIVEN WITH THE SEED: the statements are not yours to turn. If you find one false, say at which input.
  Laid BY PROGRAM, IN A SANDBOX (cutbox-rows.mjs): the forced cells as the released guide's own fill.sh prints them over the translation 59afe071f70f8834… (all of the seat's roots in one cut). By AI agents, Wed Nov 11 2026. No macro, syntax, notation, axiom, sorry.
-/
import Derived.Test.YtpcbammncaeimaaChecked
import GoSem.Claim
import GoSem.ClaimJoined
import GoSem.ClaimMapViews
import Derived.JoinedTies
import Derived.KernelRfl
namespace Go.Proofs.Ytpcbammncaeimaa
/- THE CELL 'sum', in the pinned program and in every row, IS THE sha256 OF THE DUMP (.gsa) THAT YtpcbammncaeimaaProg.lean LOADS. Nothing in Lean hashes anything: it is a label: what it is worth is what the hold of that sum in a sandbox is worth. -/
noncomputable def Try.pinned : Pinned := { name := "ytpcbammncaeimaa", sum := "59afe071f70f88348c586cca246ced7aabf42eecfbf32916b959f55aac2d442c", checked := Try.checked }
namespace Rows
def none {H : Type} : Left H := { results := [], args := [] }

/-- 'plumblinelaw10.OctagonPlays': WHATEVER THE INPUT: true; the input reads as it did. -/
def octagonPlaysSpec : ChangeSpec := { name := "octagonPlays", fn := fun _ => fun
  | [d1, d2] => { results := [.lit (.bool true)], args := [d1, d2] }
  | _ => none }
def octagonPlaysRow : OpenClaim := { program := "ytpcbammncaeimaa", sum := "59afe071f70f88348c586cca246ced7aabf42eecfbf32916b959f55aac2d442c", func := "plumbline/plumblinelaw10.OctagonPlays", spec := "octagonPlays", unfollowed := true, recurses := true, apart := false }
def OctagonPlaysSaid : Prop := octagonPlaysRow.holds Try.pinned (OpenSpec.ofChange octagonPlaysSpec)

/-- ITS FALSE NEIGHBOUR: 'it returns false'. Refute it at one input. -/
def octagonPlaysWrong : ChangeSpec := { name := "octagonPlays", fn := fun _ => fun
  | [d1, d2] => { results := [.lit (.bool false)], args := [d1, d2] }
  | _ => none }
def OctagonPlaysWrongFalsely : Prop := octagonPlaysRow.holds Try.pinned (OpenSpec.ofChange octagonPlaysWrong)

/-- 'plumblinelaw10.OctagonHas': WHATEVER THE INPUT: true; the input reads as it did. -/
def octagonHasSpec : ChangeSpec := { name := "octagonHas", fn := fun _ => fun
  | [d1, d2, d3] => { results := [.lit (.bool true)], args := [d1, d2, d3] }
  | _ => none }
def octagonHasRow : OpenClaim := { program := "ytpcbammncaeimaa", sum := "59afe071f70f88348c586cca246ced7aabf42eecfbf32916b959f55aac2d442c", func := "plumbline/plumblinelaw10.OctagonHas", spec := "octagonHas", unfollowed := true, recurses := true, apart := false }
def OctagonHasSaid : Prop := octagonHasRow.holds Try.pinned (OpenSpec.ofChange octagonHasSpec)

/-- ITS FALSE NEIGHBOUR: 'it returns false'. Refute it at one input. -/
def octagonHasWrong : ChangeSpec := { name := "octagonHas", fn := fun _ => fun
  | [d1, d2, d3] => { results := [.lit (.bool false)], args := [d1, d2, d3] }
  | _ => none }
def OctagonHasWrongFalsely : Prop := octagonHasRow.holds Try.pinned (OpenSpec.ofChange octagonHasWrong)

/-- 'plumblinelaw10.OctagonSound': WHATEVER THE INPUT: true; the input reads as it did. -/
def octagonSoundSpec : ChangeSpec := { name := "octagonSound", fn := fun _ => fun
  | [d1, d2, d3] => { results := [.lit (.bool true)], args := [d1, d2, d3] }
  | _ => none }
def octagonSoundRow : OpenClaim := { program := "ytpcbammncaeimaa", sum := "59afe071f70f88348c586cca246ced7aabf42eecfbf32916b959f55aac2d442c", func := "plumbline/plumblinelaw10.OctagonSound", spec := "octagonSound", unfollowed := true, recurses := true, apart := false }
def OctagonSoundSaid : Prop := octagonSoundRow.holds Try.pinned (OpenSpec.ofChange octagonSoundSpec)

/-- ITS FALSE NEIGHBOUR: 'it returns false'. Refute it at one input. -/
def octagonSoundWrong : ChangeSpec := { name := "octagonSound", fn := fun _ => fun
  | [d1, d2, d3] => { results := [.lit (.bool false)], args := [d1, d2, d3] }
  | _ => none }
def OctagonSoundWrongFalsely : Prop := octagonSoundRow.holds Try.pinned (OpenSpec.ofChange octagonSoundWrong)

/-- 'plumblinelaw10.OctagonTight': WHATEVER THE INPUT: true; the input reads as it did. -/
def octagonTightSpec : ChangeSpec := { name := "octagonTight", fn := fun _ => fun
  | [d1, d2] => { results := [.lit (.bool true)], args := [d1, d2] }
  | _ => none }
def octagonTightRow : OpenClaim := { program := "ytpcbammncaeimaa", sum := "59afe071f70f88348c586cca246ced7aabf42eecfbf32916b959f55aac2d442c", func := "plumbline/plumblinelaw10.OctagonTight", spec := "octagonTight", unfollowed := true, recurses := true, apart := false }
def OctagonTightSaid : Prop := octagonTightRow.holds Try.pinned (OpenSpec.ofChange octagonTightSpec)

/-- ITS FALSE NEIGHBOUR: 'it returns false'. Refute it at one input. -/
def octagonTightWrong : ChangeSpec := { name := "octagonTight", fn := fun _ => fun
  | [d1, d2] => { results := [.lit (.bool false)], args := [d1, d2] }
  | _ => none }
def OctagonTightWrongFalsely : Prop := octagonTightRow.holds Try.pinned (OpenSpec.ofChange octagonTightWrong)

/-- 'plumblinelaw10.OctagonReaches': WHATEVER THE INPUT: true; the input reads as it did. -/
def octagonReachesSpec : ChangeSpec := { name := "octagonReaches", fn := fun _ => fun
  | [d1, d2, d3] => { results := [.lit (.bool true)], args := [d1, d2, d3] }
  | _ => none }
def octagonReachesRow : OpenClaim := { program := "ytpcbammncaeimaa", sum := "59afe071f70f88348c586cca246ced7aabf42eecfbf32916b959f55aac2d442c", func := "plumbline/plumblinelaw10.OctagonReaches", spec := "octagonReaches", unfollowed := true, recurses := true, apart := false }
def OctagonReachesSaid : Prop := octagonReachesRow.holds Try.pinned (OpenSpec.ofChange octagonReachesSpec)

/-- ITS FALSE NEIGHBOUR: 'it returns false'. Refute it at one input. -/
def octagonReachesWrong : ChangeSpec := { name := "octagonReaches", fn := fun _ => fun
  | [d1, d2, d3] => { results := [.lit (.bool false)], args := [d1, d2, d3] }
  | _ => none }
def OctagonReachesWrongFalsely : Prop := octagonReachesRow.holds Try.pinned (OpenSpec.ofChange octagonReachesWrong)

/-- 'plumblinelaw10.OctagonJoins': WHATEVER THE INPUT: true; the input reads as it did. -/
def octagonJoinsSpec : ChangeSpec := { name := "octagonJoins", fn := fun _ => fun
  | [d1, d2] => { results := [.lit (.bool true)], args := [d1, d2] }
  | _ => none }
def octagonJoinsRow : OpenClaim := { program := "ytpcbammncaeimaa", sum := "59afe071f70f88348c586cca246ced7aabf42eecfbf32916b959f55aac2d442c", func := "plumbline/plumblinelaw10.OctagonJoins", spec := "octagonJoins", unfollowed := true, recurses := true, apart := false }
def OctagonJoinsSaid : Prop := octagonJoinsRow.holds Try.pinned (OpenSpec.ofChange octagonJoinsSpec)

/-- ITS FALSE NEIGHBOUR: 'it returns false'. Refute it at one input. -/
def octagonJoinsWrong : ChangeSpec := { name := "octagonJoins", fn := fun _ => fun
  | [d1, d2] => { results := [.lit (.bool false)], args := [d1, d2] }
  | _ => none }
def OctagonJoinsWrongFalsely : Prop := octagonJoinsRow.holds Try.pinned (OpenSpec.ofChange octagonJoinsWrong)

/-- 'plumblinelaw10.OctagonForks': WHATEVER THE INPUT: true; the input reads as it did. -/
def octagonForksSpec : ChangeSpec := { name := "octagonForks", fn := fun _ => fun
  | [d1, d2, d3] => { results := [.lit (.bool true)], args := [d1, d2, d3] }
  | _ => none }
def octagonForksRow : OpenClaim := { program := "ytpcbammncaeimaa", sum := "59afe071f70f88348c586cca246ced7aabf42eecfbf32916b959f55aac2d442c", func := "plumbline/plumblinelaw10.OctagonForks", spec := "octagonForks", unfollowed := true, recurses := true, apart := false }
def OctagonForksSaid : Prop := octagonForksRow.holds Try.pinned (OpenSpec.ofChange octagonForksSpec)

/-- ITS FALSE NEIGHBOUR: 'it returns false'. Refute it at one input. -/
def octagonForksWrong : ChangeSpec := { name := "octagonForks", fn := fun _ => fun
  | [d1, d2, d3] => { results := [.lit (.bool false)], args := [d1, d2, d3] }
  | _ => none }
def OctagonForksWrongFalsely : Prop := octagonForksRow.holds Try.pinned (OpenSpec.ofChange octagonForksWrong)

/-- 'plumblinelaw10.OctagonTurns': WHATEVER THE INPUT: true; the input reads as it did. -/
def octagonTurnsSpec : ChangeSpec := { name := "octagonTurns", fn := fun _ => fun
  | [d1, d2, d3] => { results := [.lit (.bool true)], args := [d1, d2, d3] }
  | _ => none }
def octagonTurnsRow : OpenClaim := { program := "ytpcbammncaeimaa", sum := "59afe071f70f88348c586cca246ced7aabf42eecfbf32916b959f55aac2d442c", func := "plumbline/plumblinelaw10.OctagonTurns", spec := "octagonTurns", unfollowed := true, recurses := true, apart := false }
def OctagonTurnsSaid : Prop := octagonTurnsRow.holds Try.pinned (OpenSpec.ofChange octagonTurnsSpec)

/-- ITS FALSE NEIGHBOUR: 'it returns false'. Refute it at one input. -/
def octagonTurnsWrong : ChangeSpec := { name := "octagonTurns", fn := fun _ => fun
  | [d1, d2, d3] => { results := [.lit (.bool false)], args := [d1, d2, d3] }
  | _ => none }
def OctagonTurnsWrongFalsely : Prop := octagonTurnsRow.holds Try.pinned (OpenSpec.ofChange octagonTurnsWrong)

/- THE SECOND FORM. 'bulk': how many values and letters a reading holds, each counted each time it is reached (what is shared counts as often as it is met; a slice's spare places count too). A statement '..UptoSaid' is the law's where the arguments, and the package variables that the reading takes, are together of bulk at most 1048576: NARROWER than '..Said'. Prove '..Said' where nothing that the law and all that it calls make is longer than what came in: it says more and counts as full. Else prove '..UptoSaid'. A law counts once. -/
mutual
def uptoBulk {H : Type} : DataW H → Nat
  | .lit (.string bytes) => bytes.length + 1
  | .lit _ => 1
  | .nil => 1
  | .ptr d => uptoBulk d + 1
  | .slice elems spare => uptoBulkAll elems + uptoBulkAll spare + 1
  | .agg parts => uptoBulkAll parts + 1
  | .iface _ d => uptoBulk d + 1
  | .map entries => uptoBulkEntries entries + 1
  | .held _ => 1
def uptoBulkAll {H : Type} : List (DataW H) → Nat
  | [] => 0
  | d :: r => uptoBulk d + uptoBulkAll r
def uptoBulkEntries {H : Type} : List (Lit × DataW H) → Nat
  | [] => 0
  | x :: r => uptoBulkEntry x + uptoBulkEntries r
def uptoBulkEntry {H : Type} : Lit × DataW H → Nat
  | (.string bytes, d) => bytes.length + uptoBulk d + 1
  | (_, d) => uptoBulk d + 1
 end
def uptoSmall : (H : Type) → List (DataW H) → Bool := fun _ ds => decide (uptoBulkAll ds ≤ 1048576)
def OpenSpec.upto (s : _root_.Go.ChangeSpec) : _root_.Go.OpenSpec := { _root_.Go.OpenSpec.ofChange s with cond := some uptoSmall }

/-- 'plumblinelaw10.OctagonPlays', WHERE WHAT IT READS IS OF BULK AT MOST 1048576: true; the input reads as it did. -/
def octagonPlaysUptoRow : OpenClaim := { program := "ytpcbammncaeimaa", sum := "59afe071f70f88348c586cca246ced7aabf42eecfbf32916b959f55aac2d442c", func := "plumbline/plumblinelaw10.OctagonPlays", spec := "octagonPlays", unfollowed := true, recurses := true, apart := false, narrowed := true }
def OctagonPlaysUptoSaid : Prop := octagonPlaysUptoRow.holds Try.pinned (OpenSpec.upto octagonPlaysSpec)

/-- 'plumblinelaw10.OctagonHas', WHERE WHAT IT READS IS OF BULK AT MOST 1048576: true; the input reads as it did. -/
def octagonHasUptoRow : OpenClaim := { program := "ytpcbammncaeimaa", sum := "59afe071f70f88348c586cca246ced7aabf42eecfbf32916b959f55aac2d442c", func := "plumbline/plumblinelaw10.OctagonHas", spec := "octagonHas", unfollowed := true, recurses := true, apart := false, narrowed := true }
def OctagonHasUptoSaid : Prop := octagonHasUptoRow.holds Try.pinned (OpenSpec.upto octagonHasSpec)

/-- 'plumblinelaw10.OctagonSound', WHERE WHAT IT READS IS OF BULK AT MOST 1048576: true; the input reads as it did. -/
def octagonSoundUptoRow : OpenClaim := { program := "ytpcbammncaeimaa", sum := "59afe071f70f88348c586cca246ced7aabf42eecfbf32916b959f55aac2d442c", func := "plumbline/plumblinelaw10.OctagonSound", spec := "octagonSound", unfollowed := true, recurses := true, apart := false, narrowed := true }
def OctagonSoundUptoSaid : Prop := octagonSoundUptoRow.holds Try.pinned (OpenSpec.upto octagonSoundSpec)

/-- 'plumblinelaw10.OctagonTight', WHERE WHAT IT READS IS OF BULK AT MOST 1048576: true; the input reads as it did. -/
def octagonTightUptoRow : OpenClaim := { program := "ytpcbammncaeimaa", sum := "59afe071f70f88348c586cca246ced7aabf42eecfbf32916b959f55aac2d442c", func := "plumbline/plumblinelaw10.OctagonTight", spec := "octagonTight", unfollowed := true, recurses := true, apart := false, narrowed := true }
def OctagonTightUptoSaid : Prop := octagonTightUptoRow.holds Try.pinned (OpenSpec.upto octagonTightSpec)

/-- 'plumblinelaw10.OctagonReaches', WHERE WHAT IT READS IS OF BULK AT MOST 1048576: true; the input reads as it did. -/
def octagonReachesUptoRow : OpenClaim := { program := "ytpcbammncaeimaa", sum := "59afe071f70f88348c586cca246ced7aabf42eecfbf32916b959f55aac2d442c", func := "plumbline/plumblinelaw10.OctagonReaches", spec := "octagonReaches", unfollowed := true, recurses := true, apart := false, narrowed := true }
def OctagonReachesUptoSaid : Prop := octagonReachesUptoRow.holds Try.pinned (OpenSpec.upto octagonReachesSpec)

/-- 'plumblinelaw10.OctagonJoins', WHERE WHAT IT READS IS OF BULK AT MOST 1048576: true; the input reads as it did. -/
def octagonJoinsUptoRow : OpenClaim := { program := "ytpcbammncaeimaa", sum := "59afe071f70f88348c586cca246ced7aabf42eecfbf32916b959f55aac2d442c", func := "plumbline/plumblinelaw10.OctagonJoins", spec := "octagonJoins", unfollowed := true, recurses := true, apart := false, narrowed := true }
def OctagonJoinsUptoSaid : Prop := octagonJoinsUptoRow.holds Try.pinned (OpenSpec.upto octagonJoinsSpec)

/-- 'plumblinelaw10.OctagonForks', WHERE WHAT IT READS IS OF BULK AT MOST 1048576: true; the input reads as it did. -/
def octagonForksUptoRow : OpenClaim := { program := "ytpcbammncaeimaa", sum := "59afe071f70f88348c586cca246ced7aabf42eecfbf32916b959f55aac2d442c", func := "plumbline/plumblinelaw10.OctagonForks", spec := "octagonForks", unfollowed := true, recurses := true, apart := false, narrowed := true }
def OctagonForksUptoSaid : Prop := octagonForksUptoRow.holds Try.pinned (OpenSpec.upto octagonForksSpec)

/-- 'plumblinelaw10.OctagonTurns', WHERE WHAT IT READS IS OF BULK AT MOST 1048576: true; the input reads as it did. -/
def octagonTurnsUptoRow : OpenClaim := { program := "ytpcbammncaeimaa", sum := "59afe071f70f88348c586cca246ced7aabf42eecfbf32916b959f55aac2d442c", func := "plumbline/plumblinelaw10.OctagonTurns", spec := "octagonTurns", unfollowed := true, recurses := true, apart := false, narrowed := true }
def OctagonTurnsUptoSaid : Prop := octagonTurnsUptoRow.holds Try.pinned (OpenSpec.upto octagonTurnsSpec)

end Rows
end Go.Proofs.Ytpcbammncaeimaa
