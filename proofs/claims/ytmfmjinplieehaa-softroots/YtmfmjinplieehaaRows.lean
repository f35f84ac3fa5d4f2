/-
  No cell of these rows narrows 'for every input' (looked for: loops, veiled, ifaces, maps, wideKeys, modest, calm, conditions, laid).
  DERIVED. THE GIVEN ROWS OF THIS SEAT. 7 by the template 'for every input the law returns true; each argument reads behind the call as it read before'; 0 by the template 'total and deterministic' (their statements: YtmfmjinplieehaaTotals.lean).
  GIVEN WITH THE SEED: the statements are not yours to turn. If you find one false, say at which input.
  Laid BY PROGRAM, IN A SANDBOX (cutbox-rows.mjs): the forced cells as the released guide's own fill.sh prints them over the translation 61507c8bd4e88338… (all of the seat's roots in one cut). By AI agents, Wed Nov 11 2026. No macro, syntax, notation, axiom, sorry.
-/
import Derived.Test.YtmfmjinplieehaaChecked
import GoSem.Claim
import GoSem.ClaimJoined
import GoSem.ClaimMapViews
import Derived.JoinedTies
import Derived.KernelRfl
namespace Go.Proofs.Ytmfmjinplieehaa
/- THE CELL 'sum', in the pinned program and in every row, IS THE sha256 OF THE DUMP (.gsa) THAT YtmfmjinplieehaaProg.lean LOADS. Nothing in Lean hashes anything: it is a label: what it is worth is what the hold of that sum in a sandbox is worth. -/
noncomputable def Try.pinned : Pinned := { name := "ytmfmjinplieehaa", sum := "61507c8bd4e883385be3903a8b4677b7e8ef463fd01f39cd7a1b610d90e3bb94", checked := Try.checked }
namespace Rows
def none {H : Type} : Left H := { results := [], args := [] }

/-- 'plumblinelaw02.SoftRounds': WHATEVER THE INPUT: true; the input reads as it did. -/
def softRoundsSpec : ChangeSpec := { name := "softRounds", fn := fun _ => fun
  | [d1, d2] => { results := [.lit (.bool true)], args := [d1, d2] }
  | _ => none }
def softRoundsRow : OpenClaim := { program := "ytmfmjinplieehaa", sum := "61507c8bd4e883385be3903a8b4677b7e8ef463fd01f39cd7a1b610d90e3bb94", func := "plumbline/plumblinelaw02.SoftRounds", spec := "softRounds", inPlace := ["math/bits.Add64", "math/bits.Sub64"], unfollowed := true, recurses := true, named := ["math/bits.divideError", "math/bits.overflowError"], apart := false }
def SoftRoundsSaid : Prop := softRoundsRow.holds Try.pinned (OpenSpec.ofChange softRoundsSpec)

/-- ITS FALSE NEIGHBOUR: 'it returns false'. Refute it at one input. -/
def softRoundsWrong : ChangeSpec := { name := "softRounds", fn := fun _ => fun
  | [d1, d2] => { results := [.lit (.bool false)], args := [d1, d2] }
  | _ => none }
def SoftRoundsWrongFalsely : Prop := softRoundsRow.holds Try.pinned (OpenSpec.ofChange softRoundsWrong)

/-- 'plumblinelaw02.SoftProducts': WHATEVER THE INPUT: true; the input reads as it did. -/
def softProductsSpec : ChangeSpec := { name := "softProducts", fn := fun _ => fun
  | [d1, d2, d3] => { results := [.lit (.bool true)], args := [d1, d2, d3] }
  | _ => none }
def softProductsRow : OpenClaim := { program := "ytmfmjinplieehaa", sum := "61507c8bd4e883385be3903a8b4677b7e8ef463fd01f39cd7a1b610d90e3bb94", func := "plumbline/plumblinelaw02.SoftProducts", spec := "softProducts", inPlace := ["math/bits.Add64", "math/bits.Sub64"], unfollowed := true, recurses := true, named := ["math/bits.divideError", "math/bits.overflowError"], apart := false }
def SoftProductsSaid : Prop := softProductsRow.holds Try.pinned (OpenSpec.ofChange softProductsSpec)

/-- ITS FALSE NEIGHBOUR: 'it returns false'. Refute it at one input. -/
def softProductsWrong : ChangeSpec := { name := "softProducts", fn := fun _ => fun
  | [d1, d2, d3] => { results := [.lit (.bool false)], args := [d1, d2, d3] }
  | _ => none }
def SoftProductsWrongFalsely : Prop := softProductsRow.holds Try.pinned (OpenSpec.ofChange softProductsWrong)

/-- 'plumblinelaw02.SoftParts': WHATEVER THE INPUT: true; the input reads as it did. -/
def softPartsSpec : ChangeSpec := { name := "softParts", fn := fun _ => fun
  | [d1, d2, d3] => { results := [.lit (.bool true)], args := [d1, d2, d3] }
  | _ => none }
def softPartsRow : OpenClaim := { program := "ytmfmjinplieehaa", sum := "61507c8bd4e883385be3903a8b4677b7e8ef463fd01f39cd7a1b610d90e3bb94", func := "plumbline/plumblinelaw02.SoftParts", spec := "softParts", inPlace := ["math/bits.Add64", "math/bits.Sub64"], unfollowed := true, recurses := true, named := ["math/bits.divideError", "math/bits.overflowError"], apart := false }
def SoftPartsSaid : Prop := softPartsRow.holds Try.pinned (OpenSpec.ofChange softPartsSpec)

/-- ITS FALSE NEIGHBOUR: 'it returns false'. Refute it at one input. -/
def softPartsWrong : ChangeSpec := { name := "softParts", fn := fun _ => fun
  | [d1, d2, d3] => { results := [.lit (.bool false)], args := [d1, d2, d3] }
  | _ => none }
def SoftPartsWrongFalsely : Prop := softPartsRow.holds Try.pinned (OpenSpec.ofChange softPartsWrong)

/-- 'plumblinelaw02.SoftSums': WHATEVER THE INPUT: true; the input reads as it did. -/
def softSumsSpec : ChangeSpec := { name := "softSums", fn := fun _ => fun
  | [d1, d2, d3] => { results := [.lit (.bool true)], args := [d1, d2, d3] }
  | _ => none }
def softSumsRow : OpenClaim := { program := "ytmfmjinplieehaa", sum := "61507c8bd4e883385be3903a8b4677b7e8ef463fd01f39cd7a1b610d90e3bb94", func := "plumbline/plumblinelaw02.SoftSums", spec := "softSums", inPlace := ["math/bits.Add64", "math/bits.Sub64"], unfollowed := true, recurses := true, named := ["math/bits.divideError", "math/bits.overflowError"], apart := false }
def SoftSumsSaid : Prop := softSumsRow.holds Try.pinned (OpenSpec.ofChange softSumsSpec)

/-- ITS FALSE NEIGHBOUR: 'it returns false'. Refute it at one input. -/
def softSumsWrong : ChangeSpec := { name := "softSums", fn := fun _ => fun
  | [d1, d2, d3] => { results := [.lit (.bool false)], args := [d1, d2, d3] }
  | _ => none }
def SoftSumsWrongFalsely : Prop := softSumsRow.holds Try.pinned (OpenSpec.ofChange softSumsWrong)

/-- 'plumblinelaw02.SoftRoots': WHATEVER THE INPUT: true; the input reads as it did. -/
def softRootsSpec : ChangeSpec := { name := "softRoots", fn := fun _ => fun
  | [d1, d2] => { results := [.lit (.bool true)], args := [d1, d2] }
  | _ => none }
def softRootsRow : OpenClaim := { program := "ytmfmjinplieehaa", sum := "61507c8bd4e883385be3903a8b4677b7e8ef463fd01f39cd7a1b610d90e3bb94", func := "plumbline/plumblinelaw02.SoftRoots", spec := "softRoots", inPlace := ["math/bits.Add64", "math/bits.Sub64"], unfollowed := true, recurses := true, named := ["math/bits.divideError", "math/bits.overflowError"], apart := false }
def SoftRootsSaid : Prop := softRootsRow.holds Try.pinned (OpenSpec.ofChange softRootsSpec)

/-- ITS FALSE NEIGHBOUR: 'it returns false'. Refute it at one input. -/
def softRootsWrong : ChangeSpec := { name := "softRoots", fn := fun _ => fun
  | [d1, d2] => { results := [.lit (.bool false)], args := [d1, d2] }
  | _ => none }
def SoftRootsWrongFalsely : Prop := softRootsRow.holds Try.pinned (OpenSpec.ofChange softRootsWrong)

/-- 'plumblinetop.TopInts': WHATEVER THE INPUT: true; the input reads as it did. -/
def topIntsSpec : ChangeSpec := { name := "topInts", fn := fun _ => fun
  | [d1, d2] => { results := [.lit (.bool true)], args := [d1, d2] }
  | _ => none }
def topIntsRow : OpenClaim := { program := "ytmfmjinplieehaa", sum := "61507c8bd4e883385be3903a8b4677b7e8ef463fd01f39cd7a1b610d90e3bb94", func := "plumbline/plumblinetop.TopInts", spec := "topInts", inPlace := ["math/bits.Add64", "math/bits.Sub64"], unfollowed := true, recurses := true, apart := false }
def TopIntsSaid : Prop := topIntsRow.holds Try.pinned (OpenSpec.ofChange topIntsSpec)

/-- ITS FALSE NEIGHBOUR: 'it returns false'. Refute it at one input. -/
def topIntsWrong : ChangeSpec := { name := "topInts", fn := fun _ => fun
  | [d1, d2] => { results := [.lit (.bool false)], args := [d1, d2] }
  | _ => none }
def TopIntsWrongFalsely : Prop := topIntsRow.holds Try.pinned (OpenSpec.ofChange topIntsWrong)

/-- 'plumblinetop.TopNarrows': WHATEVER THE INPUT: true; the input reads as it did. -/
def topNarrowsSpec : ChangeSpec := { name := "topNarrows", fn := fun _ => fun
  | [d] => { results := [.lit (.bool true)], args := [d] }
  | _ => none }
def topNarrowsRow : OpenClaim := { program := "ytmfmjinplieehaa", sum := "61507c8bd4e883385be3903a8b4677b7e8ef463fd01f39cd7a1b610d90e3bb94", func := "plumbline/plumblinetop.TopNarrows", spec := "topNarrows", unfollowed := true, recurses := true, apart := false }
def TopNarrowsSaid : Prop := topNarrowsRow.holds Try.pinned (OpenSpec.ofChange topNarrowsSpec)

/-- ITS FALSE NEIGHBOUR: 'it returns false'. Refute it at one input. -/
def topNarrowsWrong : ChangeSpec := { name := "topNarrows", fn := fun _ => fun
  | [d] => { results := [.lit (.bool false)], args := [d] }
  | _ => none }
def TopNarrowsWrongFalsely : Prop := topNarrowsRow.holds Try.pinned (OpenSpec.ofChange topNarrowsWrong)

/- THE SECOND FORM. 'bulk': how many values and letters a reading holds, each counted each time it is reached (what is shared counts as often as it is met; a slice's spare places count too). A statement '..UptoSaid' is the law's where the arguments, and the package variables that the reading takes, are together of bulk at most 1048576: NARROWER than '..Said'. Prove '..Said' where nothing that the law and all that it calls make is longer than what came in: it says more and counts as full. Else prove '..UptoSaid'. A law counts once. -/
mutual
def uptoBulk {H : Type} : DataW H → Nat
  | .lit (.string bytes) => bytes.length + 1
  | .lit _ => 1
  | .nil => 1
  | .ptr d => uptoBulk d + 1
  | .slice elems spare => uptoBulkAll elems + uptoBulkAll spare + 1
  | .agg parts => uptoBulkAll parts + 1
  | .iface _ d => uptoBulk d + 1
  | .map entries => uptoBulkEntries entries + 1
  | .held _ => 1
def uptoBulkAll {H : Type} : List (DataW H) → Nat
  | [] => 0
  | d :: r => uptoBulk d + uptoBulkAll r
def uptoBulkEntries {H : Type} : List (Lit × DataW H) → Nat
  | [] => 0
  | x :: r => uptoBulkEntry x + uptoBulkEntries r
def uptoBulkEntry {H : Type} : Lit × DataW H → Nat
  | (.string bytes, d) => bytes.length + uptoBulk d + 1
  | (_, d) => uptoBulk d + 1
 end
def uptoSmall : (H : Type) → List (DataW H) → Bool := fun _ ds => decide (uptoBulkAll ds ≤ 1048576)
def OpenSpec.upto (s : _root_.Go.ChangeSpec) : _root_.Go.OpenSpec := { _root_.Go.OpenSpec.ofChange s with cond := some uptoSmall }

/-- 'plumblinelaw02.SoftRounds', WHERE WHAT IT READS IS OF BULK AT MOST 1048576: true; the input reads as it did. -/
def softRoundsUptoRow : OpenClaim := { program := "ytmfmjinplieehaa", sum := "61507c8bd4e883385be3903a8b4677b7e8ef463fd01f39cd7a1b610d90e3bb94", func := "plumbline/plumblinelaw02.SoftRounds", spec := "softRounds", inPlace := ["math/bits.Add64", "math/bits.Sub64"], unfollowed := true, recurses := true, named := ["math/bits.divideError", "math/bits.overflowError"], apart := false, narrowed := true }
def SoftRoundsUptoSaid : Prop := softRoundsUptoRow.holds Try.pinned (OpenSpec.upto softRoundsSpec)

/-- 'plumblinelaw02.SoftProducts', WHERE WHAT IT READS IS OF BULK AT MOST 1048576: true; the input reads as it did. -/
def softProductsUptoRow : OpenClaim := { program := "ytmfmjinplieehaa", sum := "61507c8bd4e883385be3903a8b4677b7e8ef463fd01f39cd7a1b610d90e3bb94", func := "plumbline/plumblinelaw02.SoftProducts", spec := "softProducts", inPlace := ["math/bits.Add64", "math/bits.Sub64"], unfollowed := true, recurses := true, named := ["math/bits.divideError", "math/bits.overflowError"], apart := false, narrowed := true }
def SoftProductsUptoSaid : Prop := softProductsUptoRow.holds Try.pinned (OpenSpec.upto softProductsSpec)

/-- 'plumblinelaw02.SoftParts', WHERE WHAT IT READS IS OF BULK AT MOST 1048576: true; the input reads as it did. -/
def softPartsUptoRow : OpenClaim := { program := "ytmfmjinplieehaa", sum := "61507c8bd4e883385be3903a8b4677b7e8ef463fd01f39cd7a1b610d90e3bb94", func := "plumbline/plumblinelaw02.SoftParts", spec := "softParts", inPlace := ["math/bits.Add64", "math/bits.Sub64"], unfollowed := true, recurses := true, named := ["math/bits.divideError", "math/bits.overflowError"], apart := false, narrowed := true }
def SoftPartsUptoSaid : Prop := softPartsUptoRow.holds Try.pinned (OpenSpec.upto softPartsSpec)

/-- 'plumblinelaw02.SoftSums', WHERE WHAT IT READS IS OF BULK AT MOST 1048576: true; the input reads as it did. -/
def softSumsUptoRow : OpenClaim := { program := "ytmfmjinplieehaa", sum := "61507c8bd4e883385be3903a8b4677b7e8ef463fd01f39cd7a1b610d90e3bb94", func := "plumbline/plumblinelaw02.SoftSums", spec := "softSums", inPlace := ["math/bits.Add64", "math/bits.Sub64"], unfollowed := true, recurses := true, named := ["math/bits.divideError", "math/bits.overflowError"], apart := false, narrowed := true }
def SoftSumsUptoSaid : Prop := softSumsUptoRow.holds Try.pinned (OpenSpec.upto softSumsSpec)

/-- 'plumblinelaw02.SoftRoots', WHERE WHAT IT READS IS OF BULK AT MOST 1048576: true; the input reads as it did. -/
def softRootsUptoRow : OpenClaim := { program := "ytmfmjinplieehaa", sum := "61507c8bd4e883385be3903a8b4677b7e8ef463fd01f39cd7a1b610d90e3bb94", func := "plumbline/plumblinelaw02.SoftRoots", spec := "softRoots", inPlace := ["math/bits.Add64", "math/bits.Sub64"], unfollowed := true, recurses := true, named := ["math/bits.divideError", "math/bits.overflowError"], apart := false, narrowed := true }
def SoftRootsUptoSaid : Prop := softRootsUptoRow.holds Try.pinned (OpenSpec.upto softRootsSpec)

/-- 'plumblinetop.TopInts', WHERE WHAT IT READS IS OF BULK AT MOST 1048576: true; the input reads as it did. -/
def topIntsUptoRow : OpenClaim := { program := "ytmfmjinplieehaa", sum := "61507c8bd4e883385be3903a8b4677b7e8ef463fd01f39cd7a1b610d90e3bb94", func := "plumbline/plumblinetop.TopInts", spec := "topInts", inPlace := ["math/bits.Add64", "math/bits.Sub64"], unfollowed := true, recurses := true, apart := false, narrowed := true }
def TopIntsUptoSaid : Prop := topIntsUptoRow.holds Try.pinned (OpenSpec.upto topIntsSpec)

/-- 'plumblinetop.TopNarrows', WHERE WHAT IT READS IS OF BULK AT MOST 1048576: true; the input reads as it did. -/
def topNarrowsUptoRow : OpenClaim := { program := "ytmfmjinplieehaa", sum := "61507c8bd4e883385be3903a8b4677b7e8ef463fd01f39cd7a1b610d90e3bb94", func := "plumbline/plumblinetop.TopNarrows", spec := "topNarrows", unfollowed := true, recurses := true, apart := false, narrowed := true }
def TopNarrowsUptoSaid : Prop := topNarrowsUptoRow.holds Try.pinned (OpenSpec.upto topNarrowsSpec)

end Rows
end Go.Proofs.Ytmfmjinplieehaa
