/-
  No cell of these rows narrows 'for every input' (looked for: loops, veiled, ifaces, maps, wideKeys, modest, calm, conditions, laid).
  DERIVED. THE GIVEN ROWS OF THIS SEAT. 4 by the template 'for every input the law returns true; each argument reads behind the call as it read before'; 0 by the template 'total and deterministic' (their statements: YtfgddpjdkeannadTotals.lean).
  GIVEN WITH THE SEED: the statements are not yours to turn. If you find one false, say at which input.
  Laid BY PROGRAM, IN A SANDBOX (cutbox-rows.mjs): the forced cells as the released guide's own fill.sh prints them over the translation d3c5c3c38fb9670a… (all of the seat's roots in one cut). By AI agents, Wed Nov 11 2026. No macro, syntax, notation, axiom, sorry.
-/
import Derived.Test.YtfgddpjdkeannadChecked
import GoSem.Claim
import GoSem.ClaimJoined
import GoSem.ClaimMapViews
import Derived.JoinedTies
import Derived.KernelRfl
namespace Go.Proofs.Ytfgddpjdkeannad
/- THE CELL 'sum', in the pinned program and in every row, IS THE sha256 OF THE DUMP (.gsa) THAT YtfgddpjdkeannadProg.lean LOADS. Nothing in Lean hashes anything: it is a label: what it is worth is what the hold of that sum in a sandbox is worth. -/
noncomputable def Try.pinned : Pinned := { name := "ytfgddpjdkeannad", sum := "d3c5c3c38fb9670adbe9b580f80c48c4d34d0003538a49ff07df61c23131fe50", checked := Try.checked }
namespace Rows
def none {H : Type} : Left H := { results := [], args := [] }

/-- 'plumblinelaw02.SoftMirrors': WHATEVER THE INPUT: true; the input reads as it did. -/
def softMirrorsSpec : ChangeSpec := { name := "softMirrors", fn := fun _ => fun
  | [d1, d2, d3] => { results := [.lit (.bool true)], args := [d1, d2, d3] }
  | _ => none }
def softMirrorsRow : OpenClaim := { program := "ytfgddpjdkeannad", sum := "d3c5c3c38fb9670adbe9b580f80c48c4d34d0003538a49ff07df61c23131fe50", func := "plumbline/plumblinelaw02.SoftMirrors", spec := "softMirrors", inPlace := ["math/bits.Add64", "math/bits.Sub64"], unfollowed := true, recurses := true, named := ["math/bits.divideError", "math/bits.overflowError"], apart := false }
def SoftMirrorsSaid : Prop := softMirrorsRow.holds Try.pinned (OpenSpec.ofChange softMirrorsSpec)

/-- ITS FALSE NEIGHBOUR: 'it returns false'. Refute it at one input. -/
def softMirrorsWrong : ChangeSpec := { name := "softMirrors", fn := fun _ => fun
  | [d1, d2, d3] => { results := [.lit (.bool false)], args := [d1, d2, d3] }
  | _ => none }
def SoftMirrorsWrongFalsely : Prop := softMirrorsRow.holds Try.pinned (OpenSpec.ofChange softMirrorsWrong)

/-- 'plumblinelaw02.SoftSelf': WHATEVER THE INPUT: true; the input reads as it did. -/
def softSelfSpec : ChangeSpec := { name := "softSelf", fn := fun _ => fun
  | [d1, d2] => { results := [.lit (.bool true)], args := [d1, d2] }
  | _ => none }
def softSelfRow : OpenClaim := { program := "ytfgddpjdkeannad", sum := "d3c5c3c38fb9670adbe9b580f80c48c4d34d0003538a49ff07df61c23131fe50", func := "plumbline/plumblinelaw02.SoftSelf", spec := "softSelf", inPlace := ["math/bits.Add64", "math/bits.Sub64"], unfollowed := true, recurses := true, named := ["math/bits.divideError", "math/bits.overflowError"], apart := false }
def SoftSelfSaid : Prop := softSelfRow.holds Try.pinned (OpenSpec.ofChange softSelfSpec)

/-- ITS FALSE NEIGHBOUR: 'it returns false'. Refute it at one input. -/
def softSelfWrong : ChangeSpec := { name := "softSelf", fn := fun _ => fun
  | [d1, d2] => { results := [.lit (.bool false)], args := [d1, d2] }
  | _ => none }
def SoftSelfWrongFalsely : Prop := softSelfRow.holds Try.pinned (OpenSpec.ofChange softSelfWrong)

/-- 'plumblinetop.TopRoots': WHATEVER THE INPUT: true; the input reads as it did. -/
def topRootsSpec : ChangeSpec := { name := "topRoots", fn := fun _ => fun
  | [d1, d2] => { results := [.lit (.bool true)], args := [d1, d2] }
  | _ => none }
def topRootsRow : OpenClaim := { program := "ytfgddpjdkeannad", sum := "d3c5c3c38fb9670adbe9b580f80c48c4d34d0003538a49ff07df61c23131fe50", func := "plumbline/plumblinetop.TopRoots", spec := "topRoots", inPlace := ["math/bits.Add64", "math/bits.Sub64"], unfollowed := true, recurses := true, apart := false }
def TopRootsSaid : Prop := topRootsRow.holds Try.pinned (OpenSpec.ofChange topRootsSpec)

/-- ITS FALSE NEIGHBOUR: 'it returns false'. Refute it at one input. -/
def topRootsWrong : ChangeSpec := { name := "topRoots", fn := fun _ => fun
  | [d1, d2] => { results := [.lit (.bool false)], args := [d1, d2] }
  | _ => none }
def TopRootsWrongFalsely : Prop := topRootsRow.holds Try.pinned (OpenSpec.ofChange topRootsWrong)

/-- 'plumblinetop.TopQuotients': WHATEVER THE INPUT: true; the input reads as it did. -/
def topQuotientsSpec : ChangeSpec := { name := "topQuotients", fn := fun _ => fun
  | [d1, d2, d3] => { results := [.lit (.bool true)], args := [d1, d2, d3] }
  | _ => none }
def topQuotientsRow : OpenClaim := { program := "ytfgddpjdkeannad", sum := "d3c5c3c38fb9670adbe9b580f80c48c4d34d0003538a49ff07df61c23131fe50", func := "plumbline/plumblinetop.TopQuotients", spec := "topQuotients", inPlace := ["math/bits.Add64", "math/bits.Sub64"], unfollowed := true, recurses := true, named := ["math/bits.divideError", "math/bits.overflowError"], apart := false }
def TopQuotientsSaid : Prop := topQuotientsRow.holds Try.pinned (OpenSpec.ofChange topQuotientsSpec)

/-- ITS FALSE NEIGHBOUR: 'it returns false'. Refute it at one input. -/
def topQuotientsWrong : ChangeSpec := { name := "topQuotients", fn := fun _ => fun
  | [d1, d2, d3] => { results := [.lit (.bool false)], args := [d1, d2, d3] }
  | _ => none }
def TopQuotientsWrongFalsely : Prop := topQuotientsRow.holds Try.pinned (OpenSpec.ofChange topQuotientsWrong)

/- THE SECOND FORM. 'bulk': how many values and letters a reading holds, each counted each time it is reached (what is shared counts as often as it is met; a slice's spare places count too). A statement '..UptoSaid' is the law's where the arguments, and the package variables that the reading takes, are together of bulk at most 1048576: NARROWER than '..Said'. Prove '..Said' where nothing that the law and all that it calls make is longer than what came in: it says more and counts as full. Else prove '..UptoSaid'. A law counts once. -/
mutual
def uptoBulk {H : Type} : DataW H → Nat
  | .lit (.string bytes) => bytes.length + 1
  | .lit _ => 1
  | .nil => 1
  | .ptr d => uptoBulk d + 1
  | .slice elems spare => uptoBulkAll elems + uptoBulkAll spare + 1
  | .agg parts => uptoBulkAll parts + 1
  | .iface _ d => uptoBulk d + 1
  | .map entries => uptoBulkEntries entries + 1
  | .held _ => 1
def uptoBulkAll {H : Type} : List (DataW H) → Nat
  | [] => 0
  | d :: r => uptoBulk d + uptoBulkAll r
def uptoBulkEntries {H : Type} : List (Lit × DataW H) → Nat
  | [] => 0
  | x :: r => uptoBulkEntry x + uptoBulkEntries r
def uptoBulkEntry {H : Type} : Lit × DataW H → Nat
  | (.string bytes, d) => bytes.length + uptoBulk d + 1
  | (_, d) => uptoBulk d + 1
 end
def uptoSmall : (H : Type) → List (DataW H) → Bool := fun _ ds => decide (uptoBulkAll ds ≤ 1048576)
def OpenSpec.upto (s : _root_.Go.ChangeSpec) : _root_.Go.OpenSpec := { _root_.Go.OpenSpec.ofChange s with cond := some uptoSmall }

/-- 'plumblinelaw02.SoftMirrors', WHERE WHAT IT READS IS OF BULK AT MOST 1048576: true; the input reads as it did. -/
def softMirrorsUptoRow : OpenClaim := { program := "ytfgddpjdkeannad", sum := "d3c5c3c38fb9670adbe9b580f80c48c4d34d0003538a49ff07df61c23131fe50", func := "plumbline/plumblinelaw02.SoftMirrors", spec := "softMirrors", inPlace := ["math/bits.Add64", "math/bits.Sub64"], unfollowed := true, recurses := true, named := ["math/bits.divideError", "math/bits.overflowError"], apart := false, narrowed := true }
def SoftMirrorsUptoSaid : Prop := softMirrorsUptoRow.holds Try.pinned (OpenSpec.upto softMirrorsSpec)

/-- 'plumblinelaw02.SoftSelf', WHERE WHAT IT READS IS OF BULK AT MOST 1048576: true; the input reads as it did. -/
def softSelfUptoRow : OpenClaim := { program := "ytfgddpjdkeannad", sum := "d3c5c3c38fb9670adbe9b580f80c48c4d34d0003538a49ff07df61c23131fe50", func := "plumbline/plumblinelaw02.SoftSelf", spec := "softSelf", inPlace := ["math/bits.Add64", "math/bits.Sub64"], unfollowed := true, recurses := true, named := ["math/bits.divideError", "math/bits.overflowError"], apart := false, narrowed := true }
def SoftSelfUptoSaid : Prop := softSelfUptoRow.holds Try.pinned (OpenSpec.upto softSelfSpec)

/-- 'plumblinetop.TopRoots', WHERE WHAT IT READS IS OF BULK AT MOST 1048576: true; the input reads as it did. -/
def topRootsUptoRow : OpenClaim := { program := "ytfgddpjdkeannad", sum := "d3c5c3c38fb9670adbe9b580f80c48c4d34d0003538a49ff07df61c23131fe50", func := "plumbline/plumblinetop.TopRoots", spec := "topRoots", inPlace := ["math/bits.Add64", "math/bits.Sub64"], unfollowed := true, recurses := true, apart := false, narrowed := true }
def TopRootsUptoSaid : Prop := topRootsUptoRow.holds Try.pinned (OpenSpec.upto topRootsSpec)

/-- 'plumblinetop.TopQuotients', WHERE WHAT IT READS IS OF BULK AT MOST 1048576: true; the input reads as it did. -/
def topQuotientsUptoRow : OpenClaim := { program := "ytfgddpjdkeannad", sum := "d3c5c3c38fb9670adbe9b580f80c48c4d34d0003538a49ff07df61c23131fe50", func := "plumbline/plumblinetop.TopQuotients", spec := "topQuotients", inPlace := ["math/bits.Add64", "math/bits.Sub64"], unfollowed := true, recurses := true, named := ["math/bits.divideError", "math/bits.overflowError"], apart := false, narrowed := true }
def TopQuotientsUptoSaid : Prop := topQuotientsUptoRow.holds Try.pinned (OpenSpec.upto topQuotientsSpec)

end Rows
end Go.Proofs.Ytfgddpjdkeannad
