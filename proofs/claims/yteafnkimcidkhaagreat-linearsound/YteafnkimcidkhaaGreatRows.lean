/-
  No cell of these rows narrows 'for every input' (looked for: loops, veiled, ifaces, maps, wideKeys, modest, calm, conditions, laid).
  DERIVED. THE GIVEN ROWS OF THIS SEAT. 10 by the template 'for every input the law returns true; each argument reads behind the call as it read before'; 0 by the template 'total and deterministic' (their statements: YteafnkimcidkhaaGreatTotals.lean).
  GIVEN WITH THE SEED: the statements are not yours to turn. If you find one false, say at which input.
  Laid BY PROGRAM, IN A SANDBOX (cutbox-rows.mjs): the forced cells as the released guide's own fill.sh prints them over the translation f1a7ce6ca11e0742… (all of the seat's roots in one cut). By AI agents, Wed Nov 11 2026. No macro, syntax, notation, axiom, sorry.
-/
import Derived.Test.YteafnkimcidkhaaGreatChecked
import GoSem.Claim
import GoSem.ClaimJoined
import GoSem.ClaimMapViews
import Derived.JoinedTies
import Derived.KernelRfl
namespace Go.Proofs.YteafnkimcidkhaaGreat
/- THE CELL 'sum', in the pinned program and in every row, IS THE sha256 OF THE DUMP (.gsa) THAT YteafnkimcidkhaaGreatProg.lean LOADS. Nothing in Lean hashes anything: it is a label: what it is worth is what the hold of that sum in a sandbox is worth. -/
noncomputable def Tryz.pinned : Pinned := { name := "yteafnkimcidkhaagreat", sum := "f1a7ce6ca11e07427f50fabda808d6fbf7252694b6ca46149d73d6b5f2d9a22f", checked := Tryz.checked }
namespace Rows
def none {H : Type} : Left H := { results := [], args := [] }

/-- 'plumblinelaw09.LinearRanges': WHATEVER THE INPUT: true; the input reads as it did. -/
def linearRangesSpec : ChangeSpec := { name := "linearRanges", fn := fun _ => fun
  | [d1, d2] => { results := [.lit (.bool true)], args := [d1, d2] }
  | _ => none }
def linearRangesRow : OpenClaim := { program := "yteafnkimcidkhaagreat", sum := "f1a7ce6ca11e07427f50fabda808d6fbf7252694b6ca46149d73d6b5f2d9a22f", func := "plumbline/plumblinelaw09.LinearRanges", spec := "linearRanges", inPlace := ["math/bits.Sub64", "math/bits.Add64"], unfollowed := true, recurses := true, named := ["math/bits.divideError", "math/bits.overflowError"], apart := false }
def LinearRangesSaid : Prop := linearRangesRow.holds Tryz.pinned (OpenSpec.ofChange linearRangesSpec)

/-- ITS FALSE NEIGHBOUR: 'it returns false'. Refute it at one input. -/
def linearRangesWrong : ChangeSpec := { name := "linearRanges", fn := fun _ => fun
  | [d1, d2] => { results := [.lit (.bool false)], args := [d1, d2] }
  | _ => none }
def LinearRangesWrongFalsely : Prop := linearRangesRow.holds Tryz.pinned (OpenSpec.ofChange linearRangesWrong)

/-- 'plumblinelaw09.LinearForms': WHATEVER THE INPUT: true; the input reads as it did. -/
def linearFormsSpec : ChangeSpec := { name := "linearForms", fn := fun _ => fun
  | [d1, d2, d3] => { results := [.lit (.bool true)], args := [d1, d2, d3] }
  | _ => none }
def linearFormsRow : OpenClaim := { program := "yteafnkimcidkhaagreat", sum := "f1a7ce6ca11e07427f50fabda808d6fbf7252694b6ca46149d73d6b5f2d9a22f", func := "plumbline/plumblinelaw09.LinearForms", spec := "linearForms", inPlace := ["math/bits.Sub64", "math/bits.Add64"], unfollowed := true, recurses := true, named := ["math/bits.divideError", "math/bits.overflowError"], apart := false }
def LinearFormsSaid : Prop := linearFormsRow.holds Tryz.pinned (OpenSpec.ofChange linearFormsSpec)

/-- ITS FALSE NEIGHBOUR: 'it returns false'. Refute it at one input. -/
def linearFormsWrong : ChangeSpec := { name := "linearForms", fn := fun _ => fun
  | [d1, d2, d3] => { results := [.lit (.bool false)], args := [d1, d2, d3] }
  | _ => none }
def LinearFormsWrongFalsely : Prop := linearFormsRow.holds Tryz.pinned (OpenSpec.ofChange linearFormsWrong)

/-- 'plumblinelaw09.LinearReckons': WHATEVER THE INPUT: true; the input reads as it did. -/
def linearReckonsSpec : ChangeSpec := { name := "linearReckons", fn := fun _ => fun
  | [d1, d2] => { results := [.lit (.bool true)], args := [d1, d2] }
  | _ => none }
def linearReckonsRow : OpenClaim := { program := "yteafnkimcidkhaagreat", sum := "f1a7ce6ca11e07427f50fabda808d6fbf7252694b6ca46149d73d6b5f2d9a22f", func := "plumbline/plumblinelaw09.LinearReckons", spec := "linearReckons", inPlace := ["math/bits.Sub64", "math/bits.Add64"], unfollowed := true, recurses := true, named := ["math/bits.divideError", "math/bits.overflowError"], apart := false }
def LinearReckonsSaid : Prop := linearReckonsRow.holds Tryz.pinned (OpenSpec.ofChange linearReckonsSpec)

/-- ITS FALSE NEIGHBOUR: 'it returns false'. Refute it at one input. -/
def linearReckonsWrong : ChangeSpec := { name := "linearReckons", fn := fun _ => fun
  | [d1, d2] => { results := [.lit (.bool false)], args := [d1, d2] }
  | _ => none }
def LinearReckonsWrongFalsely : Prop := linearReckonsRow.holds Tryz.pinned (OpenSpec.ofChange linearReckonsWrong)

/-- 'plumblinelaw09.LinearScales': WHATEVER THE INPUT: true; the input reads as it did. -/
def linearScalesSpec : ChangeSpec := { name := "linearScales", fn := fun _ => fun
  | [d1, d2, d3] => { results := [.lit (.bool true)], args := [d1, d2, d3] }
  | _ => none }
def linearScalesRow : OpenClaim := { program := "yteafnkimcidkhaagreat", sum := "f1a7ce6ca11e07427f50fabda808d6fbf7252694b6ca46149d73d6b5f2d9a22f", func := "plumbline/plumblinelaw09.LinearScales", spec := "linearScales", inPlace := ["math/bits.Sub64", "math/bits.Add64"], unfollowed := true, recurses := true, named := ["math/bits.divideError", "math/bits.overflowError"], apart := false }
def LinearScalesSaid : Prop := linearScalesRow.holds Tryz.pinned (OpenSpec.ofChange linearScalesSpec)

/-- ITS FALSE NEIGHBOUR: 'it returns false'. Refute it at one input. -/
def linearScalesWrong : ChangeSpec := { name := "linearScales", fn := fun _ => fun
  | [d1, d2, d3] => { results := [.lit (.bool false)], args := [d1, d2, d3] }
  | _ => none }
def LinearScalesWrongFalsely : Prop := linearScalesRow.holds Tryz.pinned (OpenSpec.ofChange linearScalesWrong)

/-- 'plumblinelaw09.LinearTurns': WHATEVER THE INPUT: true; the input reads as it did. -/
def linearTurnsSpec : ChangeSpec := { name := "linearTurns", fn := fun _ => fun
  | [d1, d2] => { results := [.lit (.bool true)], args := [d1, d2] }
  | _ => none }
def linearTurnsRow : OpenClaim := { program := "yteafnkimcidkhaagreat", sum := "f1a7ce6ca11e07427f50fabda808d6fbf7252694b6ca46149d73d6b5f2d9a22f", func := "plumbline/plumblinelaw09.LinearTurns", spec := "linearTurns", inPlace := ["math/bits.Sub64", "math/bits.Add64"], unfollowed := true, recurses := true, named := ["math/bits.divideError", "math/bits.overflowError"], apart := false }
def LinearTurnsSaid : Prop := linearTurnsRow.holds Tryz.pinned (OpenSpec.ofChange linearTurnsSpec)

/-- ITS FALSE NEIGHBOUR: 'it returns false'. Refute it at one input. -/
def linearTurnsWrong : ChangeSpec := { name := "linearTurns", fn := fun _ => fun
  | [d1, d2] => { results := [.lit (.bool false)], args := [d1, d2] }
  | _ => none }
def LinearTurnsWrongFalsely : Prop := linearTurnsRow.holds Tryz.pinned (OpenSpec.ofChange linearTurnsWrong)

/-- 'plumblinelaw09.LinearSound': WHATEVER THE INPUT: true; the input reads as it did. -/
def linearSoundSpec : ChangeSpec := { name := "linearSound", fn := fun _ => fun
  | [d1, d2, d3] => { results := [.lit (.bool true)], args := [d1, d2, d3] }
  | _ => none }
def linearSoundRow : OpenClaim := { program := "yteafnkimcidkhaagreat", sum := "f1a7ce6ca11e07427f50fabda808d6fbf7252694b6ca46149d73d6b5f2d9a22f", func := "plumbline/plumblinelaw09.LinearSound", spec := "linearSound", inPlace := ["math/bits.Sub64", "math/bits.Add64"], unfollowed := true, recurses := true, named := ["math/bits.divideError", "math/bits.overflowError"], apart := false }
def LinearSoundSaid : Prop := linearSoundRow.holds Tryz.pinned (OpenSpec.ofChange linearSoundSpec)

/-- ITS FALSE NEIGHBOUR: 'it returns false'. Refute it at one input. -/
def linearSoundWrong : ChangeSpec := { name := "linearSound", fn := fun _ => fun
  | [d1, d2, d3] => { results := [.lit (.bool false)], args := [d1, d2, d3] }
  | _ => none }
def LinearSoundWrongFalsely : Prop := linearSoundRow.holds Tryz.pinned (OpenSpec.ofChange linearSoundWrong)

/-- 'plumblinelaw09.LinearBlurs': WHATEVER THE INPUT: true; the input reads as it did. -/
def linearBlursSpec : ChangeSpec := { name := "linearBlurs", fn := fun _ => fun
  | [d1, d2, d3] => { results := [.lit (.bool true)], args := [d1, d2, d3] }
  | _ => none }
def linearBlursRow : OpenClaim := { program := "yteafnkimcidkhaagreat", sum := "f1a7ce6ca11e07427f50fabda808d6fbf7252694b6ca46149d73d6b5f2d9a22f", func := "plumbline/plumblinelaw09.LinearBlurs", spec := "linearBlurs", inPlace := ["math/bits.Sub64", "math/bits.Add64"], unfollowed := true, recurses := true, named := ["math/bits.divideError", "math/bits.overflowError"], apart := false }
def LinearBlursSaid : Prop := linearBlursRow.holds Tryz.pinned (OpenSpec.ofChange linearBlursSpec)

/-- ITS FALSE NEIGHBOUR: 'it returns false'. Refute it at one input. -/
def linearBlursWrong : ChangeSpec := { name := "linearBlurs", fn := fun _ => fun
  | [d1, d2, d3] => { results := [.lit (.bool false)], args := [d1, d2, d3] }
  | _ => none }
def LinearBlursWrongFalsely : Prop := linearBlursRow.holds Tryz.pinned (OpenSpec.ofChange linearBlursWrong)

/-- 'plumblinelaw09.LinearMore': WHATEVER THE INPUT: true; the input reads as it did. -/
def linearMoreSpec : ChangeSpec := { name := "linearMore", fn := fun _ => fun
  | [d1, d2, d3] => { results := [.lit (.bool true)], args := [d1, d2, d3] }
  | _ => none }
def linearMoreRow : OpenClaim := { program := "yteafnkimcidkhaagreat", sum := "f1a7ce6ca11e07427f50fabda808d6fbf7252694b6ca46149d73d6b5f2d9a22f", func := "plumbline/plumblinelaw09.LinearMore", spec := "linearMore", inPlace := ["math/bits.Sub64", "math/bits.Add64"], unfollowed := true, recurses := true, named := ["math/bits.divideError", "math/bits.overflowError"], apart := false }
def LinearMoreSaid : Prop := linearMoreRow.holds Tryz.pinned (OpenSpec.ofChange linearMoreSpec)

/-- ITS FALSE NEIGHBOUR: 'it returns false'. Refute it at one input. -/
def linearMoreWrong : ChangeSpec := { name := "linearMore", fn := fun _ => fun
  | [d1, d2, d3] => { results := [.lit (.bool false)], args := [d1, d2, d3] }
  | _ => none }
def LinearMoreWrongFalsely : Prop := linearMoreRow.holds Tryz.pinned (OpenSpec.ofChange linearMoreWrong)

/-- 'plumblinelaw09.LinearWhole': WHATEVER THE INPUT: true; the input reads as it did. -/
def linearWholeSpec : ChangeSpec := { name := "linearWhole", fn := fun _ => fun
  | [d1, d2, d3] => { results := [.lit (.bool true)], args := [d1, d2, d3] }
  | _ => none }
def linearWholeRow : OpenClaim := { program := "yteafnkimcidkhaagreat", sum := "f1a7ce6ca11e07427f50fabda808d6fbf7252694b6ca46149d73d6b5f2d9a22f", func := "plumbline/plumblinelaw09.LinearWhole", spec := "linearWhole", inPlace := ["math/bits.Sub64", "math/bits.Add64"], unfollowed := true, recurses := true, named := ["math/bits.divideError", "math/bits.overflowError"], apart := false }
def LinearWholeSaid : Prop := linearWholeRow.holds Tryz.pinned (OpenSpec.ofChange linearWholeSpec)

/-- ITS FALSE NEIGHBOUR: 'it returns false'. Refute it at one input. -/
def linearWholeWrong : ChangeSpec := { name := "linearWhole", fn := fun _ => fun
  | [d1, d2, d3] => { results := [.lit (.bool false)], args := [d1, d2, d3] }
  | _ => none }
def LinearWholeWrongFalsely : Prop := linearWholeRow.holds Tryz.pinned (OpenSpec.ofChange linearWholeWrong)

/-- 'plumblinetop.TopForms': WHATEVER THE INPUT: true; the input reads as it did. -/
def topFormsSpec : ChangeSpec := { name := "topForms", fn := fun _ => fun
  | [d1, d2] => { results := [.lit (.bool true)], args := [d1, d2] }
  | _ => none }
def topFormsRow : OpenClaim := { program := "yteafnkimcidkhaagreat", sum := "f1a7ce6ca11e07427f50fabda808d6fbf7252694b6ca46149d73d6b5f2d9a22f", func := "plumbline/plumblinetop.TopForms", spec := "topForms", inPlace := ["math/bits.Sub64", "math/bits.Add64"], unfollowed := true, recurses := true, named := ["math/bits.divideError", "math/bits.overflowError"], apart := false }
def TopFormsSaid : Prop := topFormsRow.holds Tryz.pinned (OpenSpec.ofChange topFormsSpec)

/-- ITS FALSE NEIGHBOUR: 'it returns false'. Refute it at one input. -/
def topFormsWrong : ChangeSpec := { name := "topForms", fn := fun _ => fun
  | [d1, d2] => { results := [.lit (.bool false)], args := [d1, d2] }
  | _ => none }
def TopFormsWrongFalsely : Prop := topFormsRow.holds Tryz.pinned (OpenSpec.ofChange topFormsWrong)

/- THE SECOND FORM. 'bulk': how many values and letters a reading holds, each counted each time it is reached (what is shared counts as often as it is met; a slice's spare places count too). A statement '..UptoSaid' is the law's where the arguments, and the package variables that the reading takes, are together of bulk at most 1048576: NARROWER than '..Said'. Prove '..Said' where nothing that the law and all that it calls make is longer than what came in: it says more and counts as full. Else prove '..UptoSaid'. A law counts once. -/
mutual
def uptoBulk {H : Type} : DataW H → Nat
  | .lit (.string bytes) => bytes.length + 1
  | .lit _ => 1
  | .nil => 1
  | .ptr d => uptoBulk d + 1
  | .slice elems spare => uptoBulkAll elems + uptoBulkAll spare + 1
  | .agg parts => uptoBulkAll parts + 1
  | .iface _ d => uptoBulk d + 1
  | .map entries => uptoBulkEntries entries + 1
  | .held _ => 1
def uptoBulkAll {H : Type} : List (DataW H) → Nat
  | [] => 0
  | d :: r => uptoBulk d + uptoBulkAll r
def uptoBulkEntries {H : Type} : List (Lit × DataW H) → Nat
  | [] => 0
  | x :: r => uptoBulkEntry x + uptoBulkEntries r
def uptoBulkEntry {H : Type} : Lit × DataW H → Nat
  | (.string bytes, d) => bytes.length + uptoBulk d + 1
  | (_, d) => uptoBulk d + 1
 end
def uptoSmall : (H : Type) → List (DataW H) → Bool := fun _ ds => decide (uptoBulkAll ds ≤ 1048576)
def OpenSpec.upto (s : _root_.Go.ChangeSpec) : _root_.Go.OpenSpec := { _root_.Go.OpenSpec.ofChange s with cond := some uptoSmall }

/-- 'plumblinelaw09.LinearRanges', WHERE WHAT IT READS IS OF BULK AT MOST 1048576: true; the input reads as it did. -/
def linearRangesUptoRow : OpenClaim := { program := "yteafnkimcidkhaagreat", sum := "f1a7ce6ca11e07427f50fabda808d6fbf7252694b6ca46149d73d6b5f2d9a22f", func := "plumbline/plumblinelaw09.LinearRanges", spec := "linearRanges", inPlace := ["math/bits.Sub64", "math/bits.Add64"], unfollowed := true, recurses := true, named := ["math/bits.divideError", "math/bits.overflowError"], apart := false, narrowed := true }
def LinearRangesUptoSaid : Prop := linearRangesUptoRow.holds Tryz.pinned (OpenSpec.upto linearRangesSpec)

/-- 'plumblinelaw09.LinearForms', WHERE WHAT IT READS IS OF BULK AT MOST 1048576: true; the input reads as it did. -/
def linearFormsUptoRow : OpenClaim := { program := "yteafnkimcidkhaagreat", sum := "f1a7ce6ca11e07427f50fabda808d6fbf7252694b6ca46149d73d6b5f2d9a22f", func := "plumbline/plumblinelaw09.LinearForms", spec := "linearForms", inPlace := ["math/bits.Sub64", "math/bits.Add64"], unfollowed := true, recurses := true, named := ["math/bits.divideError", "math/bits.overflowError"], apart := false, narrowed := true }
def LinearFormsUptoSaid : Prop := linearFormsUptoRow.holds Tryz.pinned (OpenSpec.upto linearFormsSpec)

/-- 'plumblinelaw09.LinearReckons', WHERE WHAT IT READS IS OF BULK AT MOST 1048576: true; the input reads as it did. -/
def linearReckonsUptoRow : OpenClaim := { program := "yteafnkimcidkhaagreat", sum := "f1a7ce6ca11e07427f50fabda808d6fbf7252694b6ca46149d73d6b5f2d9a22f", func := "plumbline/plumblinelaw09.LinearReckons", spec := "linearReckons", inPlace := ["math/bits.Sub64", "math/bits.Add64"], unfollowed := true, recurses := true, named := ["math/bits.divideError", "math/bits.overflowError"], apart := false, narrowed := true }
def LinearReckonsUptoSaid : Prop := linearReckonsUptoRow.holds Tryz.pinned (OpenSpec.upto linearReckonsSpec)

/-- 'plumblinelaw09.LinearScales', WHERE WHAT IT READS IS OF BULK AT MOST 1048576: true; the input reads as it did. -/
def linearScalesUptoRow : OpenClaim := { program := "yteafnkimcidkhaagreat", sum := "f1a7ce6ca11e07427f50fabda808d6fbf7252694b6ca46149d73d6b5f2d9a22f", func := "plumbline/plumblinelaw09.LinearScales", spec := "linearScales", inPlace := ["math/bits.Sub64", "math/bits.Add64"], unfollowed := true, recurses := true, named := ["math/bits.divideError", "math/bits.overflowError"], apart := false, narrowed := true }
def LinearScalesUptoSaid : Prop := linearScalesUptoRow.holds Tryz.pinned (OpenSpec.upto linearScalesSpec)

/-- 'plumblinelaw09.LinearTurns', WHERE WHAT IT READS IS OF BULK AT MOST 1048576: true; the input reads as it did. -/
def linearTurnsUptoRow : OpenClaim := { program := "yteafnkimcidkhaagreat", sum := "f1a7ce6ca11e07427f50fabda808d6fbf7252694b6ca46149d73d6b5f2d9a22f", func := "plumbline/plumblinelaw09.LinearTurns", spec := "linearTurns", inPlace := ["math/bits.Sub64", "math/bits.Add64"], unfollowed := true, recurses := true, named := ["math/bits.divideError", "math/bits.overflowError"], apart := false, narrowed := true }
def LinearTurnsUptoSaid : Prop := linearTurnsUptoRow.holds Tryz.pinned (OpenSpec.upto linearTurnsSpec)

/-- 'plumblinelaw09.LinearSound', WHERE WHAT IT READS IS OF BULK AT MOST 1048576: true; the input reads as it did. -/
def linearSoundUptoRow : OpenClaim := { program := "yteafnkimcidkhaagreat", sum := "f1a7ce6ca11e07427f50fabda808d6fbf7252694b6ca46149d73d6b5f2d9a22f", func := "plumbline/plumblinelaw09.LinearSound", spec := "linearSound", inPlace := ["math/bits.Sub64", "math/bits.Add64"], unfollowed := true, recurses := true, named := ["math/bits.divideError", "math/bits.overflowError"], apart := false, narrowed := true }
def LinearSoundUptoSaid : Prop := linearSoundUptoRow.holds Tryz.pinned (OpenSpec.upto linearSoundSpec)

/-- 'plumblinelaw09.LinearBlurs', WHERE WHAT IT READS IS OF BULK AT MOST 1048576: true; the input reads as it did. -/
def linearBlursUptoRow : OpenClaim := { program := "yteafnkimcidkhaagreat", sum := "f1a7ce6ca11e07427f50fabda808d6fbf7252694b6ca46149d73d6b5f2d9a22f", func := "plumbline/plumblinelaw09.LinearBlurs", spec := "linearBlurs", inPlace := ["math/bits.Sub64", "math/bits.Add64"], unfollowed := true, recurses := true, named := ["math/bits.divideError", "math/bits.overflowError"], apart := false, narrowed := true }
def LinearBlursUptoSaid : Prop := linearBlursUptoRow.holds Tryz.pinned (OpenSpec.upto linearBlursSpec)

/-- 'plumblinelaw09.LinearMore', WHERE WHAT IT READS IS OF BULK AT MOST 1048576: true; the input reads as it did. -/
def linearMoreUptoRow : OpenClaim := { program := "yteafnkimcidkhaagreat", sum := "f1a7ce6ca11e07427f50fabda808d6fbf7252694b6ca46149d73d6b5f2d9a22f", func := "plumbline/plumblinelaw09.LinearMore", spec := "linearMore", inPlace := ["math/bits.Sub64", "math/bits.Add64"], unfollowed := true, recurses := true, named := ["math/bits.divideError", "math/bits.overflowError"], apart := false, narrowed := true }
def LinearMoreUptoSaid : Prop := linearMoreUptoRow.holds Tryz.pinned (OpenSpec.upto linearMoreSpec)

/-- 'plumblinelaw09.LinearWhole', WHERE WHAT IT READS IS OF BULK AT MOST 1048576: true; the input reads as it did. -/
def linearWholeUptoRow : OpenClaim := { program := "yteafnkimcidkhaagreat", sum := "f1a7ce6ca11e07427f50fabda808d6fbf7252694b6ca46149d73d6b5f2d9a22f", func := "plumbline/plumblinelaw09.LinearWhole", spec := "linearWhole", inPlace := ["math/bits.Sub64", "math/bits.Add64"], unfollowed := true, recurses := true, named := ["math/bits.divideError", "math/bits.overflowError"], apart := false, narrowed := true }
def LinearWholeUptoSaid : Prop := linearWholeUptoRow.holds Tryz.pinned (OpenSpec.upto linearWholeSpec)

/-- 'plumblinetop.TopForms', WHERE WHAT IT READS IS OF BULK AT MOST 1048576: true; the input reads as it did. -/
def topFormsUptoRow : OpenClaim := { program := "yteafnkimcidkhaagreat", sum := "f1a7ce6ca11e07427f50fabda808d6fbf7252694b6ca46149d73d6b5f2d9a22f", func := "plumbline/plumblinetop.TopForms", spec := "topForms", inPlace := ["math/bits.Sub64", "math/bits.Add64"], unfollowed := true, recurses := true, named := ["math/bits.divideError", "math/bits.overflowError"], apart := false, narrowed := true }
def TopFormsUptoSaid : Prop := topFormsUptoRow.holds Tryz.pinned (OpenSpec.upto topFormsSpec)

end Rows
end Go.Proofs.YteafnkimcidkhaaGreat
