/- The reference's list of signs. -/
import Derived.Test.YtknoibocpbfmmaaGreatDoorFxR
import Derived.Laws.CopyOwn
namespace Go.Proofs.YtknoibocpbfmmaaGreatDoor
open Go.RowKit
set_option linter.unusedVariables false
set_option linter.unusedSimpArgs false
def rSignWs : List (List UInt8) := [[43], [45], [42], [47], [40], [41], [91], [93], [123], [125], [59], [44], [61], [61, 61], [33, 61], [60], [60, 61], [62], [62, 61], [38, 38], [124, 124], [33]]
def rSignC : Array Value := #[.string ⟨#[43]⟩, .string ⟨#[45]⟩, .string ⟨#[42]⟩, .string ⟨#[47]⟩, .string ⟨#[40]⟩, .string ⟨#[41]⟩, .string ⟨#[91]⟩, .string ⟨#[93]⟩, .string ⟨#[123]⟩, .string ⟨#[125]⟩, .string ⟨#[59]⟩, .string ⟨#[44]⟩, .string ⟨#[61]⟩, .string ⟨#[61, 61]⟩, .string ⟨#[33, 61]⟩, .string ⟨#[60]⟩, .string ⟨#[60, 61]⟩, .string ⟨#[62]⟩, .string ⟨#[62, 61]⟩, .string ⟨#[38, 38]⟩, .string ⟨#[124, 124]⟩, .string ⟨#[33]⟩]
theorem rSign_row (m : Nat) (x : List UInt8) (h : rSignWs[m]? = some x) : rSignC[m]? = some (.string ⟨x.toArray⟩) := by
  show ((rSignWs.map (fun x => Value.string ⟨x.toArray⟩)).toArray)[m]? = _
  rw [List.getElem?_toArray, List.getElem?_map, h]
  rfl
end Go.Proofs.YtknoibocpbfmmaaGreatDoor

