/- Ranges of ints, plainly: the least and the greatest of results. -/
import Derived.Test.YthjoigkckgdcaaaGreatXSpI
namespace Go.Proofs.YthjoigkckgdcaaaGreat
theorem ordI_pos (x y : Int) : 0 < WyI.ord x y ↔ y < x := by unfold WyI cmpI; simp only; split <;> (try split) <;> omega
theorem ordI_neg (x y : Int) : WyI.ord x y < 0 ↔ x < y := by unfold WyI cmpI; simp only; split <;> (try split) <;> omega
theorem ordI_le (x y : Int) : WyI.ord x y ≤ 0 ↔ x ≤ y := by unfold WyI cmpI; simp only; split <;> (try split) <;> omega
end Go.Proofs.YthjoigkckgdcaaaGreat

