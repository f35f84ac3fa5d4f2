/- The statements' own sure test, of soft. -/
import Derived.Test.YtaiihaopgchbfaaSoftN
namespace Go.Proofs.Ytaiihaopgchbfaa
open Go.RowKit
set_option linter.unusedVariables false
theorem live_1 : divF false 0 4607182418800017408 4613937818241073152 = 4599676419421066581 := by decide +kernel
theorem live_2 : divF false 1 4607182418800017408 4613937818241073152 = 4599676419421066582 := by decide +kernel
theorem live_3 : addF false 0 4607182418800017408 4607182418800017408 = 4611686018427387904 := by decide +kernel
theorem word_one : Word 4607182418800017408 := ⟨by decide, by decide⟩
theorem word_three : Word 4613937818241073152 := ⟨by decide, by decide⟩
theorem slive_any (w : World) : Calls Try.prog 6 #[] w fun e w' => e = .returned (.bool true) ∧ Below w.heap.size w w' := by
  have d1 := div_fl 0 0 4607182418800017408 4613937818241073152 word_one word_three
  have d2 := div_fl 0 1 4607182418800017408 4613937818241073152 word_one word_three
  have d3 := add_fl 0 0 4607182418800017408 4607182418800017408 word_one word_one
  have z : ((0 : Int) == 1) = false := rfl
  rw [z, live_1] at d1
  rw [z, live_2] at d2
  rw [z, live_3] at d3
  go_enter Try.func6, Try.ntmps6
  go_wp2_with fail
  refine (d1 _).mono ?_
  rintro r w1 ⟨rfl, hb1⟩
  go_wp2_with fail
  refine (d2 _).mono ?_
  rintro r w2 ⟨rfl, hb2⟩
  replace hb2 := below_call hb1 hb2
  go_wp2_with fail
  refine (d3 _).mono ?_
  rintro r w3 ⟨rfl, hb3⟩
  go_wp2_with fail
  go_ret
  exact ⟨rfl, below_call hb2 hb3⟩
end Go.Proofs.Ytaiihaopgchbfaa

