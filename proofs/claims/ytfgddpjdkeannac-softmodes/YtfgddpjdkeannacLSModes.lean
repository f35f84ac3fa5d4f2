/- The statement SoftModes, walked: Up is not below Near, and that not below Down; nothing lies between. -/
import Derived.Test.YtfgddpjdkeannacSoftMo
import Derived.Test.YtfgddpjdkeannacSoftLive
namespace Go.Proofs.Ytfgddpjdkeannac
open Go.RowKit
set_option linter.unusedVariables false
theorem one_word : Word 1 := ⟨by decide, by decide⟩
set_option maxRecDepth 8000 in
set_option maxHeartbeats 1600000 in
theorem law_softmodes (op f a b : Int) (ho1 : -9223372036854775808 ≤ op) (ho2 : op ≤ 9223372036854775807) (hf1 : -9223372036854775808 ≤ f) (hf2 : f ≤ 9223372036854775807) (h1 : Word a) (h2 : Word b) (w : World) :
    Calls Try.prog 7 #[.int .i64 op, .int .i64 f, .agg #[.int .u64 a, .int .u64 b]] w fun e w' => e = .returned (.bool true) ∧ Below w.heap.size w w' := by
  have b1 := by_any op f 1 a b h1 h2
  have b0 := by_any op f 0 a b h1 h2
  have b2 := by_any op f 2 a b h1 h2
  have b3 := by_any op f 3 a b h1 h2
  have W1 := byF_word op (f == 1) 1 a b h1 h2
  have W0 := byF_word op (f == 1) 0 a b h1 h2
  have W2 := byF_word op (f == 1) 2 a b h1 h2
  have M := four_law (four_by op (f == 1) a b h1 h2)
  have x1 := compare_fl f _ _ W1 W0
  have x2 := compare_fl f _ _ W0 W2
  have x3 := compare_fl f _ _ W1 W2
  have x4 := add_fl f 1 _ 1 W2 one_word
  have x5 := compare_fl f _ _ (addF_word (f == 1) 1 _ 1 W2 one_word) W1
  have x6 := finite_fl f _ W2
  generalize (f == 1) = s at *
  generalize byF op s 1 a b = U at *
  generalize byF op s 0 a b = N at *
  generalize byF op s 2 a b = D at *
  generalize byF op s 3 a b = Z at *
  generalize addF s 1 D 1 = E at *
  generalize (cmpF s U N).1 = y1 at *
  generalize (cmpF s U N).2 = o1 at *
  generalize (cmpF s N D).1 = y2 at *
  generalize (cmpF s N D).2 = o2 at *
  generalize (cmpF s U D).1 = y3 at *
  generalize (cmpF s U D).2 = o3 at *
  generalize (cmpF s E U).1 = y4 at *
  generalize (cmpF s E U).2 = o4 at *
  generalize finF s D = F at *
  clear W1 W0 W2
  have c0 := cell_new0 w (.int .u64 a) (.int .u64 b) 46
  have c1 := cell_new1 w (.int .u64 a) (.int .u64 b) 46
  have L := (Below.refl w.heap.size w).alloc (Nat.le_refl _) (.cells #[.int .u64 a, .int .u64 b] 46)
  go_enter Try.func7, Try.ntmps7
  go_wp2_with fail
  go_region_held3 (fun w' => w'.cell? ⟨w.heap.size, 0, none⟩ = some (.int .u64 a) ∧ w'.cell? ⟨w.heap.size, 1, none⟩ = some (.int .u64 b))
    (first | exact ⟨c0, c1⟩ | (simp [go_sem, *]; done))
    (first
      | (go_at_call_of 29 (Value.int IntKind.i64 1); refine (b1 _).mono ?_; rintro e w1 ⟨rfl, hb⟩; replace c0 := cell_on hb c0; replace c1 := cell_on hb c1; replace L := below_call L.drew hb)
      | (go_at_call_of 29 (Value.int IntKind.i64 0); refine (b0 _).mono ?_; rintro e w1 ⟨rfl, hb⟩; replace c0 := cell_on hb c0; replace c1 := cell_on hb c1; replace L := below_call L hb)
      | (go_at_call_of 29 (Value.int IntKind.i64 2); refine (b2 _).mono ?_; rintro e w1 ⟨rfl, hb⟩; replace c0 := cell_on hb c0; replace c1 := cell_on hb c1; replace L := below_call L hb)
      | (go_at_call_of 29 (Value.int IntKind.i64 3); refine (b3 _).mono ?_; rintro e w1 ⟨rfl, hb⟩; replace c0 := cell_on hb c0; replace c1 := cell_on hb c1; replace L := below_call L hb))
  go_wp2_with fail
  refine (x1 _).mono ?_
  rintro e w5 ⟨rfl, hb⟩
  replace L := below_call L hb
  clear hb
  go_wp2_with fail
  refine (x2 _).mono ?_
  rintro e w6 ⟨rfl, hb⟩
  replace L := below_call L hb
  clear hb
  rcases M with ⟨m1, m2, m3, m4⟩ | ⟨m1, m2, m3, m4, m5, m6, m7⟩
  · subst m1 m2 m3 m4
    go_wp2_with (go_at_call 9; refine (slive_any _).mono ?_; rintro e w1 ⟨rfl, hb⟩; replace L := below_call L hb)
    go_ret
    exact ⟨rfl, L⟩
  · subst m1 m2
    have d1 : ¬ y1 < 0 := by omega
    have d2 : ¬ y2 < 0 := by omega
    have d3 : (N != U) = false ∨ (N != U) = true ∧ (N != D) = false := by
      cases t : (N != U)
      · left; rfl
      · right
        refine ⟨rfl, ?_⟩
        rcases m5 with e | e
        · rw [e] at t; simp at t
        · rw [e]; simp
    have d4 : (Z != U) = false ∨ (Z != U) = true ∧ (Z != D) = false := by
      cases t : (Z != U)
      · left; rfl
      · right
        refine ⟨rfl, ?_⟩
        rcases m6 with e | e
        · rw [e] at t; simp at t
        · rw [e]; simp
    have d5 : y3 = 0 ∨ (¬ y3 = 0 ∧ 0 ≤ y4) ∨ (¬ y3 = 0 ∧ ¬ 0 ≤ y4 ∧ F = false) := by
      by_cases t : y3 = 0
      · left; exact t
      · right
        by_cases g : 0 ≤ y4
        · left; exact ⟨t, g⟩
        · right
          refine ⟨t, g, ?_⟩
          rcases m7 with e | e | e
          · exact absurd e t
          · exact absurd e g
          · exact e
    clear m3 m4 m5 m6 m7
    rcases d3 with d3 | ⟨d3, d3'⟩ <;> rcases d4 with d4 | ⟨d4, d4'⟩
    all_goals
      go_wp2_with fail
      refine (x3 _).mono ?_
      rintro e w7 ⟨rfl, hb⟩
      replace L := below_call L hb
      clear hb
      rcases d5 with d5 | ⟨d5, d6⟩ | ⟨d5, d6, d7⟩
    all_goals (try subst d5)
    all_goals (try subst d7)
    all_goals
      go_wp2_with (first
        | (go_at_call 9; refine (slive_any _).mono ?_; rintro e w1 ⟨rfl, hb⟩; replace L := below_call L hb)
        | (go_at_call 30; refine (x4 _).mono ?_; rintro e w1 ⟨rfl, hb⟩; replace L := below_call L hb)
        | (go_at_call 25; refine (x5 _).mono ?_; rintro e w1 ⟨rfl, hb⟩; replace L := below_call L hb)
        | (go_at_call 19; refine (x6 _).mono ?_; rintro e w1 ⟨rfl, hb⟩; replace L := below_call L hb))
      go_ret
      exact ⟨rfl, L⟩
end Go.Proofs.Ytfgddpjdkeannac
