/- The statement SoftMirrors, walked: Up is the other sign of Down of the others' signs. -/
import Derived.Test.YtfgddpjdkeannadSoftBy
namespace Go.Proofs.Ytfgddpjdkeannad
open Go.RowKit
set_option linter.unusedVariables false
theorem mirror_by (op : Int) (s : Bool) (a b : Int) (h1 : Word a) (h2 : Word b) : negF s (byF op s 1 a b) = byF op s 2 (negF s a) (if op = 8 ∨ op = 9 then negF s b else b) := by
  unfold byF
  by_cases c1 : op = 8
  · rw [if_pos c1, if_pos c1, if_pos (Or.inl c1)]; exact add_mirror s a b h1 h2
  · rw [if_neg c1, if_neg c1]
    by_cases c2 : op = 9
    · rw [if_pos c2, if_pos c2, if_pos (Or.inr c2)]
      exact add_mirror s a _ h1 (negF_word s b h2)
    · have n : ¬ (op = 8 ∨ op = 9) := by omega
      rw [if_neg c2, if_neg c2, if_neg n]
      split
      · exact mul_mirror s a b h1 h2
      · exact div_mirror s a b h1 h2
set_option maxRecDepth 8000 in
set_option maxHeartbeats 1600000 in
theorem law_softmirrors (op f a b : Int) (ho1 : -9223372036854775808 ≤ op) (ho2 : op ≤ 9223372036854775807) (hf1 : -9223372036854775808 ≤ f) (hf2 : f ≤ 9223372036854775807) (h1 : Word a) (h2 : Word b) (w : World) :
    Calls Try.prog 3 #[.int .i64 op, .int .i64 f, .agg #[.int .u64 a, .int .u64 b]] w fun e w' => e = .returned (.bool true) ∧ Below w.heap.size w w' := by
  have hna := neg_fl f a h1
  have hnb := neg_fl f b h2
  have hup := by_any op f 1 a b h1 h2
  have hnu := neg_fl f (byF op (f == 1) 1 a b) (byF_word op _ 1 a b h1 h2)
  have hda := by_any op f 2 (negF (f == 1) a) (negF (f == 1) b) (negF_word _ a h1) (negF_word _ b h2)
  have hdb := by_any op f 2 (negF (f == 1) a) b (negF_word _ a h1) h2
  have M := mirror_by op (f == 1) a b h1 h2
  generalize (f == 1) = s at *
  rw [M] at hnu
  clear M
  generalize negF s a = na at *
  generalize negF s b = nb at *
  generalize byF op s 1 a b = U at *
  have c0 := cell_new0 w (.int .u64 a) (.int .u64 b) 25
  have c1 := cell_new1 w (.int .u64 a) (.int .u64 b) 25
  have L := (Below.refl w.heap.size w).alloc (Nat.le_refl _) (.cells #[.int .u64 a, .int .u64 b] 25)
  by_cases c : op = 8 ∨ op = 9
  · rw [if_pos c] at hnu
    generalize byF op s 2 na nb = V at *
    have cc : (op == 8) = true ∨ (op == 8) = false ∧ (op == 9) = true := by
      rcases c with c | c
      · left; simp [c]
      · right; simp [c]
    clear hdb c
    have main : ∀ _ : True, Calls Try.prog 3 #[.int .i64 op, .int .i64 f, .agg #[.int .u64 a, .int .u64 b]] w fun e w' => e = .returned (.bool true) ∧ Below w.heap.size w w' := by
      intro _
      rcases cc with d | ⟨d, d'⟩
      all_goals
        go_enter Try.func3, Try.ntmps3
        go_wp2_with fail
        go_region_held3 (fun w' => w'.cell? ⟨w.heap.size, 0, none⟩ = some (.int .u64 a) ∧ w'.cell? ⟨w.heap.size, 1, none⟩ = some (.int .u64 b))
          (first | exact ⟨c0, c1⟩ | (simp [go_sem, *]; done))
          (first
            | (go_at_call 7; refine (hna _).mono ?_; rintro e w1 ⟨rfl, hb1⟩; replace c0 := cell_on hb1 c0; replace c1 := cell_on hb1 c1; replace L := below_call L.drew hb1))
        go_wp2_with fail
        refine (hnb _).mono ?_
        rintro e w2 ⟨rfl, hb2⟩
        replace c0 := cell_on hb2 c0; replace c1 := cell_on hb2 c1
        replace L := below_call L hb2
        go_wp2_with fail
        refine (hup _).mono ?_
        rintro e w3 ⟨rfl, hb3⟩
        replace L := below_call L hb3
        go_wp2_with fail
        refine (hda _).mono ?_
        rintro e w4 ⟨rfl, hb4⟩
        replace L := below_call L hb4
        go_wp2_with (first
          | (go_at_call 9; refine (slive_any _).mono ?_; rintro e w5 ⟨rfl, hb5⟩; replace L := below_call L hb5)
          | (go_at_call 7; refine (hnu _).mono ?_; rintro e w6 ⟨rfl, hb6⟩; replace L := below_call L hb6))
        go_ret
        exact ⟨rfl, L⟩
    exact main trivial
  · rw [if_neg c] at hnu
    generalize byF op s 2 na b = V at *
    have d : (op == 8) = false := by simp; omega
    have d' : (op == 9) = false := by simp; omega
    clear hda c
    go_enter Try.func3, Try.ntmps3
    go_wp2_with fail
    go_region_held3 (fun w' => w'.cell? ⟨w.heap.size, 0, none⟩ = some (.int .u64 a) ∧ w'.cell? ⟨w.heap.size, 1, none⟩ = some (.int .u64 b))
      (first | exact ⟨c0, c1⟩ | (simp [go_sem, *]; done))
      (first
        | (go_at_call 7; refine (hna _).mono ?_; rintro e w1 ⟨rfl, hb1⟩; replace c0 := cell_on hb1 c0; replace c1 := cell_on hb1 c1; replace L := below_call L.drew hb1))
    go_wp2_with fail
    refine (hup _).mono ?_
    rintro e w3 ⟨rfl, hb3⟩
    replace L := below_call L hb3
    go_wp2_with fail
    refine (hdb _).mono ?_
    rintro e w4 ⟨rfl, hb4⟩
    replace L := below_call L hb4
    go_wp2_with (first
      | (go_at_call 9; refine (slive_any _).mono ?_; rintro e w5 ⟨rfl, hb5⟩; replace L := below_call L hb5)
      | (go_at_call 7; refine (hnu _).mono ?_; rintro e w6 ⟨rfl, hb6⟩; replace L := below_call L hb6))
    go_ret
    exact ⟨rfl, L⟩
end Go.Proofs.Ytfgddpjdkeannad
