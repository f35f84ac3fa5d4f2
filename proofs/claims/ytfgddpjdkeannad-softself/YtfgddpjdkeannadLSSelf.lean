/- The statement SoftSelf, walked: a float less itself is 0, by itself 1, times 1 and with 0 itself. -/
import Derived.Test.YtfgddpjdkeannadSoftSe
import Derived.Test.YtfgddpjdkeannadSoftLive
import Derived.Test.YtfgddpjdkeannadSRefF
namespace Go.Proofs.Ytfgddpjdkeannad
open Go.RowKit
set_option linter.unusedVariables false
theorem fin_split (s : Bool) (a : Int) (h : finF s a = true) (c1 : (cls s a == 1) = false) : (cls s a == 0 || cls s a == 5) = false ∧ (cls s a == 4) = false := by
  unfold finF at h
  rw [c1, Bool.false_or] at h
  have : cls s a = 2 ∨ cls s a = 3 := by
    cases t : (cls s a == 2)
    · rw [t, Bool.false_or] at h; right; exact beq_iff_eq.1 h
    · left; exact beq_iff_eq.1 t
  rcases this with e | e <;> rw [e] <;> exact ⟨rfl, rfl⟩
theorem zero_word : Word 0 := ⟨by decide, by decide⟩
theorem unit_word (s : Bool) : Word (unit s) := by cases s <;> exact ⟨by decide, by decide⟩
set_option maxRecDepth 8000 in
set_option maxHeartbeats 1600000 in
theorem law_softself (f m a : Int) (hf1 : -9223372036854775808 ≤ f) (hf2 : f ≤ 9223372036854775807) (hm1 : -9223372036854775808 ≤ m) (hm2 : m ≤ 9223372036854775807) (h1 : Word a) (w : World) :
    Calls Try.prog 4 #[.agg #[.int .i64 f, .int .i64 m], .int .u64 a] w fun e w' => e = .returned (.bool true) ∧ Below w.heap.size w w' := by
  have hfm := format_any f
  have i2 := rfinite_any (f == 1) a h1
  have c2 := rclass_any (f == 1) a h1
  have c0 := cell_new0 w (.int .i64 f) (.int .i64 m) 32
  have c1 := cell_new1 w (.int .i64 f) (.int .i64 m) 32
  have L := (Below.refl w.heap.size w).alloc (Nat.le_refl _) (.cells #[.int .i64 f, .int .i64 m] 32)
  have HF := fin_split (f == 1) a
  have HS := fin_size (f == 1) a h1
  generalize (f == 1) = s at *
  have hsub := fun m => sub_fl (fb s) m a a h1 h1
  have hdiv := fun m => div_fl (fb s) m a a h1 h1
  have hmul := fun m => mul_fl (fb s) m a (unit s) h1 (unit_word s)
  have hadd := fun m => add_fl (fb s) m a 0 h1 zero_word
  have hneg := neg_fl (fb s) 0 zero_word
  rw [fb_back] at hneg
  simp only [fb_back] at hsub hdiv hmul hadd
  rw [neg_zero] at hneg
  cases F : finF s a
  · rw [F] at i2
    clear HF HS hsub hdiv hmul hadd hneg
    generalize fb s = g at *
    go_enter Try.func4, Try.ntmps4
    go_wp2_with (first
      | (go_at_call 10; refine (hfm _).mono ?_; rintro e w1 ⟨rfl, rfl⟩)
      | (go_at_call 11; refine (i2 _).mono ?_; rintro e w1 ⟨rfl, n, rfl⟩)
      | (go_at_call 9; refine (slive_any _).mono ?_; rintro e w1 ⟨rfl, hb⟩; replace L : Below w.heap.size w w1 := below_call (by repeat (first | with_reducible exact L | with_reducible refine below_dN ?_ _ | with_reducible refine Below.drew ?_)) hb))
    go_ret
    exact ⟨rfl, L⟩
  · rw [F] at i2
    by_cases k1 : cls s a = 1
    · rw [k1] at c2
      clear HF HS hsub hdiv hmul hadd hneg
      generalize fb s = g at *
      go_enter Try.func4, Try.ntmps4
      go_wp2_with (first
        | (go_at_call 10; refine (hfm _).mono ?_; rintro e w1 ⟨rfl, rfl⟩)
        | (go_at_call 11; refine (i2 _).mono ?_; rintro e w1 ⟨rfl, n, rfl⟩)
        | (go_at_call 12; refine (c2 _).mono ?_; rintro e w1 ⟨rfl, n, rfl⟩)
        | (go_at_call 9; refine (slive_any _).mono ?_; rintro e w1 ⟨rfl, hb⟩; replace L : Below w.heap.size w w1 := below_call (by repeat (first | with_reducible exact L | with_reducible refine below_dN ?_ _ | with_reducible refine Below.drew ?_)) hb))
      go_ret
      exact ⟨rfl, L⟩
    · have k1' : (cls s a == 1) = false := by simp [k1]
      obtain ⟨p1, p2⟩ := HF F k1'
      obtain ⟨b, z, e, z0, z1⟩ := HS p1 p2 k1'
      have e1 := self_sub s m b z z0 z1
      have e2 := self_div s m b z z0 z1
      have e3 := self_mul s m b z z0 z1
      have e4 := self_add s m b z z0 z1
      rw [← e] at e1 e2 e3 e4
      have g1 := hsub m; have g2 := hdiv m; have g3 := hmul m; have g4 := hadd m
      rw [e1] at g1
      rw [e2] at g2
      rw [e3] at g3
      rw [e4] at g4
      clear HF HS hsub hdiv hmul hadd e1 e2 e3 e4 e
      generalize hk : cls s a = k at *
      clear hk F p1 p2
      cases s
      · have u : unit false = 4607182418800017408 := rfl
        have q : fb false = 0 := rfl
        rw [u] at g2 g3
        rw [q] at hfm i2 c2 hneg g1 g2 g3 g4
        have kk : (k == 1) = false := by simp [k1]
        by_cases c : m = 2
        · subst c
          have v : ((2 : Int) == 2) = true := rfl
          rw [v] at g1
          generalize sgnd false true 0 = Z at *
          go_enter Try.func4, Try.ntmps4
          go_wp2_with (first
            | (go_at_call 10; refine (hfm _).mono ?_; rintro e w1 ⟨rfl, rfl⟩)
            | (go_at_call 11; refine (i2 _).mono ?_; rintro e w1 ⟨rfl, n, rfl⟩)
            | (go_at_call 12; refine (c2 _).mono ?_; rintro e w1 ⟨rfl, n, rfl⟩)
            | (go_at_call 9; refine (slive_any _).mono ?_; rintro e w1 ⟨rfl, hb⟩; have d0 : w1.cell? ⟨w.heap.size, 0, none⟩ = some (.int .i64 f) := (by refine cell_on hb ?_; repeat (first | with_reducible exact c0 | with_reducible refine cell_dr ?_ | with_reducible refine cell_dN ?_ _)); have d1 : w1.cell? ⟨w.heap.size, 1, none⟩ = some (.int .i64 2) := (by refine cell_on hb ?_; repeat (first | with_reducible exact c1 | with_reducible refine cell_dr ?_ | with_reducible refine cell_dN ?_ _)); clear c0 c1; have c0 := d0; have c1 := d1; clear d0 d1; replace L : Below w.heap.size w w1 := below_call (by repeat (first | with_reducible exact L | with_reducible refine below_dN ?_ _ | with_reducible refine Below.drew ?_)) hb)
            | (go_at_call 7; refine (hneg _).mono ?_; rintro e w1 ⟨rfl, hb⟩; have d0 : w1.cell? ⟨w.heap.size, 0, none⟩ = some (.int .i64 f) := (by refine cell_on hb ?_; repeat (first | with_reducible exact c0 | with_reducible refine cell_dr ?_ | with_reducible refine cell_dN ?_ _)); have d1 : w1.cell? ⟨w.heap.size, 1, none⟩ = some (.int .i64 2) := (by refine cell_on hb ?_; repeat (first | with_reducible exact c1 | with_reducible refine cell_dr ?_ | with_reducible refine cell_dN ?_ _)); clear c0 c1; have c0 := d0; have c1 := d1; clear d0 d1; replace L : Below w.heap.size w w1 := below_call (by repeat (first | with_reducible exact L | with_reducible refine below_dN ?_ _ | with_reducible refine Below.drew ?_)) hb)
            | (go_at_call 13; refine (g1 _).mono ?_; rintro e w1 ⟨rfl, hb⟩; have d0 : w1.cell? ⟨w.heap.size, 0, none⟩ = some (.int .i64 f) := (by refine cell_on hb ?_; repeat (first | with_reducible exact c0 | with_reducible refine cell_dr ?_ | with_reducible refine cell_dN ?_ _)); have d1 : w1.cell? ⟨w.heap.size, 1, none⟩ = some (.int .i64 2) := (by refine cell_on hb ?_; repeat (first | with_reducible exact c1 | with_reducible refine cell_dr ?_ | with_reducible refine cell_dN ?_ _)); clear c0 c1; have c0 := d0; have c1 := d1; clear d0 d1; replace L : Below w.heap.size w w1 := below_call (by repeat (first | with_reducible exact L | with_reducible refine below_dN ?_ _ | with_reducible refine Below.drew ?_)) hb)
            | (go_at_call 14; refine (g2 _).mono ?_; rintro e w1 ⟨rfl, hb⟩; have d0 : w1.cell? ⟨w.heap.size, 0, none⟩ = some (.int .i64 f) := (by refine cell_on hb ?_; repeat (first | with_reducible exact c0 | with_reducible refine cell_dr ?_ | with_reducible refine cell_dN ?_ _)); have d1 : w1.cell? ⟨w.heap.size, 1, none⟩ = some (.int .i64 2) := (by refine cell_on hb ?_; repeat (first | with_reducible exact c1 | with_reducible refine cell_dr ?_ | with_reducible refine cell_dN ?_ _)); clear c0 c1; have c0 := d0; have c1 := d1; clear d0 d1; replace L : Below w.heap.size w w1 := below_call (by repeat (first | with_reducible exact L | with_reducible refine below_dN ?_ _ | with_reducible refine Below.drew ?_)) hb)
            | (go_at_call 15; refine (g3 _).mono ?_; rintro e w1 ⟨rfl, hb⟩; have d0 : w1.cell? ⟨w.heap.size, 0, none⟩ = some (.int .i64 f) := (by refine cell_on hb ?_; repeat (first | with_reducible exact c0 | with_reducible refine cell_dr ?_ | with_reducible refine cell_dN ?_ _)); have d1 : w1.cell? ⟨w.heap.size, 1, none⟩ = some (.int .i64 2) := (by refine cell_on hb ?_; repeat (first | with_reducible exact c1 | with_reducible refine cell_dr ?_ | with_reducible refine cell_dN ?_ _)); clear c0 c1; have c0 := d0; have c1 := d1; clear d0 d1; replace L : Below w.heap.size w w1 := below_call (by repeat (first | with_reducible exact L | with_reducible refine below_dN ?_ _ | with_reducible refine Below.drew ?_)) hb)
            | (go_at_call 16; refine (g4 _).mono ?_; rintro e w1 ⟨rfl, hb⟩; have d0 : w1.cell? ⟨w.heap.size, 0, none⟩ = some (.int .i64 f) := (by refine cell_on hb ?_; repeat (first | with_reducible exact c0 | with_reducible refine cell_dr ?_ | with_reducible refine cell_dN ?_ _)); have d1 : w1.cell? ⟨w.heap.size, 1, none⟩ = some (.int .i64 2) := (by refine cell_on hb ?_; repeat (first | with_reducible exact c1 | with_reducible refine cell_dr ?_ | with_reducible refine cell_dN ?_ _)); clear c0 c1; have c0 := d0; have c1 := d1; clear d0 d1; replace L : Below w.heap.size w w1 := below_call (by repeat (first | with_reducible exact L | with_reducible refine below_dN ?_ _ | with_reducible refine Below.drew ?_)) hb))
          go_ret
          exact ⟨rfl, L⟩
        · have v : (m == 2) = false := by simp [c]
          rw [v, show sgnd false false 0 = 0 from rfl] at g1
          go_enter Try.func4, Try.ntmps4
          go_wp2_with (first
            | (go_at_call 10; refine (hfm _).mono ?_; rintro e w1 ⟨rfl, rfl⟩)
            | (go_at_call 11; refine (i2 _).mono ?_; rintro e w1 ⟨rfl, n, rfl⟩)
            | (go_at_call 12; refine (c2 _).mono ?_; rintro e w1 ⟨rfl, n, rfl⟩)
            | (go_at_call 9; refine (slive_any _).mono ?_; rintro e w1 ⟨rfl, hb⟩; have d0 : w1.cell? ⟨w.heap.size, 0, none⟩ = some (.int .i64 f) := (by refine cell_on hb ?_; repeat (first | with_reducible exact c0 | with_reducible refine cell_dr ?_ | with_reducible refine cell_dN ?_ _)); have d1 : w1.cell? ⟨w.heap.size, 1, none⟩ = some (.int .i64 m) := (by refine cell_on hb ?_; repeat (first | with_reducible exact c1 | with_reducible refine cell_dr ?_ | with_reducible refine cell_dN ?_ _)); clear c0 c1; have c0 := d0; have c1 := d1; clear d0 d1; replace L : Below w.heap.size w w1 := below_call (by repeat (first | with_reducible exact L | with_reducible refine below_dN ?_ _ | with_reducible refine Below.drew ?_)) hb)
            | (go_at_call 13; refine (g1 _).mono ?_; rintro e w1 ⟨rfl, hb⟩; have d0 : w1.cell? ⟨w.heap.size, 0, none⟩ = some (.int .i64 f) := (by refine cell_on hb ?_; repeat (first | with_reducible exact c0 | with_reducible refine cell_dr ?_ | with_reducible refine cell_dN ?_ _)); have d1 : w1.cell? ⟨w.heap.size, 1, none⟩ = some (.int .i64 m) := (by refine cell_on hb ?_; repeat (first | with_reducible exact c1 | with_reducible refine cell_dr ?_ | with_reducible refine cell_dN ?_ _)); clear c0 c1; have c0 := d0; have c1 := d1; clear d0 d1; replace L : Below w.heap.size w w1 := below_call (by repeat (first | with_reducible exact L | with_reducible refine below_dN ?_ _ | with_reducible refine Below.drew ?_)) hb)
            | (go_at_call 14; refine (g2 _).mono ?_; rintro e w1 ⟨rfl, hb⟩; have d0 : w1.cell? ⟨w.heap.size, 0, none⟩ = some (.int .i64 f) := (by refine cell_on hb ?_; repeat (first | with_reducible exact c0 | with_reducible refine cell_dr ?_ | with_reducible refine cell_dN ?_ _)); have d1 : w1.cell? ⟨w.heap.size, 1, none⟩ = some (.int .i64 m) := (by refine cell_on hb ?_; repeat (first | with_reducible exact c1 | with_reducible refine cell_dr ?_ | with_reducible refine cell_dN ?_ _)); clear c0 c1; have c0 := d0; have c1 := d1; clear d0 d1; replace L : Below w.heap.size w w1 := below_call (by repeat (first | with_reducible exact L | with_reducible refine below_dN ?_ _ | with_reducible refine Below.drew ?_)) hb)
            | (go_at_call 15; refine (g3 _).mono ?_; rintro e w1 ⟨rfl, hb⟩; have d0 : w1.cell? ⟨w.heap.size, 0, none⟩ = some (.int .i64 f) := (by refine cell_on hb ?_; repeat (first | with_reducible exact c0 | with_reducible refine cell_dr ?_ | with_reducible refine cell_dN ?_ _)); have d1 : w1.cell? ⟨w.heap.size, 1, none⟩ = some (.int .i64 m) := (by refine cell_on hb ?_; repeat (first | with_reducible exact c1 | with_reducible refine cell_dr ?_ | with_reducible refine cell_dN ?_ _)); clear c0 c1; have c0 := d0; have c1 := d1; clear d0 d1; replace L : Below w.heap.size w w1 := below_call (by repeat (first | with_reducible exact L | with_reducible refine below_dN ?_ _ | with_reducible refine Below.drew ?_)) hb)
            | (go_at_call 16; refine (g4 _).mono ?_; rintro e w1 ⟨rfl, hb⟩; have d0 : w1.cell? ⟨w.heap.size, 0, none⟩ = some (.int .i64 f) := (by refine cell_on hb ?_; repeat (first | with_reducible exact c0 | with_reducible refine cell_dr ?_ | with_reducible refine cell_dN ?_ _)); have d1 : w1.cell? ⟨w.heap.size, 1, none⟩ = some (.int .i64 m) := (by refine cell_on hb ?_; repeat (first | with_reducible exact c1 | with_reducible refine cell_dr ?_ | with_reducible refine cell_dN ?_ _)); clear c0 c1; have c0 := d0; have c1 := d1; clear d0 d1; replace L : Below w.heap.size w w1 := below_call (by repeat (first | with_reducible exact L | with_reducible refine below_dN ?_ _ | with_reducible refine Below.drew ?_)) hb))
          go_ret
          exact ⟨rfl, L⟩
      · have u : unit true = 1065353216 := rfl
        have q : fb true = 1 := rfl
        rw [u] at g2 g3
        rw [q] at hfm i2 c2 hneg g1 g2 g3 g4
        have kk : (k == 1) = false := by simp [k1]
        by_cases c : m = 2
        · subst c
          have v : ((2 : Int) == 2) = true := rfl
          rw [v] at g1
          generalize sgnd true true 0 = Z at *
          go_enter Try.func4, Try.ntmps4
          go_wp2_with (first
            | (go_at_call 10; refine (hfm _).mono ?_; rintro e w1 ⟨rfl, rfl⟩)
            | (go_at_call 11; refine (i2 _).mono ?_; rintro e w1 ⟨rfl, n, rfl⟩)
            | (go_at_call 12; refine (c2 _).mono ?_; rintro e w1 ⟨rfl, n, rfl⟩)
            | (go_at_call 9; refine (slive_any _).mono ?_; rintro e w1 ⟨rfl, hb⟩; have d0 : w1.cell? ⟨w.heap.size, 0, none⟩ = some (.int .i64 f) := (by refine cell_on hb ?_; repeat (first | with_reducible exact c0 | with_reducible refine cell_dr ?_ | with_reducible refine cell_dN ?_ _)); have d1 : w1.cell? ⟨w.heap.size, 1, none⟩ = some (.int .i64 2) := (by refine cell_on hb ?_; repeat (first | with_reducible exact c1 | with_reducible refine cell_dr ?_ | with_reducible refine cell_dN ?_ _)); clear c0 c1; have c0 := d0; have c1 := d1; clear d0 d1; replace L : Below w.heap.size w w1 := below_call (by repeat (first | with_reducible exact L | with_reducible refine below_dN ?_ _ | with_reducible refine Below.drew ?_)) hb)
            | (go_at_call 7; refine (hneg _).mono ?_; rintro e w1 ⟨rfl, hb⟩; have d0 : w1.cell? ⟨w.heap.size, 0, none⟩ = some (.int .i64 f) := (by refine cell_on hb ?_; repeat (first | with_reducible exact c0 | with_reducible refine cell_dr ?_ | with_reducible refine cell_dN ?_ _)); have d1 : w1.cell? ⟨w.heap.size, 1, none⟩ = some (.int .i64 2) := (by refine cell_on hb ?_; repeat (first | with_reducible exact c1 | with_reducible refine cell_dr ?_ | with_reducible refine cell_dN ?_ _)); clear c0 c1; have c0 := d0; have c1 := d1; clear d0 d1; replace L : Below w.heap.size w w1 := below_call (by repeat (first | with_reducible exact L | with_reducible refine below_dN ?_ _ | with_reducible refine Below.drew ?_)) hb)
            | (go_at_call 13; refine (g1 _).mono ?_; rintro e w1 ⟨rfl, hb⟩; have d0 : w1.cell? ⟨w.heap.size, 0, none⟩ = some (.int .i64 f) := (by refine cell_on hb ?_; repeat (first | with_reducible exact c0 | with_reducible refine cell_dr ?_ | with_reducible refine cell_dN ?_ _)); have d1 : w1.cell? ⟨w.heap.size, 1, none⟩ = some (.int .i64 2) := (by refine cell_on hb ?_; repeat (first | with_reducible exact c1 | with_reducible refine cell_dr ?_ | with_reducible refine cell_dN ?_ _)); clear c0 c1; have c0 := d0; have c1 := d1; clear d0 d1; replace L : Below w.heap.size w w1 := below_call (by repeat (first | with_reducible exact L | with_reducible refine below_dN ?_ _ | with_reducible refine Below.drew ?_)) hb)
            | (go_at_call 14; refine (g2 _).mono ?_; rintro e w1 ⟨rfl, hb⟩; have d0 : w1.cell? ⟨w.heap.size, 0, none⟩ = some (.int .i64 f) := (by refine cell_on hb ?_; repeat (first | with_reducible exact c0 | with_reducible refine cell_dr ?_ | with_reducible refine cell_dN ?_ _)); have d1 : w1.cell? ⟨w.heap.size, 1, none⟩ = some (.int .i64 2) := (by refine cell_on hb ?_; repeat (first | with_reducible exact c1 | with_reducible refine cell_dr ?_ | with_reducible refine cell_dN ?_ _)); clear c0 c1; have c0 := d0; have c1 := d1; clear d0 d1; replace L : Below w.heap.size w w1 := below_call (by repeat (first | with_reducible exact L | with_reducible refine below_dN ?_ _ | with_reducible refine Below.drew ?_)) hb)
            | (go_at_call 15; refine (g3 _).mono ?_; rintro e w1 ⟨rfl, hb⟩; have d0 : w1.cell? ⟨w.heap.size, 0, none⟩ = some (.int .i64 f) := (by refine cell_on hb ?_; repeat (first | with_reducible exact c0 | with_reducible refine cell_dr ?_ | with_reducible refine cell_dN ?_ _)); have d1 : w1.cell? ⟨w.heap.size, 1, none⟩ = some (.int .i64 2) := (by refine cell_on hb ?_; repeat (first | with_reducible exact c1 | with_reducible refine cell_dr ?_ | with_reducible refine cell_dN ?_ _)); clear c0 c1; have c0 := d0; have c1 := d1; clear d0 d1; replace L : Below w.heap.size w w1 := below_call (by repeat (first | with_reducible exact L | with_reducible refine below_dN ?_ _ | with_reducible refine Below.drew ?_)) hb)
            | (go_at_call 16; refine (g4 _).mono ?_; rintro e w1 ⟨rfl, hb⟩; have d0 : w1.cell? ⟨w.heap.size, 0, none⟩ = some (.int .i64 f) := (by refine cell_on hb ?_; repeat (first | with_reducible exact c0 | with_reducible refine cell_dr ?_ | with_reducible refine cell_dN ?_ _)); have d1 : w1.cell? ⟨w.heap.size, 1, none⟩ = some (.int .i64 2) := (by refine cell_on hb ?_; repeat (first | with_reducible exact c1 | with_reducible refine cell_dr ?_ | with_reducible refine cell_dN ?_ _)); clear c0 c1; have c0 := d0; have c1 := d1; clear d0 d1; replace L : Below w.heap.size w w1 := below_call (by repeat (first | with_reducible exact L | with_reducible refine below_dN ?_ _ | with_reducible refine Below.drew ?_)) hb))
          go_ret
          exact ⟨rfl, L⟩
        · have v : (m == 2) = false := by simp [c]
          rw [v, show sgnd true false 0 = 0 from rfl] at g1
          go_enter Try.func4, Try.ntmps4
          go_wp2_with (first
            | (go_at_call 10; refine (hfm _).mono ?_; rintro e w1 ⟨rfl, rfl⟩)
            | (go_at_call 11; refine (i2 _).mono ?_; rintro e w1 ⟨rfl, n, rfl⟩)
            | (go_at_call 12; refine (c2 _).mono ?_; rintro e w1 ⟨rfl, n, rfl⟩)
            | (go_at_call 9; refine (slive_any _).mono ?_; rintro e w1 ⟨rfl, hb⟩; have d0 : w1.cell? ⟨w.heap.size, 0, none⟩ = some (.int .i64 f) := (by refine cell_on hb ?_; repeat (first | with_reducible exact c0 | with_reducible refine cell_dr ?_ | with_reducible refine cell_dN ?_ _)); have d1 : w1.cell? ⟨w.heap.size, 1, none⟩ = some (.int .i64 m) := (by refine cell_on hb ?_; repeat (first | with_reducible exact c1 | with_reducible refine cell_dr ?_ | with_reducible refine cell_dN ?_ _)); clear c0 c1; have c0 := d0; have c1 := d1; clear d0 d1; replace L : Below w.heap.size w w1 := below_call (by repeat (first | with_reducible exact L | with_reducible refine below_dN ?_ _ | with_reducible refine Below.drew ?_)) hb)
            | (go_at_call 13; refine (g1 _).mono ?_; rintro e w1 ⟨rfl, hb⟩; have d0 : w1.cell? ⟨w.heap.size, 0, none⟩ = some (.int .i64 f) := (by refine cell_on hb ?_; repeat (first | with_reducible exact c0 | with_reducible refine cell_dr ?_ | with_reducible refine cell_dN ?_ _)); have d1 : w1.cell? ⟨w.heap.size, 1, none⟩ = some (.int .i64 m) := (by refine cell_on hb ?_; repeat (first | with_reducible exact c1 | with_reducible refine cell_dr ?_ | with_reducible refine cell_dN ?_ _)); clear c0 c1; have c0 := d0; have c1 := d1; clear d0 d1; replace L : Below w.heap.size w w1 := below_call (by repeat (first | with_reducible exact L | with_reducible refine below_dN ?_ _ | with_reducible refine Below.drew ?_)) hb)
            | (go_at_call 14; refine (g2 _).mono ?_; rintro e w1 ⟨rfl, hb⟩; have d0 : w1.cell? ⟨w.heap.size, 0, none⟩ = some (.int .i64 f) := (by refine cell_on hb ?_; repeat (first | with_reducible exact c0 | with_reducible refine cell_dr ?_ | with_reducible refine cell_dN ?_ _)); have d1 : w1.cell? ⟨w.heap.size, 1, none⟩ = some (.int .i64 m) := (by refine cell_on hb ?_; repeat (first | with_reducible exact c1 | with_reducible refine cell_dr ?_ | with_reducible refine cell_dN ?_ _)); clear c0 c1; have c0 := d0; have c1 := d1; clear d0 d1; replace L : Below w.heap.size w w1 := below_call (by repeat (first | with_reducible exact L | with_reducible refine below_dN ?_ _ | with_reducible refine Below.drew ?_)) hb)
            | (go_at_call 15; refine (g3 _).mono ?_; rintro e w1 ⟨rfl, hb⟩; have d0 : w1.cell? ⟨w.heap.size, 0, none⟩ = some (.int .i64 f) := (by refine cell_on hb ?_; repeat (first | with_reducible exact c0 | with_reducible refine cell_dr ?_ | with_reducible refine cell_dN ?_ _)); have d1 : w1.cell? ⟨w.heap.size, 1, none⟩ = some (.int .i64 m) := (by refine cell_on hb ?_; repeat (first | with_reducible exact c1 | with_reducible refine cell_dr ?_ | with_reducible refine cell_dN ?_ _)); clear c0 c1; have c0 := d0; have c1 := d1; clear d0 d1; replace L : Below w.heap.size w w1 := below_call (by repeat (first | with_reducible exact L | with_reducible refine below_dN ?_ _ | with_reducible refine Below.drew ?_)) hb)
            | (go_at_call 16; refine (g4 _).mono ?_; rintro e w1 ⟨rfl, hb⟩; have d0 : w1.cell? ⟨w.heap.size, 0, none⟩ = some (.int .i64 f) := (by refine cell_on hb ?_; repeat (first | with_reducible exact c0 | with_reducible refine cell_dr ?_ | with_reducible refine cell_dN ?_ _)); have d1 : w1.cell? ⟨w.heap.size, 1, none⟩ = some (.int .i64 m) := (by refine cell_on hb ?_; repeat (first | with_reducible exact c1 | with_reducible refine cell_dr ?_ | with_reducible refine cell_dN ?_ _)); clear c0 c1; have c0 := d0; have c1 := d1; clear d0 d1; replace L : Below w.heap.size w w1 := below_call (by repeat (first | with_reducible exact L | with_reducible refine below_dN ?_ _ | with_reducible refine Below.drew ?_)) hb))
          go_ret
          exact ⟨rfl, L⟩
end Go.Proofs.Ytfgddpjdkeannad
