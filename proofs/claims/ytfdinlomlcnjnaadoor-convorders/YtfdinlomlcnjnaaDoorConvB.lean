/- What conv's infinite, convert, Widen, Narrow, Plain and FromInt answer. -/
import Derived.Test.YtfdinlomlcnjnaaDoorConvA
import Derived.Test.YtfdinlomlcnjnaaDoorSRefC
namespace Go.Proofs.YtfdinlomlcnjnaaDoor
open Go.RowKit
set_option linter.unusedVariables false
set_option linter.unusedSimpArgs false
theorem u64r_eq' {a b : Int} (h : a = b) : Ending.returned (Value.int IntKind.u64 a) = .returned (.int .u64 b) := by rw [h]
theorem neg_inf (s : Bool) : negF s (fI s) = sgnd s true (fI s) := by cases s <;> rfl
theorem word_inf (s : Bool) : Word (fI s) := by cases s <;> exact ⟨by decide, by decide⟩
theorem infinite_any (f : Int) (b : Bool) (w : World) : Calls Tryd.prog 75 #[.int .i64 f, .bool b] w fun e w' => e = .returned (.int .u64 (sgnd (f == 1) b (fI (f == 1)))) ∧ Below w.heap.size w w' := by
  have hm := most_fl f
  have hn := neg_fl f (fI (f == 1)) (word_inf _)
  rw [neg_inf] at hn
  obtain ⟨I, hI⟩ : ∃ I : Int, fI (f == 1) = I := ⟨_, rfl⟩
  have i0 : 0 < I ∧ I < 18446744073709551616 := by
    rw [← hI]; cases (f == 1) <;> decide
  have wi : IntKind.u64.wrap (I - 1 + 1) = I := by rw [IntKind.wrap_u64]; omega
  obtain ⟨i1, i2⟩ := i0
  rw [hI] at hm hn ⊢
  cases b
  · have e0 : sgnd (f == 1) false I = I := rfl
    rw [e0]
    clear e0 hI
    go_enter Tryd.func75, Tryd.ntmps75
    go_wp2_with (go_at_call 37; refine (hm _).mono ?_; rintro e w1 ⟨rfl, h1⟩)
    go_ret
    exact ⟨u64r_eq' (by omega), h1⟩
  · clear hI
    generalize sgnd (f == 1) true I = V at *
    go_enter Tryd.func75, Tryd.ntmps75
    go_wp2_with (first
      | (go_at_call 37; refine (hm _).mono ?_; rintro e w1 ⟨rfl, h1⟩; have e5 : I - 1 + 1 = I := by omega)
      | (go_at_call 62; refine (hn _).mono ?_; rintro e w2 ⟨rfl, h2⟩))
    go_ret
    exact ⟨rfl, h1.trans (h2.mono h1.size)⟩
/-- A float of one format as one of another, rounded. -/
def cvtF (s t : Bool) (m a : Int) : Int := if (cls s a == 0 || cls s a == 5) then fNan t else if cls s a == 4 then sgnd t (sgn s a) (fI t) else rnd t m (sgn s a) (whl s a).toNat (pwr s a)
theorem kinds3 (k : Int) : ((k == 0 || k == 5) = true ∧ (k == 4) = false ∧ k = 0) ∨ ((k == 0 || k == 5) = true ∧ (k == 4) = false ∧ k = 5) ∨ ((k == 0 || k == 5) = false ∧ (k == 4) = true ∧ k = 4) ∨ ((k == 0 || k == 5) = false ∧ (k == 4) = false ∧ (k == 0) = false ∧ (k == 5) = false ∧ ¬ k = 4) := by
  by_cases c1 : k = 0
  · subst c1; decide
  · by_cases c2 : k = 5
    · subst c2; decide
    · by_cases c3 : k = 4
      · subst c3; decide
      · simp [c1, c2, c3]
theorem fin_wordC {s : Bool} {u p : Int} (h : Fin s u p) : Word u ∧ u < 9007199254740992 ∧ -1074 ≤ p ∧ p ≤ 2000 := by
  obtain ⟨a, b, c, d, e⟩ := h
  cases s
  · have b' : u < 9007199254740992 := b
    have c' : -1074 ≤ p := c
    exact ⟨⟨a, by omega⟩, b', c', d⟩
  · have b' : u < 16777216 := b
    have c' : -149 ≤ p := c
    exact ⟨⟨a, by omega⟩, by omega, by omega, d⟩
theorem below_callC {w W w1 : World} (h : Below w.heap.size w W) (hb : Below W.heap.size W w1) : Below w.heap.size w w1 := h.trans (hb.mono h.size)
set_option maxRecDepth 8000 in
set_option maxHeartbeats 1600000 in
theorem convert_any (f g m a : Int) (h : Word a) (w : World) :
    Calls Tryd.prog 41 #[.int .i64 f, .int .i64 g, .int .i64 m, .int .u64 a] w fun e w' => e = .returned (.int .u64 (cvtF (f == 1) (g == 1) m a)) ∧ Below w.heap.size w w' := by
  have hsp := csplit_ex f a h
  have hcl := class_fl f a h
  have hnan := nan_fl g
  have hinf := infinite_any g (sgn (f == 1) a)
  have hfin := fin_of (f == 1) a h
  have hrd := fun h1 e1 e2 => round_any g m (sgn (f == 1) a) 0 (whl (f == 1) a) (pwr (f == 1) a) false word_zero h1 e1 e2
  have hz : ∀ u : Int, Word u → nn 0 u = u.toNat := fun u hu => by unfold nn num; congr 1; omega
  have hclamp : ∀ p : Int, -1074 ≤ p → p ≤ 2000 → clamp p = p := fun p a b => by unfold clamp; omega
  have K := kinds3 (cls (f == 1) a)
  unfold cvtF
  unfold cprtV at hsp
  generalize hN : (cls (f == 1) a == 0 || cls (f == 1) a == 5) = N1 at *
  generalize hI : (cls (f == 1) a == 4) = I1 at *
  generalize hk : cls (f == 1) a = k at *
  generalize hg : sgn (f == 1) a = b at *
  generalize hV : sgnd (g == 1) b (fI (g == 1)) = VI at *
  generalize hQ : fNan (g == 1) = Q at *
  clear hV hQ hN hI hg
  rcases K with ⟨rfl, rfl, rfl⟩ | ⟨rfl, rfl, rfl⟩ | ⟨rfl, rfl, rfl⟩ | ⟨rfl, rfl, k0, k5, k4⟩
  case inr.inr.inr =>
    obtain ⟨F1, _⟩ := hfin rfl rfl
    have k4' : (k == 4) = false := by simp [k4]
    obtain ⟨w1, w2, w3, w4⟩ := fin_wordC F1
    have hr := hrd w1 (by omega) (by omega)
    rw [hclamp _ w3 w4, hz _ w1, rndQ_false] at hr
    clear hrd hclamp hz hfin F1 hk
    simp only [Bool.false_eq_true, if_false]
    generalize rnd (g == 1) m b (whl (f == 1) a).toNat (pwr (f == 1) a) = V at *
    generalize whl (f == 1) a = u at *
    generalize pwr (f == 1) a = p at *
    go_enter Tryd.func41, Tryd.ntmps41
    go_wp2_with (first
      | (go_at_call 43; refine (hsp _).mono ?_; rintro e w1 ⟨rfl, o1, o2, o3, o4, o5, o6, n, rfl⟩)
      | (go_at_call 64; refine (hcl _).mono ?_; rintro e wc ⟨rfl, hb⟩; have c0 : wc.cell? ⟨w.heap.size + 1 + 1 + 1 + 1 + 1 + 1, 0, none⟩ = some (.bool b) := cell_on hb (by simp [go_sem]); have c1 : wc.cell? ⟨w.heap.size + 1 + 1 + 1 + 1 + 1 + 1, 1, none⟩ = some (.int .u64 u) := cell_on hb (by simp [go_sem]); have c2 : wc.cell? ⟨w.heap.size + 1 + 1 + 1 + 1 + 1 + 1, 2, none⟩ = some (.int .i64 p) := cell_on hb (by simp [go_sem]))
      | (go_at_call 49; refine (hr _).mono ?_; rintro e wd ⟨rfl, hd⟩))
    go_ret
    have L := below_new (below_six w o1 o2 o3 o4 o5 o6 n) (.cells #[.bool b, .int .u64 u, .int .i64 p] 59)
    exact ⟨rfl, below_callC (below_callC L hb) hd⟩
  case inr.inr.inl =>
    clear hrd hclamp hz hfin hk
    generalize whl (f == 1) a = u at *
    generalize pwr (f == 1) a = p at *
    go_enter Tryd.func41, Tryd.ntmps41
    go_wp2_with (first
      | (go_at_call 43; refine (hsp _).mono ?_; rintro e w1 ⟨rfl, o1, o2, o3, o4, o5, o6, n, rfl⟩)
      | (go_at_call 64; refine (hcl _).mono ?_; rintro e wc ⟨rfl, hb⟩; have c0 : wc.cell? ⟨w.heap.size + 1 + 1 + 1 + 1 + 1 + 1, 0, none⟩ = some (.bool b) := cell_on hb (by simp [go_sem]))
      | (go_at_call 75; refine (hinf _).mono ?_; rintro e wd ⟨rfl, hd⟩))
    go_ret
    have L := below_new (below_six w o1 o2 o3 o4 o5 o6 n) (.cells #[.bool b, .int .u64 u, .int .i64 p] 59)
    exact ⟨rfl, below_callC (below_callC L hb) hd⟩
  all_goals
    clear hrd hclamp hz hfin hk
    generalize whl (f == 1) a = u at *
    generalize pwr (f == 1) a = p at *
    go_enter Tryd.func41, Tryd.ntmps41
    go_wp2_with (first
      | (go_at_call 43; refine (hsp _).mono ?_; rintro e w1 ⟨rfl, o1, o2, o3, o4, o5, o6, n, rfl⟩)
      | (go_at_call 64; refine (hcl _).mono ?_; rintro e wc ⟨rfl, hb⟩)
      | (go_at_call 35; refine (hnan _).mono ?_; rintro e wd ⟨rfl, hd⟩))
    go_ret
    have L := below_new (below_six w o1 o2 o3 o4 o5 o6 n) (.cells #[.bool b, .int .u64 u, .int .i64 p] 59)
    exact ⟨rfl, below_callC (below_callC L hb) hd⟩
theorem widen_any (a : Int) (h : Word a) (w : World) : Calls Tryd.prog 13 #[.int .u64 a] w fun e w' => e = .returned (.int .u64 (cvtF true false 0 a)) ∧ Below w.heap.size w w' := by
  have hc : ∀ w, Calls Tryd.prog 41 #[.int .i64 1, .int .i64 0, .int .i64 0, .int .u64 a] w fun e w' => e = .returned (.int .u64 (cvtF true false 0 a)) ∧ Below w.heap.size w w' := convert_any 1 0 0 a h
  generalize cvtF true false 0 a = V at *
  go_enter Tryd.func13, Tryd.ntmps13
  go_wp2_with (go_at_call 41; refine (hc _).mono ?_; rintro e w1 ⟨rfl, h1⟩)
  go_ret
  exact ⟨rfl, h1⟩
theorem narrow_any (m a : Int) (h : Word a) (w : World) : Calls Tryd.prog 15 #[.int .i64 m, .int .u64 a] w fun e w' => e = .returned (.int .u64 (cvtF false true m a)) ∧ Below w.heap.size w w' := by
  have hc : ∀ w, Calls Tryd.prog 41 #[.int .i64 0, .int .i64 1, .int .i64 m, .int .u64 a] w fun e w' => e = .returned (.int .u64 (cvtF false true m a)) ∧ Below w.heap.size w w' := convert_any 0 1 m a h
  generalize cvtF false true m a = V at *
  go_enter Tryd.func15, Tryd.ntmps15
  go_wp2_with (go_at_call 41; refine (hc _).mono ?_; rintro e w1 ⟨rfl, h1⟩)
  go_ret
  exact ⟨rfl, h1⟩
/-- Without the sign of 0. -/
def plainF (s : Bool) (a : Int) : Int := if (cls s a == 0 || cls s a == 5) then fNan s else if cls s a == 1 then 0 else a
theorem kindsP (k : Int) : ((k == 0 || k == 5) = true ∧ (k == 1) = false ∧ k = 0) ∨ ((k == 0 || k == 5) = true ∧ (k == 1) = false ∧ k = 5) ∨ ((k == 0 || k == 5) = false ∧ (k == 1) = true ∧ k = 1) ∨ ((k == 0 || k == 5) = false ∧ (k == 1) = false ∧ (k == 0) = false ∧ (k == 5) = false ∧ ¬ k = 1) := by
  by_cases c1 : k = 0
  · subst c1; decide
  · by_cases c2 : k = 5
    · subst c2; decide
    · by_cases c3 : k = 1
      · subst c3; decide
      · simp [c1, c2, c3]
theorem plain_any (f a : Int) (h : Word a) (w : World) : Calls Tryd.prog 30 #[.int .i64 f, .int .u64 a] w fun e w' => e = .returned (.int .u64 (plainF (f == 1) a)) ∧ Below w.heap.size w w' := by
  have hcl := class_fl f a h
  have hnan := nan_fl f
  have K := kindsP (cls (f == 1) a)
  unfold plainF
  generalize (cls (f == 1) a == 0 || cls (f == 1) a == 5) = N1 at *
  generalize (cls (f == 1) a == 1) = Z1 at *
  generalize cls (f == 1) a = k at *
  generalize fNan (f == 1) = Q at *
  rcases K with ⟨rfl, rfl, rfl⟩ | ⟨rfl, rfl, rfl⟩ | ⟨rfl, rfl, rfl⟩ | ⟨rfl, rfl, k0, k5, k1⟩
  case inr.inr.inr =>
    have k1' : (k == 1) = false := by simp [k1]
    go_enter Tryd.func30, Tryd.ntmps30
    go_wp2_with (go_at_call 64; refine (hcl _).mono ?_; rintro e wc ⟨rfl, hb⟩)
    go_ret
    exact ⟨rfl, hb⟩
  case inr.inr.inl =>
    go_enter Tryd.func30, Tryd.ntmps30
    go_wp2_with (go_at_call 64; refine (hcl _).mono ?_; rintro e wc ⟨rfl, hb⟩)
    go_ret
    exact ⟨rfl, hb⟩
  all_goals
    go_enter Tryd.func30, Tryd.ntmps30
    go_wp2_with (first
      | (go_at_call 64; refine (hcl _).mono ?_; rintro e wc ⟨rfl, hb⟩)
      | (go_at_call 35; refine (hnan _).mono ?_; rintro e wd ⟨rfl, hd⟩))
    go_ret
    exact ⟨rfl, below_callC hb hd⟩
/-- An int as a float. -/
theorem fromInt_any (f m n : Int) (h1 : -9223372036854775808 ≤ n) (h2 : n ≤ 9223372036854775807) (w : World) :
    Calls Tryd.prog 20 #[.int .i64 f, .int .i64 m, .int .i64 n] w fun e w' => e = .returned (.int .u64 (rnd (f == 1) m (decide (n < 0)) n.natAbs 0)) ∧ Below w.heap.size w w' := by
  have hz : ∀ u : Int, 0 ≤ u → nn 0 u = u.toNat := fun u hu => by unfold nn num; congr 1; omega
  have hc0 : clamp 0 = 0 := rfl
  by_cases c : n < 0
  · have wn : Word (-n) := ⟨by omega, by omega⟩
    have hr := round_any f m true 0 (-n) 0 false word_zero wn (by decide) (by decide)
    rw [hc0, hz (-n) (by omega), rndQ_false, show (-n).toNat = n.natAbs by omega] at hr
    rw [decide_eq_true c]
    generalize rnd (f == 1) m true n.natAbs 0 = V at *
    have e1 : IntKind.u64.wrap n = n + 18446744073709551616 := by rw [IntKind.wrap_u64]; omega
    have e2 : IntKind.u64.wrap (-(n + 18446744073709551616)) = -n := by rw [IntKind.wrap_u64]; omega
    go_enter Tryd.func20, Tryd.ntmps20
    go_wp2_with (go_at_call 49; refine (hr _).mono ?_; rintro e wd ⟨rfl, hd⟩)
    go_ret
    exact ⟨rfl, hd⟩
  · have wn : Word n := ⟨by omega, by omega⟩
    have hr := round_any f m false 0 n 0 false word_zero wn (by decide) (by decide)
    rw [hc0, hz n (by omega), rndQ_false, show n.toNat = n.natAbs by omega] at hr
    rw [decide_eq_false c]
    generalize rnd (f == 1) m false n.natAbs 0 = V at *
    have c' : 0 ≤ n := by omega
    have e1 : IntKind.u64.wrap n = n := by rw [IntKind.wrap_u64]; omega
    go_enter Tryd.func20, Tryd.ntmps20
    go_wp2_with (go_at_call 49; refine (hr _).mono ?_; rintro e wd ⟨rfl, hd⟩)
    go_ret
    exact ⟨rfl, hd⟩
end Go.Proofs.YtfdinlomlcnjnaaDoor

