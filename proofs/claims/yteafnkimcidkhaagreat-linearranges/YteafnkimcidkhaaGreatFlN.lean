/- What two floats of ranges come to lies between what the ends come to; plain functions alone. -/
import Derived.Test.YteafnkimcidkhaaGreatFlM
namespace Go.Proofs.YteafnkimcidkhaaGreat
set_option linter.unusedVariables false
set_option linter.unusedSimpArgs false
/-- What a float of a rank is worth, in the least steps. -/
def vl (s : Bool) (r : Int) : Int := if r < 0 then -(val s r.natAbs : Int) else (val s r.natAbs : Int)
theorem vl_mono (s : Bool) {r q : Int} (h : r ≤ q) : vl s r ≤ vl s q := by
  unfold vl
  split
  · split
    · have := val_le s (show q.natAbs ≤ r.natAbs by omega)
      omega
    · omega
  · rw [if_neg (by omega)]
    have := val_le s (show r.natAbs ≤ q.natAbs by omega)
    omega
theorem mk_at (s : Bool) (r : Int) : ∃ b : Bool, mk s r = sgnd s b (r.natAbs : Nat) ∧ sg b (val s r.natAbs) = vl s r ∧ b = decide (r < 0) := by
  unfold mk vl sg
  by_cases h : r < 0
  · exact ⟨true, by rw [if_pos h]; congr 1; omega, by simp [h], by simp [h]⟩
  · refine ⟨false, ?_, by simp [h], by simp [h]⟩
    rw [if_neg h]
    show r = (r.natAbs : Int)
    omega
def kN (s : Bool) : Nat := 130 + (fI s).toNat
/-- The rank of what two floats come to. -/
def R (s : Bool) (op x y : Int) : Int := if op = 8 then rk s (vl s x + vl s y) (fL s) else if op = 9 then rk s (vl s x - vl s y) (fL s) else if op = 10 then rk s (vl s x * vl s y) (fL s + fL s) else rq s (kN s) (if y < 0 then -(vl s x) else vl s x) (val s y.natAbs)
theorem R_8 (s : Bool) (x y : Int) : R s 8 x y = rk s (vl s x + vl s y) (fL s) := by unfold R; rw [if_pos rfl]
theorem R_9 (s : Bool) (x y : Int) : R s 9 x y = rk s (vl s x - vl s y) (fL s) := by unfold R; rw [if_neg (by decide), if_pos rfl]
theorem R_10 (s : Bool) (x y : Int) : R s 10 x y = rk s (vl s x * vl s y) (fL s + fL s) := by unfold R; rw [if_neg (by decide), if_neg (by decide), if_pos rfl]
theorem R_11p (s : Bool) (x y : Int) (h : ¬ y < 0) : R s 11 x y = rq s (kN s) (vl s x) (val s y.natAbs) := by unfold R; rw [if_neg (by decide), if_neg (by decide), if_neg (by decide), if_neg h]
theorem R_11n (s : Bool) (x y : Int) (h : y < 0) : R s 11 x y = rq s (kN s) (-(vl s x)) (val s y.natAbs) := by unfold R; rw [if_neg (by decide), if_neg (by decide), if_neg (by decide), if_pos h]
theorem sg_not (b : Bool) (n : Nat) : sg (!b) n = -(sg b n) := by cases b <;> simp [sg]
theorem R_res {s : Bool} {op x y : Int} (hop : op = 8 ∨ op = 9 ∨ op = 10 ∨ op = 11) (x1 : -fI s < x) (x2 : x < fI s) (y1 : -fI s < y) (y2 : y < fI s) (hz : ¬ (op = 11 ∧ y = 0)) : Res s (gF op s (mk s x) (mk s y)) (R s op x y) := by
  obtain ⟨b, eb, vb, db⟩ := mk_at s x
  obtain ⟨c, ec, vc, dc⟩ := mk_at s y
  have hx : ((x.natAbs : Nat) : Int) < fI s := by omega
  have hy : ((y.natAbs : Nat) : Int) < fI s := by omega
  unfold gF R
  rcases hop with rfl | rfl | rfl | rfl
  · rw [if_pos rfl, if_pos rfl, eb, ec, ← vb, ← vc]
    exact add_rk s b c _ _ hx hy
  · rw [if_neg (by decide), if_pos rfl, if_neg (by decide), if_pos rfl]
    show Res s (addF s 0 (mk s x) (negF s (mk s y))) _
    rw [eb, ec, neg_made s c _ (by omega) (by omega)]
    have := add_rk s b (!c) _ _ hx hy
    rw [sg_not, vb, vc] at this
    rw [Int.sub_eq_add_neg]
    exact this
  · rw [if_neg (by decide), if_neg (by decide), if_pos rfl, if_neg (by decide), if_neg (by decide), if_pos rfl, eb, ec, ← vb, ← vc]
    exact mul_rk s b c _ _ hx hy
  · rw [if_neg (by decide), if_neg (by decide), if_neg (by decide), if_neg (by decide), if_neg (by decide), if_neg (by decide), eb, ec]
    have y0 : y ≠ 0 := fun e => hz ⟨rfl, e⟩
    have := div_rk s b c x.natAbs y.natAbs (kN s) hx hy (by omega) (by unfold kN; omega)
    have e : sg (b != c) (val s x.natAbs) = if y < 0 then -(vl s x) else vl s x := by
      rw [dc, ← vb]
      by_cases h : y < 0
      · rw [if_pos h, decide_eq_true h, ← sg_not]; cases b <;> rfl
      · rw [if_neg h, decide_eq_false h]; cases b <;> rfl
    rw [e] at this
    exact this
theorem val_pos (s : Bool) {z : Nat} (h : z ≠ 0) : 0 < val s z := by
  have := val_lt s (show 0 < z by omega)
  omega
theorem R_x (s : Bool) {op : Int} (hop : op = 8 ∨ op = 9 ∨ op = 10 ∨ op = 11) (y : Int) (hz : ¬ (op = 11 ∧ y = 0)) :
    (∀ x x', x ≤ x' → R s op x y ≤ R s op x' y) ∨ (∀ x x', x ≤ x' → R s op x' y ≤ R s op x y) := by
  rcases hop with rfl | rfl | rfl | rfl
  · left; intro x x' h; have := vl_mono s h
    rw [R_8, R_8]; exact rk_mono s (by omega) _
  · left; intro x x' h; have := vl_mono s h
    rw [R_9, R_9]; exact rk_mono s (by omega) _
  · by_cases c : 0 ≤ vl s y
    · left; intro x x' h; have := vl_mono s h
      rw [R_10, R_10]
      exact rk_mono s (Int.mul_le_mul_of_nonneg_right this c) _
    · right; intro x x' h; have := vl_mono s h
      rw [R_10, R_10]
      exact rk_mono s (Int.mul_le_mul_of_nonpos_right this (by omega)) _
  · have y0 : y ≠ 0 := fun e => hz ⟨rfl, e⟩
    have p := val_pos s (show y.natAbs ≠ 0 by omega)
    have p' : (0 : Int) ≤ (val s y.natAbs : Nat) := by omega
    by_cases c : y < 0
    · right; intro x x' h; have := vl_mono s h
      rw [R_11n s _ _ c, R_11n s _ _ c]
      exact rq_mono s p p (Int.mul_le_mul_of_nonneg_right (by omega) p')
    · left; intro x x' h; have := vl_mono s h
      rw [R_11p s _ _ c, R_11p s _ _ c]
      exact rq_mono s p p (Int.mul_le_mul_of_nonneg_right (by omega) p')
theorem R_y (s : Bool) {op : Int} (hop : op = 8 ∨ op = 9 ∨ op = 10 ∨ op = 11) (x c d : Int) (hz : op = 11 → 0 < c ∨ d < 0) :
    (∀ y y', c ≤ y → y ≤ y' → y' ≤ d → R s op x y ≤ R s op x y') ∨ (∀ y y', c ≤ y → y ≤ y' → y' ≤ d → R s op x y' ≤ R s op x y) := by
  rcases hop with rfl | rfl | rfl | rfl
  · left; intro y y' _ h _; have := vl_mono s h
    rw [R_8, R_8]; exact rk_mono s (by omega) _
  · right; intro y y' _ h _; have := vl_mono s h
    rw [R_9, R_9]; exact rk_mono s (by omega) _
  · by_cases q : 0 ≤ vl s x
    · left; intro y y' _ h _; have := vl_mono s h
      rw [R_10, R_10]
      exact rk_mono s (Int.mul_le_mul_of_nonneg_left this q) _
    · right; intro y y' _ h _; have := vl_mono s h
      rw [R_10, R_10]
      exact rk_mono s (Int.mul_le_mul_of_nonpos_left (by omega) this) _
  · rcases hz rfl with hc | hd
    · by_cases q : 0 ≤ vl s x
      · right; intro y y' h1 h h2
        rw [R_11p s x y (by omega), R_11p s x y' (by omega)]
        have v := val_le s (show y.natAbs ≤ y'.natAbs by omega)
        exact rq_mono s (val_pos s (by omega)) (val_pos s (by omega)) (Int.mul_le_mul_of_nonneg_left (by omega) q)
      · left; intro y y' h1 h h2
        rw [R_11p s x y (by omega), R_11p s x y' (by omega)]
        have v := val_le s (show y.natAbs ≤ y'.natAbs by omega)
        exact rq_mono s (val_pos s (by omega)) (val_pos s (by omega)) (Int.mul_le_mul_of_nonpos_left (by omega) (by omega))
    · by_cases q : 0 ≤ vl s x
      · right; intro y y' h1 h h2
        rw [R_11n s x y (by omega), R_11n s x y' (by omega)]
        have v := val_le s (show y'.natAbs ≤ y.natAbs by omega)
        exact rq_mono s (val_pos s (by omega)) (val_pos s (by omega)) (Int.mul_le_mul_of_nonpos_left (by omega) (by omega))
      · left; intro y y' h1 h h2
        rw [R_11n s x y (by omega), R_11n s x y' (by omega)]
        have v := val_le s (show y'.natAbs ≤ y.natAbs by omega)
        exact rq_mono s (val_pos s (by omega)) (val_pos s (by omega)) (Int.mul_le_mul_of_nonneg_left (by omega) (by omega))
theorem R_low (s : Bool) {op : Int} (hop : op = 8 ∨ op = 9 ∨ op = 10 ∨ op = 11) {a b c d x y : Int} (h1 : a ≤ x) (h2 : x ≤ b) (h3 : c ≤ y) (h4 : y ≤ d) (hz : op = 11 → 0 < c ∨ d < 0) :
    (∃ u v, (u = a ∨ u = b) ∧ (v = c ∨ v = d) ∧ R s op u v ≤ R s op x y) ∧ (∃ u v, (u = a ∨ u = b) ∧ (v = c ∨ v = d) ∧ R s op x y ≤ R s op u v) := by
  have hy : ¬ (op = 11 ∧ y = 0) := by rintro ⟨e, rfl⟩; have := hz e; omega
  obtain ⟨u, u', hu, hu', l1, l2⟩ : ∃ u u', (u = a ∨ u = b) ∧ (u' = a ∨ u' = b) ∧ R s op u y ≤ R s op x y ∧ R s op x y ≤ R s op u' y := by
    rcases R_x s hop y hy with m | m
    · exact ⟨a, b, Or.inl rfl, Or.inr rfl, m _ _ h1, m _ _ h2⟩
    · exact ⟨b, a, Or.inr rfl, Or.inl rfl, m _ _ h2, m _ _ h1⟩
  constructor
  · rcases R_y s hop u c d hz with m | m
    · exact ⟨u, c, hu, Or.inl rfl, Int.le_trans (m _ _ (Int.le_refl _) h3 h4) l1⟩
    · exact ⟨u, d, hu, Or.inr rfl, Int.le_trans (m _ _ h3 h4 (Int.le_refl _)) l1⟩
  · rcases R_y s hop u' c d hz with m | m
    · exact ⟨u', d, hu', Or.inr rfl, Int.le_trans l2 (m _ _ h3 h4 (Int.le_refl _))⟩
    · exact ⟨u', c, hu', Or.inl rfl, Int.le_trans l2 (m _ _ (Int.le_refl _) h3 h4)⟩
/-- The pairs of ends, by rank. -/
def prs (op a b c d : Int) : List (Int × Int) := if op = 11 then pairsL (false, a, b) [if c ≤ -1 then (false, c, min d (-1)) else (true, 0, 0), if 1 ≤ d then (false, max c 1, d) else (true, 0, 0)] else pairsL (false, a, b) [(false, c, d)]
theorem pairs_two (a b : Int) (ls : List (Bool × Int × Int)) {u v : Int} (hu : u = a ∨ u = b) {t : Bool × Int × Int} (ht : t ∈ ls) (t0 : t.1 = false) (hv : v = t.2.1 ∨ v = t.2.2) : (u, v) ∈ pairsL (false, a, b) ls := by
  unfold pairsL withL
  have e : endsL [(false, a, b)] = [a, b] := rfl
  rw [e, List.mem_flatMap]
  refine ⟨u, by simpa using hu, ?_⟩
  rw [List.mem_map]
  refine ⟨v, ?_, rfl⟩
  unfold endsL
  rw [List.mem_flatMap]
  refine ⟨t, ht, ?_⟩
  rw [t0]
  simpa using hv
theorem prs_btw (s : Bool) {op : Int} (hop : op = 8 ∨ op = 9 ∨ op = 10 ∨ op = 11) {a b c d x y : Int} (h1 : a ≤ x) (h2 : x ≤ b) (h3 : c ≤ y) (h4 : y ≤ d) (hz : ¬ (op = 11 ∧ y = 0)) :
    (∃ p ∈ prs op a b c d, R s op p.1 p.2 ≤ R s op x y) ∧ (∃ p ∈ prs op a b c d, R s op x y ≤ R s op p.1 p.2) := by
  unfold prs
  by_cases e : op = 11
  · rw [if_pos e]
    by_cases n : y ≤ -1
    · obtain ⟨⟨u, v, hu, hv, l⟩, ⟨u', v', hu', hv', l'⟩⟩ := R_low s hop (c := c) (d := min d (-1)) h1 h2 h3 (by omega) (fun _ => by omega)
      rw [if_pos (show c ≤ -1 by omega)]
      exact ⟨⟨(u, v), pairs_two a b _ hu (t := (false, c, min d (-1))) (by simp) rfl hv, l⟩, ⟨(u', v'), pairs_two a b _ hu' (t := (false, c, min d (-1))) (by simp) rfl hv', l'⟩⟩
    · have : y ≠ 0 := fun q => hz ⟨e, q⟩
      obtain ⟨⟨u, v, hu, hv, l⟩, ⟨u', v', hu', hv', l'⟩⟩ := R_low s hop (c := max c 1) (d := d) h1 h2 (by omega) h4 (fun _ => by omega)
      rw [if_pos (show 1 ≤ d by omega)]
      exact ⟨⟨(u, v), pairs_two a b _ hu (t := (false, max c 1, d)) (by simp) rfl hv, l⟩, ⟨(u', v'), pairs_two a b _ hu' (t := (false, max c 1, d)) (by simp) rfl hv', l'⟩⟩
  · rw [if_neg e]
    obtain ⟨⟨u, v, hu, hv, l⟩, ⟨u', v', hu', hv', l'⟩⟩ := R_low s hop h1 h2 h3 h4 (fun q => absurd q e)
    exact ⟨⟨(u, v), pairs_two a b _ hu (t := (false, c, d)) (by simp) rfl hv, l⟩, ⟨(u', v'), pairs_two a b _ hu' (t := (false, c, d)) (by simp) rfl hv', l'⟩⟩
theorem prs_in {op a b c d : Int} (hcd : c ≤ d) {p : Int × Int} (hp : p ∈ prs op a b c d) : (p.1 = a ∨ p.1 = b) ∧ c ≤ p.2 ∧ p.2 ≤ d ∧ ¬ (op = 11 ∧ p.2 = 0) := by
  unfold prs at hp
  by_cases e : op = 11
  · rw [if_pos e] at hp
    obtain ⟨h, t, ht, t0, hv⟩ := pairs_inF hp
    refine ⟨h, ?_⟩
    simp only [List.mem_cons, List.not_mem_nil, or_false] at ht
    rcases ht with ht | ht
    · by_cases n : c ≤ -1
      · rw [if_pos n] at ht
        subst ht
        simp only at hv
        omega
      · rw [if_neg n] at ht
        subst ht
        simp at t0
    · by_cases n : 1 ≤ d
      · rw [if_pos n] at ht
        subst ht
        simp only at hv
        omega
      · rw [if_neg n] at ht
        subst ht
        simp at t0
  · rw [if_neg e] at hp
    obtain ⟨h, t, ht, t0, hv⟩ := pairs_inF hp
    simp only [List.mem_cons, List.not_mem_nil, or_false] at ht
    subst ht
    simp only at hv
    exact ⟨h, by omega, by omega, fun q => e q.1⟩
theorem pairs_map (s : Bool) (op a b : Int) (ls : List (Bool × Int × Int)) (ms : List (Bool × Int × Int)) (h : endsL ls = (endsL ms).map (mk s)) :
    (pairsL (false, mk s a, mk s b) ls).map (fun p => gF op s p.1 p.2) = (pairsL (false, a, b) ms).map fun p => gF op s (mk s p.1) (mk s p.2) := by
  unfold pairsL withL
  have e1 : endsL [(false, mk s a, mk s b)] = [mk s a, mk s b] := rfl
  have e2 : endsL [(false, a, b)] = [a, b] := rfl
  rw [e1, e2, h]
  simp only [List.flatMap_cons, List.flatMap_nil, List.append_nil, List.map_append, List.map_map]
  rfl
theorem resF_prs {s : Bool} {op a b c d : Int} (h1 : -fI s < c) (h2 : d < fI s) (h3 : c ≤ d) : resF s op (mk s a) (mk s b) (mk s c) (mk s d) = (prs op a b c d).map fun p => gF op s (mk s p.1) (mk s p.2) := by
  unfold resF prs
  by_cases e : op = 11
  · rw [if_pos e, if_pos e, lowF h1 h2 h3, highF h1 h2 h3, e]
    refine pairs_map s 11 a b _ _ ?_
    unfold endsL
    by_cases n : c ≤ -1
    · rw [if_pos n, if_pos n]
      by_cases m : 1 ≤ d
      · rw [if_pos m, if_pos m]; simp
      · rw [if_neg m, if_neg m]; simp
    · rw [if_neg n, if_neg n]
      by_cases m : 1 ≤ d
      · rw [if_pos m, if_pos m]; simp
      · rw [if_neg m, if_neg m]; simp
  · rw [if_neg e, if_neg e]
    exact pairs_map s op a b _ _ rfl
theorem hull_from (s : Bool) (f g : Int × Int → Int) : ∀ (ps : List (Int × Int)), (∀ p ∈ ps, Res s (f p) (g p)) → ∀ (lo hi : Int), -fI s ≤ lo → lo ≤ fI s → -fI s ≤ hi → hi ≤ fI s →
    ∃ l h, (ps.map f).foldl (fun acc x => joinP (WyF s) acc (false, (WyF s).pl x, (WyF s).pl x)) (false, mk s lo, mk s hi) = (false, mk s l, mk s h) ∧ (l = lo ∨ ∃ p ∈ ps, l = g p) ∧ (h = hi ∨ ∃ p ∈ ps, h = g p) ∧ l ≤ lo ∧ hi ≤ h ∧ (∀ p ∈ ps, l ≤ g p ∧ g p ≤ h) := by
  intro ps
  induction ps with
  | nil => intro _ lo hi _ _ _ _; exact ⟨lo, hi, rfl, Or.inl rfl, Or.inl rfl, Int.le_refl _, Int.le_refl _, by simp⟩
  | cons p ps ih =>
    intro hR lo hi a1 a2 b1 b2
    have r := hR p (by simp)
    have e : joinP (WyF s) (false, mk s lo, mk s hi) (false, (WyF s).pl (f p), (WyF s).pl (f p)) = (false, mk s (min lo (g p)), mk s (max hi (g p))) := by
      rw [show (WyF s).pl (f p) = mk s (g p) from r.pl]
      unfold joinP
      simp only [Bool.false_eq_true, if_false]
      rw [smlF a1 a2 r.lo r.hi, grtF b1 b2 r.lo r.hi]
    have rl := r.lo
    have rh := r.hi
    obtain ⟨l, h, e1, l1, l2, l3, l4, l5⟩ := ih (fun q hq => hR q (by simp [hq])) (min lo (g p)) (max hi (g p)) (by omega) (by omega) (by omega) (by omega)
    refine ⟨l, h, ?_, ?_, ?_, by omega, by omega, ?_⟩
    · rw [List.map_cons, List.foldl_cons, e, e1]
    · rcases l1 with l1 | ⟨q, hq, l1⟩
      · by_cases c : lo ≤ g p
        · left; omega
        · right; exact ⟨p, by simp, by omega⟩
      · right; exact ⟨q, by simp [hq], l1⟩
    · rcases l2 with l2 | ⟨q, hq, l2⟩
      · by_cases c : g p ≤ hi
        · left; omega
        · right; exact ⟨p, by simp, by omega⟩
      · right; exact ⟨q, by simp [hq], l2⟩
    · intro q hq
      rcases List.mem_cons.1 hq with rfl | hq
      · omega
      · exact l5 q hq
theorem hullR (s : Bool) (f g : Int × Int → Int) (ps : List (Int × Int)) (ne : ps ≠ []) (hR : ∀ p ∈ ps, Res s (f p) (g p)) :
    ∃ l h, hullP (WyF s) (ps.map f) = (false, mk s l, mk s h) ∧ (∃ p ∈ ps, l = g p) ∧ (∃ p ∈ ps, h = g p) ∧ (∀ p ∈ ps, l ≤ g p ∧ g p ≤ h) := by
  cases ps with
  | nil => exact absurd rfl ne
  | cons p ps =>
    have r := hR p (by simp)
    obtain ⟨l, h, e1, l1, l2, l3, l4, l5⟩ := hull_from s f g ps (fun q hq => hR q (by simp [hq])) (g p) (g p) r.lo r.hi r.lo r.hi
    refine ⟨l, h, ?_, ?_, ?_, ?_⟩
    · unfold hullP
      rw [List.map_cons, List.foldl_cons]
      rw [show joinP (WyF s) (true, 0, 0) (false, (WyF s).pl (f p), (WyF s).pl (f p)) = (false, mk s (g p), mk s (g p)) by rw [show (WyF s).pl (f p) = mk s (g p) from r.pl]; rfl]
      exact e1
    · rcases l1 with l1 | ⟨q, hq, l1⟩
      · exact ⟨p, by simp, l1⟩
      · exact ⟨q, by simp [hq], l1⟩
    · rcases l2 with l2 | ⟨q, hq, l2⟩
      · exact ⟨p, by simp, l2⟩
      · exact ⟨q, by simp [hq], l2⟩
    · intro q hq
      rcases List.mem_cons.1 hq with rfl | hq
      · exact ⟨l3, l4⟩
      · exact l5 q hq
theorem trap_from (s : Bool) (f g : Int × Int → Int) : ∀ (ps : List (Int × Int)), (∀ p ∈ ps, Res s (f p) (g p)) → ∀ (t : Int),
    ((ps.map f).foldl (fun acc x => if pastP (WyF s) (LF s) x then 2 else acc) t = 2 ∧ ∃ p ∈ ps, g p = fI s ∨ g p = -fI s) ∨ ((ps.map f).foldl (fun acc x => if pastP (WyF s) (LF s) x then 2 else acc) t = t ∧ ∀ p ∈ ps, -fI s < g p ∧ g p < fI s) := by
  intro ps
  induction ps with
  | nil => intro _ t; right; exact ⟨rfl, by simp⟩
  | cons p ps ih =>
    intro hR t
    have r := hR p (by simp)
    have rl := r.lo
    have rh := r.hi
    rw [List.map_cons, List.foldl_cons, pastF r]
    by_cases c : g p = fI s ∨ g p = -fI s
    · rw [if_pos (by simpa using c)]
      left
      rcases ih (fun q hq => hR q (by simp [hq])) 2 with ⟨e, _⟩ | ⟨e, _⟩
      · exact ⟨e, p, by simp, c⟩
      · exact ⟨e, p, by simp, c⟩
    · rw [if_neg (by simpa using c)]
      rcases ih (fun q hq => hR q (by simp [hq])) t with ⟨e, q, hq, h⟩ | ⟨e, h⟩
      · left; exact ⟨e, q, by simp [hq], h⟩
      · right
        refine ⟨e, fun q hq => ?_⟩
        rcases List.mem_cons.1 hq with rfl | hq
        · omega
        · exact h q hq
theorem prs_ne {op a b c d : Int} (hcd : c ≤ d) (h : op = 11 → ¬ (c = 0 ∧ d = 0)) : prs op a b c d ≠ [] := by
  unfold prs
  by_cases e : op = 11
  · rw [if_pos e]
    have := h e
    by_cases n : c ≤ -1
    · rw [if_pos n]; intro q; simp [pairsL, withL, endsL] at q
    · rw [if_neg n, if_pos (show 1 ≤ d by omega)]; intro q; simp [pairsL, withL, endsL] at q
  · rw [if_neg e]; intro q; simp [pairsL, withL, endsL] at q
theorem prs_none (a b : Int) : prs 11 a b 0 0 = [] := rfl
/-- The range of two ranges: from the least to the greatest result, or as far as finite ones go. -/
theorem range_is {s : Bool} {op a b c d : Int} (hop : op = 8 ∨ op = 9 ∨ op = 10 ∨ op = 11) (a1 : -fI s < a) (hab : a ≤ b) (b2 : b < fI s) (c1 : -fI s < c) (hcd : c ≤ d) (d2 : d < fI s) :
    (prs op a b c d = [] ∧ rangeF s op (mk s a) (mk s b) (mk s c) (mk s d) = (true, 0, 0) ∧ trapP (WyF s) (LF s) 2 (resF s op (mk s a) (mk s b) (mk s c) (mk s d)) = 0) ∨
    (∃ l h, (∃ p ∈ prs op a b c d, l = R s op p.1 p.2) ∧ (∃ p ∈ prs op a b c d, h = R s op p.1 p.2) ∧ (∀ p ∈ prs op a b c d, l ≤ R s op p.1 p.2 ∧ R s op p.1 p.2 ≤ h) ∧ -fI s ≤ l ∧ h ≤ fI s
      ∧ rangeF s op (mk s a) (mk s b) (mk s c) (mk s d) = (if min h (fI s - 1) < max l (-(fI s - 1)) then (true, 0, 0) else (false, mk s (max l (-(fI s - 1))), mk s (min h (fI s - 1))))
      ∧ ((trapP (WyF s) (LF s) 2 (resF s op (mk s a) (mk s b) (mk s c) (mk s d)) = 2 ∧ (l = -fI s ∨ h = fI s)) ∨ (trapP (WyF s) (LF s) 2 (resF s op (mk s a) (mk s b) (mk s c) (mk s d)) = 0 ∧ -fI s < l ∧ h < fI s))) := by
  have t := fI_two s
  have hR : ∀ p ∈ prs op a b c d, Res s (gF op s (mk s p.1) (mk s p.2)) (R s op p.1 p.2) := fun p hp => by
    obtain ⟨q1, q2, q3, q4⟩ := prs_in hcd hp
    exact R_res hop (by omega) (by omega) (by omega) (by omega) q4
  by_cases ne : prs op a b c d = []
  · left
    refine ⟨ne, ?_, ?_⟩
    · unfold rangeF
      rw [resF_prs c1 d2 hcd, ne]
      rfl
    · rw [resF_prs c1 d2 hcd, ne]
      rfl
  · right
    obtain ⟨l, h, e, ⟨p, hp, hl⟩, ⟨q, hq, hh⟩, all⟩ := hullR s (fun p => gF op s (mk s p.1) (mk s p.2)) (fun p => R s op p.1 p.2) _ ne hR
    have pl := (hR p hp).lo
    have ph := (hR p hp).hi
    have ql := (hR q hq).lo
    have qh := (hR q hq).hi
    have lh := all p hp
    refine ⟨l, h, ⟨p, hp, hl⟩, ⟨q, hq, hh⟩, all, by omega, by omega, ?_, ?_⟩
    · unfold rangeF
      rw [resF_prs c1 d2 hcd, e, LF_least, LF_most, meetF (by omega) (by omega) (by omega) (by omega) (by omega) (by omega) (by omega) (by omega)]
    · rw [resF_prs c1 d2 hcd]
      rcases trap_from s (fun p => gF op s (mk s p.1) (mk s p.2)) (fun p => R s op p.1 p.2) _ hR 0 with ⟨e1, r, hr, h1⟩ | ⟨e1, h1⟩
      · left
        have := all r hr
        refine ⟨e1, ?_⟩
        have rl := (hR r hr).lo
        have rh := (hR r hr).hi
        omega
      · right
        have := h1 p hp
        have := h1 q hq
        exact ⟨e1, by omega, by omega⟩
end Go.Proofs.YteafnkimcidkhaaGreat

