/- Texts of the proof, put together. -/
import Derived.Test.YteafnkimcidkhaaGreatRXPLinearBlurs
import Derived.Test.YteafnkimcidkhaaGreatRG1
import Derived.Test.YteafnkimcidkhaaGreatRG2
import Derived.Test.YteafnkimcidkhaaGreatRSpWf
import Derived.Test.YteafnkimcidkhaaGreatShelf
import Derived.Test.YteafnkimcidkhaaGreatRMB1
import Derived.Test.YteafnkimcidkhaaGreatRMB2
import Derived.Test.YteafnkimcidkhaaGreatRMB3
import Derived.Test.YteafnkimcidkhaaGreatRSpF
import Derived.Test.YteafnkimcidkhaaGreatRSpFl
import Derived.Test.YteafnkimcidkhaaGreatRLjF
import Derived.Test.YteafnkimcidkhaaGreatRLjH
import Derived.Test.YteafnkimcidkhaaGreatRG3
import Derived.Test.YteafnkimcidkhaaGreatRLiF
import Derived.Test.YteafnkimcidkhaaGreatRLiG
import Derived.Test.YteafnkimcidkhaaGreatRLiH
import Derived.Test.YteafnkimcidkhaaGreatRLiI
import Derived.Test.YteafnkimcidkhaaGreatRLiJ
import Derived.Test.YteafnkimcidkhaaGreatRLiK
import Derived.Test.YteafnkimcidkhaaGreatRLiL
import Derived.Test.YteafnkimcidkhaaGreatRLiB
import Derived.Test.YteafnkimcidkhaaGreatRMB4
import Derived.Test.YteafnkimcidkhaaGreatRMB5
import Derived.Test.YteafnkimcidkhaaGreatRLiO
import Derived.Test.YteafnkimcidkhaaGreatRG5
import Derived.Test.YteafnkimcidkhaaGreatRG4
import Derived.Test.YteafnkimcidkhaaGreatRG6
import Derived.Test.YteafnkimcidkhaaGreatRG7
import Derived.Test.YteafnkimcidkhaaGreatRG8
import Derived.Test.YteafnkimcidkhaaGreatRG9
import Derived.WalkKit
import Derived.WalkSpells
import Derived.StillTactics
import Derived.Laws.Pointers
import Derived.Laws.Externs
import Derived.Deep.RegionHeld3
import Derived.Below
import Derived.RowKit
import Derived.Laws.EntriesVeiled
import Derived.Shelf.Abstract
import Derived.Laws.Bits64
import Derived.Laws.Bits64b
import Derived.Lib.Mul64
import Derived.Lib.BitFns
import Derived.Shelf.Spec.BitsCarry
import Derived.BigQuiet
import Derived.Deep.QuietTactic
import Derived.Deep.DeepCutAuto
import Derived.ScopeJumps
import Derived.Deep.CutBlock
import Derived.Laws.BitsAllLaws
import Derived.Laws.Append
import Derived.Deep.Upon
import Derived.Maps.AppendAt
namespace Go.Proofs.YteafnkimcidkhaaGreat
set_option linter.unusedVariables false
set_option linter.unusedSimpArgs false
def k925 : Nat := 925
def k1074 : Nat := 1074
def unF (s : Bool) : Nat := if s then 2 ^ k925 else 1
theorem unF_pos (s : Bool) : 0 < unF s := by
  cases s
  · exact Nat.one_pos
  · exact Nat.two_pow_pos k925
theorem un_fL (s : Bool) : ∃ k : Nat, unF s = 2 ^ k ∧ fL s - k = fL false := by
  cases s
  · exact ⟨0, rfl, rfl⟩
  · exact ⟨k925, rfl, rfl⟩
def wdn1 (s : Bool) (x : Int) : Int := if s then cvtF true false 0 x else x
def drk (s : Bool) (r : Int) : Int := if s then cv true false r else r
theorem res_uniq {s : Bool} {v r q : Int} (h : Res s v r) (k : Res s v q) : r = q :=
  mk_inj h.lo h.hi k.lo k.hi (h.pl.symm.trans k.pl)
theorem res_made {s : Bool} {v r : Int} (h : Res s v r) (hw : Word v) (h1 : -fI s < r) (h2 : r < fI s) : ∃ b z, v = sgnd s b (z : Nat) ∧ (z : Int) < fI s ∧ sg b (val s z) = vl s r := by
  have f : finF s v = true := by
    have i := h.inf
    have n := h.num
    rw [decide_eq_false (by omega)] at i
    have c := cls_range s v
    simp only [Bool.or_eq_false_iff, beq_eq_false_iff_ne, ne_eq] at n i
    unfold finF
    rcases (show cls s v = 1 ∨ cls s v = 2 ∨ cls s v = 3 by omega) with h | h | h <;> rw [h] <;> rfl
  obtain ⟨b, z, rfl, hz⟩ := n_made s v hw f
  refine ⟨b, z, rfl, hz, ?_⟩
  have R := made_res s b z (by omega) (by omega)
  have e := res_uniq h R
  rw [e]
  cases b
  · show (val s z : Int) = vl s (z : Int)
    unfold vl
    rw [if_neg (by omega)]
    simp
  · show -(val s z : Int) = vl s (-(z : Int))
    unfold vl
    by_cases z0 : z = 0
    · subst z0; simp [val_zero]
    · rw [if_pos (by omega)]
      simp
theorem res_num {s : Bool} {v : Int} (hw : Word v) (f : finF s v = true) : ∃ r, Res s v r ∧ -fI s < r ∧ r < fI s := by
  obtain ⟨b, z, rfl, hz⟩ := n_made s v hw f
  exact ⟨_, made_res s b z (by omega) (by omega), by cases b <;> simp <;> omega, by cases b <;> simp <;> omega⟩
theorem vl_cv {r : Int} (h1 : -fI true < r) (h2 : r < fI true) : vl false (cv true false r) = vl true r * (unF true : Int) := by
  obtain ⟨k, hk, hL⟩ := un_fL true
  by_cases r0 : r = 0
  · subst r0
    have : cv true false 0 = 0 := by
      unfold cv rk mgF vl
      simp [val_zero]
    rw [this]
    simp [vl, val_zero]
  obtain ⟨w1, w2⟩ := cv_wide h1 h2
  have e : cv true false r = rk false (vl true r * (unF true : Int)) (fL false) := by
    unfold cv
    have := rk_scale false (vl true r) k (fL true)
    rw [hL] at this
    rw [← this, hk]
    simp
  rw [e] at w1 w2 ⊢
  have vp := val_pos true (show r.natAbs ≠ 0 by omega)
  have up := unF_pos true
  obtain ⟨x, q, hq, q1, q2⟩ := val_parts true r.natAbs
  have v1 : val true r.natAbs = q * 2 ^ x := by
    have := val_at true x q (by omega) q2
    rw [← hq] at this
    exact this
  obtain ⟨z, hz⟩ := rep_val false q (x + k) (Nat.lt_of_lt_of_le q1 (by decide))
  have N : val true r.natAbs * unF true = val false z := by rw [hz, v1, hk, Nat.pow_add, Nat.mul_assoc]
  have n0 : 0 < val true r.natAbs * unF true := Nat.mul_pos vp up
  have z0 : z ≠ 0 := by
    rintro rfl
    rw [val_zero] at N; omega
  have core := mag_core false 0 false z0
  have mg : mgF false (val true r.natAbs * unF true) (fL false) = if fI false ≤ (z : Int) then fI false else z := by
    unfold mgF
    rw [if_neg (by omega), N, core]
    rfl
  have i0 := fI_pos false
  by_cases c : r < 0
  · have v : vl true r * (unF true : Int) = -((val true r.natAbs * unF true : Nat) : Int) := by
      unfold vl; rw [if_pos c, Int.natCast_mul, Int.neg_mul]
    rw [v] at w1 w2 ⊢
    have rr : rk false (-((val true r.natAbs * unF true : Nat) : Int)) (fL false) = -(if fI false ≤ (z : Int) then fI false else z) := by
      unfold rk
      rw [if_pos (by omega), Int.natAbs_neg, Int.natAbs_natCast, mg]
    rw [rr] at w1 w2 ⊢
    split at w1
    · omega
    · rename_i c2
      rw [if_neg c2]
      unfold vl
      rw [if_pos (by omega), Int.natAbs_neg, Int.natAbs_natCast, N]
  · have v : vl true r * (unF true : Int) = ((val true r.natAbs * unF true : Nat) : Int) := by
      unfold vl; rw [if_neg c, Int.natCast_mul]
    rw [v] at w1 w2 ⊢
    have rr : rk false ((val true r.natAbs * unF true : Nat) : Int) (fL false) = (if fI false ≤ (z : Int) then fI false else z) := by
      unfold rk
      rw [if_neg (by omega), Int.natAbs_natCast, mg]
    rw [rr] at w1 w2 ⊢
    split at w2
    · omega
    · rename_i c2
      rw [if_neg c2]
      unfold vl
      rw [if_neg (by omega), Int.natAbs_natCast, N]
theorem drk_ok (s : Bool) {r : Int} (h1 : -fI s < r) (h2 : r < fI s) : -fI false < drk s r ∧ drk s r < fI false ∧ vl false (drk s r) = vl s r * (unF s : Int) := by
  cases s
  · exact ⟨h1, h2, by show vl false r = vl false r * ((1 : Nat) : Int); simp⟩
  · obtain ⟨a, b⟩ := cv_wide h1 h2
    exact ⟨a, b, vl_cv h1 h2⟩
theorem wdn1_res (s : Bool) {x r : Int} (h : Res s x r) (hw : Word x) (h1 : -fI s < r) (h2 : r < fI s) : Res false (wdn1 s x) (drk s r) := by
  cases s
  · exact h
  · obtain ⟨b, z, rfl, hz, v⟩ := res_made h hw h1 h2
    obtain ⟨i, pi, vi, _⟩ := parts_val true b z hz
    show Res false (cvtF true false 0 (sgnd true b z)) (rk false (vl true r) (fL true))
    rw [bk_cfin true false b 0 z hz, pi, ← v, vi]
    generalize (whl true (sgnd true b z)).toNat = A
    have R := rnd_rk false b A (fL true + i)
    have S := rk_scale false (if b then -(A : Int) else A) i (fL true + i)
    rw [show fL true + (i : Int) - i = fL true by omega] at S
    rw [← S] at R
    rw [show sg b (A * 2 ^ i) = (if b then -(A : Int) else A) * 2 ^ i by unfold sg; cases b <;> simp [Int.neg_mul]]
    exact R
def plW (s : Bool) : Int := if s then 4503599627370496000 else 4372995238176751616
def lsW (s : Bool) : Int := if s then 3936146074321813504 else 1
theorem ls_word (s : Bool) : Word (lsW s) := by cases s <;> exact ⟨by decide, by decide⟩
theorem pl_mk (s : Bool) : -fI false < plW s ∧ plW s < fI false ∧ mk false (plW s) = plW s := by cases s <;> decide +kernel
theorem ls_mk (s : Bool) : -fI false < lsW s ∧ lsW s < fI false ∧ mk false (lsW s) = lsW s := by cases s <;> decide +kernel
theorem pl_vl (s : Bool) : vl false (plW s) * ((2 ^ fP s : Nat) : Int) = ((2 ^ k1074 : Nat) : Int) := by cases s <;> decide +kernel
theorem ls_vl (s : Bool) : vl false (lsW s) = (unF s : Int) := by cases s <;> decide +kernel
theorem sg_mk {r : Int} : ∃ b, mk false r = sgnd false b (r.natAbs : Nat) ∧ sg b (val false r.natAbs) = vl false r := by
  obtain ⟨b, e, v, _⟩ := mk_at false r
  exact ⟨b, e, v⟩
theorem slack_res (s : Bool) {X : Int} (x1 : -fI false < X) (x2 : X < fI false) (m : Int) :
    ∃ E1 E, Res false (mulF false 1 (greP (absF false (mk false X)) (absF false (mk false X))) (plW s)) E1 ∧ 0 ≤ E1 ∧ E1 < fI false ∧
      Res false (addF false 1 (mulF false 1 (greP (absF false (mk false X)) (absF false (mk false X))) (plW s)) (lsW s)) E ∧
      (E < fI false → ((vl false X).natAbs : Int) + (unF s : Int) * ((2 ^ fP s : Nat) : Int) ≤ vl false E * ((2 ^ fP s : Nat) : Int)) := by
  have ab := abs_resR (s := false) x1 x2
  have g := gre_res ab ab
  rw [show max (max X (-X)) (max X (-X)) = max X (-X) by omega] at g
  obtain ⟨M, hM⟩ : ∃ M, max X (-X) = M := ⟨_, rfl⟩
  rw [hM] at g
  have m1 : 0 ≤ M := by omega
  have m2 : M < fI false := by omega
  have vM : vl false M = ((vl false X).natAbs : Int) := by
    have e : M = (X.natAbs : Int) := by omega
    rw [e]
    unfold vl
    rw [if_neg (by omega), Int.natAbs_natCast]
    split <;> simp
  have wa : Word (absF false (mk false X)) := absw_li false _ (mk_word (by omega) (by omega))
  have wg : Word (greP (absF false (mk false X)) (absF false (mk false X))) := by unfold greP; split <;> exact wa
  obtain ⟨b1, z1, e1, hz1, v1⟩ := res_made g wg (by omega) m2
  obtain ⟨p1, p2, pm⟩ := pl_mk s
  obtain ⟨b2, e2, v2⟩ := sg_mk (r := plW s)
  rw [pm] at e2
  have R := mul_rkM false 1 b1 b2 z1 (plW s).natAbs hz1 (by omega)
  rw [v1, v2, ← e1, ← e2] at R
  generalize greP (absF false (mk false X)) (absF false (mk false X)) = G at *
  have pv := pl_vl s
  have pp : (0 : Int) < ((2 ^ fP s : Nat) : Int) := by exact_mod_cast Nat.two_pow_pos (fP s)
  have Mv : 0 ≤ vl false M := by rw [vM]; omega
  have p0 : 0 ≤ vl false (plW s) := by
    have := vl_mono false (show (0 : Int) ≤ plW s by cases s <;> decide)
    rw [show vl false 0 = 0 by simp [vl, val_zero]] at this
    exact this
  have sc := fun m => rkM_scale false m (vl false M) k1074 (fL false)
  have two : fL false - ((k1074 : Nat) : Int) = fL false + fL false := rfl
  have ku : ((2 ^ k1074 : Nat) : Int) = (2 : Int) ^ k1074 := by exact Int.natCast_pow 2 k1074
  rw [two, ← ku] at sc
  generalize hK : ((2 ^ k1074 : Nat) : Int) = K at *
  clear hK ku
  have le : vl false M * vl false (plW s) ≤ vl false M * K := by
    refine Int.mul_le_mul_of_nonneg_left ?_ Mv
    rw [← pv]
    have := Int.mul_le_mul_of_nonneg_left (show (1 : Int) ≤ ((2 ^ fP s : Nat) : Int) by omega) p0
    omega
  have E1lt : rkM false 1 (vl false M * vl false (plW s)) (fL false + fL false) ≤ M := by
    have a := rkM_mono false 1 le (fL false + fL false)
    rw [sc 1, rkM_vl false 1 (by omega) m2] at a
    exact a
  have E1ge : 0 ≤ rkM false 1 (vl false M * vl false (plW s)) (fL false + fL false) := by
    have a := rkM_mono false 1 (Int.mul_nonneg Mv p0) (fL false + fL false)
    rw [show rkM false 1 0 (fL false + fL false) = 0 by simp [rkM, mgM]] at a
    exact a
  obtain ⟨E1, hE1⟩ : ∃ E1, rkM false 1 (vl false M * vl false (plW s)) (fL false + fL false) = E1 := ⟨_, rfl⟩
  have worth : vl false M ≤ vl false E1 * ((2 ^ fP s : Nat) : Int) := by
    by_cases n0 : vl false M * vl false (plW s) = 0
    · have : vl false M = 0 := by
        rcases Int.mul_eq_zero.1 n0 with h | h
        · exact h
        · rw [h, Int.zero_mul] at pv
          have : K = 0 := pv.symm
          rw [this, Int.mul_zero] at le
          exfalso
          have k0 : K ≠ 0 := by
            intro _
            have := pl_vl s
            rw [h, Int.zero_mul] at this
            exact absurd this (by decide +kernel)
          exact k0 ‹K = 0›
      rw [this]
      have e0 := vl_mono false (show (0 : Int) ≤ E1 by omega)
      rw [show vl false 0 = 0 by simp [vl, val_zero]] at e0
      exact Int.mul_nonneg e0 (by omega)
    · have pos : 0 < vl false M * vl false (plW s) := by have := Int.mul_nonneg Mv p0; omega
      obtain ⟨z, a, b, d⟩ := mag_up false 1 false (fun o h l => by cases o <;> cases h <;> cases l <;> rfl) (show (vl false M * vl false (plW s)).natAbs ≠ 0 by omega) (fL false + fL false) (fL false + fL false) (Int.le_refl _) (by decide)
      have r : E1 = (z : Int) := by rw [← hE1]; unfold rkM mgM; rw [if_neg (by omega), if_neg (by omega), a]
      have d2 : (vl false M * vl false (plW s)).natAbs ≤ val false z * 2 ^ k1074 := by
        rcases d with d | d
        · omega
        · rw [show fL false + fL false - (fL false + fL false) = 0 by omega, show (fL false - (fL false + fL false)).toNat = k1074 by rfl] at d
          simpa using d
      have v : vl false E1 = (val false z : Int) := by rw [r]; unfold vl; rw [if_neg (by omega)]; simp
      have d3 : vl false M * vl false (plW s) ≤ vl false E1 * K := by
        have h2 : ((vl false M * vl false (plW s)).natAbs : Int) ≤ ((val false z * 2 ^ k1074 : Nat) : Int) := by exact_mod_cast d2
        rw [Int.natCast_mul, ← v] at h2
        have hK : K = ((2 ^ k1074 : Nat) : Int) := by rw [← pv]; exact pl_vl s
        rw [hK]
        omega
      rw [← pv, ← Int.mul_assoc, Int.mul_right_comm] at d3
      have pl0 : 0 < vl false (plW s) := by
        rcases (show vl false (plW s) = 0 ∨ 0 < vl false (plW s) by omega) with h | h
        · rw [h, Int.mul_zero] at pos; omega
        · exact h
      exact Int.le_of_mul_le_mul_right d3 pl0
  rw [hE1] at R E1lt E1ge
  have wy : Word (mulF false 1 G (plW s)) := mulF_word _ _ _ _
  obtain ⟨b3, z3, e3, hz3, v3⟩ := res_made R wy (by omega) (by omega)
  obtain ⟨l1, l2, lm⟩ := ls_mk s
  obtain ⟨b4, e4, v4⟩ := sg_mk (r := lsW s)
  rw [lm] at e4
  have S := add_rkM false 1 b3 b4 z3 (lsW s).natAbs hz3 (by omega)
  rw [v3, v4, ← e3, ← e4, ls_vl s] at S
  refine ⟨E1, _, R, by omega, by omega, S, fun hE => ?_⟩
  have up := up_ge false hE
  rw [← vM]
  generalize vl false (rkM false 1 (vl false E1 + (unF s : Int)) (fL false)) = VE at *
  have h := Int.mul_le_mul_of_nonneg_right up (show (0 : Int) ≤ ((2 ^ fP s : Nat) : Int) by omega)
  rw [Int.add_mul] at h
  omega
theorem add_nil {r q : Bool × Int × Int} (hr : liN r = true) (hq : liN q = true) : addP (false, r, []) (false, q, []) = if (sumP r q).2 = true then (false, (sumP r q).1, []) else whF := by
  have f1 := frB_mk (c := r) (ls := []) hr (by simp) (by simp [rT])
  have f2 := frB_mk (c := q) (ls := []) hq (by simp) (by simp [rT])
  unfold addP recP
  rw [f1, f2]
  by_cases c : (sumP r q).2 = true
  · rw [if_pos c, if_pos ⟨rfl, c, by simp [mg], by simp [mg, recL]⟩]
    simp [mg, recL]
  · rw [if_neg c, if_neg]
    rintro ⟨_, h, _⟩
    exact c h
theorem of_pt {X : Int} (x1 : -fI false < X) (x2 : X < fI false) : ofP' (false, mk false X, mk false X) = (false, (false, mk false X, mk false X), []) := by
  unfold ofP'
  rw [if_pos (mk_right x1 (Int.le_refl _) x2)]
theorem blur_math (s : Bool) {A B S n : Int} (a1 : -fI false < A) (a2 : A < fI false) (b1 : -fI false < B) (b2 : B < fI false) (s1 : -fI s < S) (s2 : S < fI s)
    (hn : S = rk s n (fL s)) (hv : vl false A + vl false B = n * (unF s : Int)) (f : Int) (fp : placeP f = plW s) (fl : leastP f = lsW s) (Y : Frm)
    (hY : Y = bluP (addP (ofP' (false, mk false A, mk false A)) (ofP' (false, mk false B, mk false B))) f (false, mk false (drk s S), mk false (drk s S))) :
    Y.2.2 = [] ∧ (Y.1 = false → frB Y = true ∧ Y.2.1.1 = false ∧ ∀ v, Res false v (drk s S) → hRF false false Y.2.1.2.1 Y.2.1.2.2 v = true) := by
  obtain ⟨X, hX⟩ : ∃ X, drk s S = X := ⟨_, rfl⟩
  obtain ⟨x1, x2, xv⟩ := drk_ok s s1 s2
  rw [hX] at x1 x2 xv hY ⊢
  rw [of_pt a1 a2, of_pt b1 b2, add_nil (mk_right a1 (Int.le_refl _) a2) (mk_right b1 (Int.le_refl _) b2), sumP_ends a1 (Int.le_refl _) a2 b1 (Int.le_refl _) b2] at hY
  have nX := mk_right x1 (Int.le_refl _) x2
  unfold bluP at hY
  rw [if_neg (by rw [(liN_R nX).1]; simp), if_neg (by simp)] at hY
  by_cases c : -fI false < aR 2 A B ∧ aR 2 A B ≤ aR 1 A B ∧ aR 1 A B < fI false
  case neg =>
    rw [if_neg c, if_neg (by simp)] at hY
    have : Y = whF := by rw [hY]; exact recP_wh1 _ _
    rw [this]
    exact ⟨rfl, fun h => by cases h⟩
  case pos =>
    rw [if_pos c] at hY
    simp only [if_true] at hY
    obtain ⟨lo, hlo⟩ : ∃ lo, aR 2 A B = lo := ⟨_, rfl⟩
    obtain ⟨hi, hhi⟩ : ∃ hi, aR 1 A B = hi := ⟨_, rfl⟩
    rw [hlo, hhi] at hY c
    unfold slkP at hY
    simp only [fp, fl] at hY
    obtain ⟨E1, E, R1, e10, e11, RE, worth⟩ := slack_res s x1 x2 0
    generalize hev : addF false 1 (mulF false 1 (greP (absF false (mk false X)) (absF false (mk false X))) (plW s)) (lsW s) = ev at *
    have wev : Word ev := by rw [← hev]; exact addF_word _ _ _ _ (mulF_word _ _ _ _) (ls_word s)
    by_cases d : liN (false, negF false ev, ev) = true
    case neg =>
      have : ofP' (false, negF false ev, ev) = whF := if_neg d
      rw [this] at hY
      have : Y = whF := by rw [hY]; exact recP_wh2 _ _
      rw [this]
      exact ⟨rfl, fun h => by cases h⟩
    case pos =>
      have o : ofP' (false, negF false ev, ev) = (false, (false, negF false ev, ev), []) := if_pos d
      have wne : Word (negF false ev) := by
        have := negF_word false ev wev
        exact this
      obtain ⟨r, q, r1, rq, q1, e⟩ := right_is ⟨wne, wev⟩ d
      simp only [Prod.mk.injEq, true_and] at e
      obtain ⟨en, ee⟩ := e
      have Eq : E = q := by
        rw [ee] at RE
        exact res_uniq RE (res_mk (by omega) q1)
      have rE : r = -q := by
        have h := neg_mk (s := false) (r := q) (by omega) (by omega)
        rw [← ee, en, plain_mk (by omega) (by omega)] at h
        exact mk_inj (by omega) (by omega) (by omega) (by omega) h
      subst Eq
      subst rE
      rw [o, en, ee, add_nil (mk_right c.1 c.2.1 c.2.2) (by rw [← en, ← ee]; exact d), sumP_ends c.1 c.2.1 c.2.2 r1 rq q1] at hY
      by_cases k : -fI false < aR 2 lo (-E) ∧ aR 2 lo (-E) ≤ aR 1 hi E ∧ aR 1 hi E < fI false
      case neg =>
        rw [if_neg k, if_neg (by simp)] at hY
        rw [hY]
        exact ⟨rfl, fun h => by cases h⟩
      case pos =>
        rw [if_pos k] at hY
        simp only [if_true] at hY
        rw [hY]
        refine ⟨rfl, fun _ => ⟨frB_mk (mk_right k.1 k.2.1 k.2.2) (by simp) (by simp [rT]), rfl, fun v hv' => ?_⟩⟩
        have w := worth q1
        have er := rk_err s (n := n) (by rw [← hn]; exact s1) (by rw [← hn]; exact s2)
        rw [← hn] at er
        have up := unF_pos s
        have pp := Nat.two_pow_pos (fP s)
        -- the ends are worth enough
        have h1 : vl false A + vl false B ≤ vl false hi := by
          rw [← hhi, aR_is a1 a2 b1 b2]
          rw [aR_is a1 a2 b1 b2] at hhi
          exact up_ge false (by rw [hhi]; exact c.2.2)
        have h2 : vl false lo ≤ vl false A + vl false B := by
          rw [← hlo, aR_is a1 a2 b1 b2]
          rw [aR_is a1 a2 b1 b2] at hlo
          exact down_le false (by rw [hlo]; exact c.1)
        have nE : vl false (-E) = -vl false E := by
          unfold vl
          rw [Int.natAbs_neg]
          by_cases z : E = 0
          · subst z; simp [val_zero]
          · split <;> split <;> omega
        generalize 2 ^ fP s = P at *
        generalize unF s = U at *
        rw [hv] at h1 h2
        have m1 : vl false X * (P : Int) ≤ (n * (U : Int) + vl false E) * (P : Int) ∧ (n * (U : Int) - vl false E) * (P : Int) ≤ vl false X * (P : Int) := by
          obtain ⟨g1, g2⟩ := er
          have g1' := Int.mul_le_mul_of_nonneg_right g1 (show (0 : Int) ≤ (U : Int) by omega)
          have g2' := Int.mul_le_mul_of_nonneg_right g2 (show (0 : Int) ≤ (U : Int) by omega)
          have ax : ((vl false X).natAbs : Int) = ((vl s S).natAbs : Int) * (U : Int) := by
            rw [xv, Int.natAbs_mul, Int.natAbs_natCast, Int.natCast_mul]
          rw [ax] at w
          rw [xv]
          simp only [Int.add_mul, Int.sub_mul] at *
          have c1 : vl s S * (U : Int) * (P : Int) = vl s S * (P : Int) * (U : Int) := Int.mul_right_comm _ _ _
          have c2 : n * (U : Int) * (P : Int) = n * (P : Int) * (U : Int) := Int.mul_right_comm _ _ _
          have c3 : (U : Int) * (P : Int) = (P : Int) * (U : Int) := Int.mul_comm _ _
          rw [c1, c2]
          rw [c3] at w
          constructor <;> omega
        have m2 : vl false X ≤ n * (U : Int) + vl false E := Int.le_of_mul_le_mul_right m1.1 (by omega)
        have m3 : n * (U : Int) - vl false E ≤ vl false X := Int.le_of_mul_le_mul_right m1.2 (by omega)
        have u1 : X ≤ aR 1 hi E := by
          rw [aR_is (by omega) c.2.2 (by omega) q1]
          have := rkM_mono false 1 (show vl false X ≤ vl false hi + vl false E by omega) (fL false)
          rw [rkM_vl false 1 x1 x2] at this
          exact this
        have u2 : aR 2 lo (-E) ≤ X := by
          rw [aR_is c.1 (by omega) r1 (by omega), nE]
          have := rkM_mono false 2 (show vl false lo + -vl false E ≤ vl false X by omega) (fL false)
          rw [rkM_vl false 2 x1 x2] at this
          exact this
        unfold hRF
        have t1 := res_mk (s := false) (r := aR 2 lo (-E)) k.1 (by omega)
        have t2 := res_mk (s := false) (r := aR 1 hi E) (by omega) k.2.2
        show (!false && (finF false v && (!lessF false v (mk false (aR 2 lo (-E))) && !lessF false (mk false (aR 1 hi E)) v))) = true
        rw [lj_fin hv', lj_less hv' t1, lj_less t2 hv', decide_eq_true (show -fI false < X ∧ X < fI false from ⟨x1, x2⟩), decide_eq_false (show ¬ X < aR 2 lo (-E) by omega), decide_eq_false (show ¬ aR 1 hi E < X by omega)]
        rfl
end Go.Proofs.YteafnkimcidkhaaGreat


namespace Go.Proofs.YteafnkimcidkhaaGreat
open Go.RowKit
set_option linter.unusedVariables false
set_option linter.unusedSimpArgs false
set_option maxHeartbeats 1600000 in
theorem rbits3_any (X : Nat) (hX : X < 18446744073709551616) (w : World) :
    Calls Tryz.prog 125 #[.int .u64 (X : Int)] w fun e w' => ∃ v, e = .returned v ∧ w'.ownsRow w.heap.size 4 1 v (blen X) (Bl (blen X) X) ∧ Below w.heap.size w w' := by
  obtain ⟨i0, hi, hz0, hz1, hz2⟩ := info_parts Tryz.infoB
  go_enter Tryz.func125, Tryz.ntmps125
  go_wp2
  go_loopw [0, 3] (fun x v wr => ∃ k : Nat, k ≤ 64 ∧ x = .int .u64 ((X / 2 ^ k : Nat) : Int) ∧ wr.ownsRow w.heap.size 4 1 v k (Bl k X) ∧ (k = 0 ∨ X / 2 ^ (k - 1) ≠ 0) ∧ Below w.heap.size w wr) (fun x _ _ => (intOf x).toNat)
  case atStart => exact ⟨0, by omega, by simp, World.ownsRow_nil _ _ _ _, Or.inl rfl, Below.refl _ _⟩
  case round =>
    obtain ⟨k, hk, rfl, hown, hpos, hb⟩ := hrel
    have hlt : X / 2 ^ k < 18446744073709551616 := Nat.lt_of_le_of_lt (Nat.div_le_self _ _) hX
    by_cases z : X / 2 ^ k = 0
    · have e : blen X = k := by
        rcases hpos with rfl | hp
        · rw [Nat.pow_zero, Nat.div_one] at z
          subst z
          exact blen_zero
        · have k1 : 1 ≤ k := by
            rcases Nat.eq_zero_or_pos k with rfl | h
            · exact absurd z hp
            · exact h
          refine blen_uniq k1 ?_ ?_
          · by_cases c : 2 ^ (k - 1) ≤ X
            · exact c
            · exact absurd (Nat.div_eq_of_lt (by omega)) hp
          · exact Nat.lt_of_div_eq_zero (Nat.two_pow_pos k) z
      have E : Hid _ := e
      rw [z]
      clear e z hpos hlt
      go_wp2
      go_ret
      exact ⟨_, rfl, by rw [E.out]; exact hown, hb⟩
    · have kl : k < 64 := by
        by_cases c : k < 64
        · exact c
        · exfalso
          apply z
          exact Nat.div_eq_of_lt (Nat.lt_of_lt_of_le hX (by rw [show (18446744073709551616 : Nat) = 2 ^ 64 from rfl]; exact Nat.pow_le_pow_right (by decide) (by omega)))
      have zp : (0 : Int) < ((X / 2 ^ k : Nat) : Int) := Int.natCast_pos.2 (Nat.pos_of_ne_zero z)
      have zp' : ((X / 2 ^ k : Nat) : Int) < 18446744073709551616 := Int.ofNat_lt.2 hlt
      have q1 : (((X / 2 ^ k : Nat) : Int) % 2 == 1) = X.testBit k := by
        rw [Nat.testBit_eq_decide_div_mod_eq, Bool.eq_iff_iff, beq_iff_eq, decide_eq_true_iff]
        generalize X / 2 ^ k = d
        omega
      have q2 : Hid (((X / 2 ^ k : Nat) : Int) / 2 = ((X / 2 ^ (k + 1) : Nat) : Int)) := by
        rw [Nat.pow_succ, ← Nat.div_div_eq_div_mul]; rfl
      have Z : Hid _ := z
      clear z hlt
      generalize hD : ((X / 2 ^ k : Nat) : Int) = D at *
      have HD : Hid _ := hD
      clear hD
      go_wp2_with (first
        | (at_builtin; refine wpList_append_own _ rfl _ _ 116 rfl w.heap.size 4 i0 (.bool false) 1 1 Tryz.underlying116 hi hz0 hz1 hz2 rfl (by decide) _ _ _ rfl (hown.alloc _) ⟨wr.heap.size, 0, none⟩ 1 1 [.bool (X.testBit k)] rfl rfl ?c1 ?c2 ?c3 ?c4 ?c5 ?_)
        | go_in)
      case c1 =>
        intro j u hj
        match j, hj with
        | 0, hj => simp at hj; subst hj; simp [Addr.add]
      case c2 => intro u hu; simp at hu; subst hu; rfl
      case c3 => unfold maxLen; omega
      case c4 => omega
      case c5 => have := hb.size; simp; omega
      · intro v' w1 hown' hgrow _
        rw [Bl_snoc] at hown'
        have hb' := (hb.alloc hb.size _).grown hgrow (by have := hb.size; simp; omega) (own_block hown)
        clear hgrow hown
        go_wp2
        go_roundw
        case rel => exact ⟨k + 1, by omega, by rw [← q2.out], hown', Or.inr (by simpa using Z.out), hb'⟩
        case measure => simp [intOf]; omega
theorem rvalue3_any (s : Bool) (a : Int) (h : Word a) (hw : wideB s a = false) (w : World) : Calls Tryz.prog 130 #[.int .i64 (fb s), .int .u64 a] w fun e w' => e = .returned (.tuple #[.int .u64 (whl s a), .int .i64 (pwr s a)]) ∧ w' = w.drew := by
  have h1 := h.1
  have h2 := h.2
  cases s
  · have hs := rsize_d
    have n1 : bits BinOp.and IntKind.u64 (a / 4503599627370496) 2047 = xpo false a := and_bits (a / 4503599627370496).toNat 11 2047 rfl (by decide) _ (by omega) (by omega)
    have n2 : bits BinOp.and IntKind.u64 a 4503599627370495 = a % 4503599627370496 := and_bits a.toNat 52 4503599627370495 rfl (by decide) _ (by omega) (by omega)
    have e1 : zOf false a / 2 ^ fP false = xpo false a := by
      rw [zOf_double a h]
      show a % 9223372036854775808 / 4503599627370496 = a / 4503599627370496 % 2048
      omega
    have x0 : 0 ≤ xpo false a ∧ xpo false a < 2048 := by
      show 0 ≤ a / 4503599627370496 % 2048 ∧ a / 4503599627370496 % 2048 < 2048
      omega
    have hwh : whl false a = if 0 < xpo false a then a % 4503599627370496 + 4503599627370496 else a % 4503599627370496 := by unfold whl; rw [e1]; rfl
    have hpw : pwr false a = if 0 < xpo false a then -1074 + (xpo false a - 1) else -1074 := by unfold pwr; rw [e1]; rfl
    have om : bits BinOp.or IntKind.u64 (a % 4503599627370496) 4503599627370496 = a % 4503599627370496 + 4503599627370496 := by
      obtain ⟨x, hx⟩ : ∃ x : Nat, a % 4503599627370496 = x := ⟨(a % 4503599627370496).toNat, by omega⟩
      rw [hx]
      have t := u64_or_nat x 4503599627370496 (by omega) (by decide)
      have o := Nat.two_pow_add_eq_or_of_lt (i := 52) (b := x) (by omega) 1
      rw [Nat.mul_one, Nat.or_comm] at o
      rw [show (4503599627370496 : Nat) = 2 ^ 52 from rfl, ← o] at t
      exact t.trans (by rw [show (2 : Nat) ^ 52 = 4503599627370496 from rfl]; omega)
    show Calls Tryz.prog 130 #[.int .i64 0, .int .u64 a] w _
    rw [hwh, hpw]
    clear hwh hpw e1
    have om2 : a % 4503599627370496 + 4503599627370496 < 18446744073709551616 := by omega
    generalize xpo false a = X at *
    obtain ⟨x0, x1⟩ := x0
    generalize a % 4503599627370496 = M at *
    by_cases c : X = 0
    · subst c
      rw [if_neg (by decide), if_neg (by decide)]
      go_enter Tryz.func130, Tryz.ntmps130
      go_wp2_with (go_at_call 126; refine (hs _).mono ?_; rintro e w1 ⟨rfl, rfl⟩)
      go_region
      go_wp2_with fail
      exact bodyPost_ret (v := .tuple #[.int .u64 M, .int .i64 (-1074)]) (by simp [results, Tryz.results130, go_sem]) rfl ⟨rfl, rfl⟩
    · rw [if_pos (by omega), if_pos (by omega)]
      have c' : (X == 0) = false := by simp [c]
      have e3 : X - 1 + -1074 = -1074 + (X - 1) := by omega
      generalize M + 4503599627370496 = MM at *
      go_enter Tryz.func130, Tryz.ntmps130
      go_wp2_with (go_at_call 126; refine (hs _).mono ?_; rintro e w1 ⟨rfl, rfl⟩)
      go_region
      go_wp2_with fail
      refine bodyPost_ret (v := .tuple #[.int .u64 MM, .int .i64 (-1074 + (X - 1))]) ?_ rfl ⟨rfl, rfl⟩
      simp [results, Tryz.results130, go_sem]
      try omega
  · have a3 : a < 4294967296 := by unfold wideB at hw; simp at hw; exact hw
    have hs := rsize_s
    have n1 : bits BinOp.and IntKind.u64 (a / 8388608) 255 = xpo true a := and_bits (a / 8388608).toNat 8 255 rfl (by decide) _ (by omega) (by omega)
    have n2 : bits BinOp.and IntKind.u64 a 8388607 = a % 8388608 := and_bits a.toNat 23 8388607 rfl (by decide) _ (by omega) (by omega)
    have e1 : zOf true a / 2 ^ fP true = xpo true a := by
      rw [zOf_single a h1 a3]
      show a % 2147483648 / 8388608 = a / 8388608 % 256
      omega
    have x0 : 0 ≤ xpo true a ∧ xpo true a < 256 := by
      show 0 ≤ a / 8388608 % 256 ∧ a / 8388608 % 256 < 256
      omega
    have hwh : whl true a = if 0 < xpo true a then a % 8388608 + 8388608 else a % 8388608 := by unfold whl; rw [e1]; rfl
    have hpw : pwr true a = if 0 < xpo true a then -149 + (xpo true a - 1) else -149 := by unfold pwr; rw [e1]; rfl
    have om : bits BinOp.or IntKind.u64 (a % 8388608) 8388608 = a % 8388608 + 8388608 := by
      obtain ⟨x, hx⟩ : ∃ x : Nat, a % 8388608 = x := ⟨(a % 8388608).toNat, by omega⟩
      rw [hx]
      have t := u64_or_nat x 8388608 (by omega) (by decide)
      have o := Nat.two_pow_add_eq_or_of_lt (i := 23) (b := x) (by omega) 1
      rw [Nat.mul_one, Nat.or_comm] at o
      rw [show (8388608 : Nat) = 2 ^ 23 from rfl, ← o] at t
      exact t.trans (by rw [show (2 : Nat) ^ 23 = 8388608 from rfl]; omega)
    show Calls Tryz.prog 130 #[.int .i64 1, .int .u64 a] w _
    rw [hwh, hpw]
    clear hwh hpw e1
    have om2 : a % 8388608 + 8388608 < 18446744073709551616 := by omega
    generalize xpo true a = X at *
    obtain ⟨x0, x1⟩ := x0
    generalize a % 8388608 = M at *
    by_cases c : X = 0
    · subst c
      rw [if_neg (by decide), if_neg (by decide)]
      go_enter Tryz.func130, Tryz.ntmps130
      go_wp2_with (go_at_call 126; refine (hs _).mono ?_; rintro e w1 ⟨rfl, rfl⟩)
      go_region
      go_wp2_with fail
      exact bodyPost_ret (v := .tuple #[.int .u64 M, .int .i64 (-149)]) (by simp [results, Tryz.results130, go_sem]) rfl ⟨rfl, rfl⟩
    · rw [if_pos (by omega), if_pos (by omega)]
      have c' : (X == 0) = false := by simp [c]
      have e3 : X - 1 + -149 = -149 + (X - 1) := by omega
      generalize M + 8388608 = MM at *
      go_enter Tryz.func130, Tryz.ntmps130
      go_wp2_with (go_at_call 126; refine (hs _).mono ?_; rintro e w1 ⟨rfl, rfl⟩)
      go_region
      go_wp2_with fail
      refine bodyPost_ret (v := .tuple #[.int .u64 MM, .int .i64 (-149 + (X - 1))]) ?_ rfl ⟨rfl, rfl⟩
      simp [results, Tryz.results130, go_sem]
      try omega
theorem kinds3T (k : Int) : ((k == 0 || k == 5) = true ∧ (k == 4) = false ∧ k = 0) ∨ ((k == 0 || k == 5) = true ∧ (k == 4) = false ∧ k = 5) ∨ ((k == 0 || k == 5) = false ∧ (k == 4) = true ∧ k = 4) ∨ ((k == 0 || k == 5) = false ∧ (k == 4) = false ∧ (k == 0) = false ∧ (k == 5) = false ∧ k ≠ 4) := by
  by_cases c1 : k = 0
  · subst c1; decide
  · by_cases c2 : k = 5
    · subst c2; decide
    · by_cases c3 : k = 4
      · subst c3; decide
      · simp [c1, c2, c3]
theorem wide_notT {s : Bool} {a : Int} (h : (cls s a == 0 || cls s a == 5) = false) : wideB s a = false := by
  cases c : wideB s a
  · rfl
  · exfalso
    have : cls s a = 0 := by unfold cls; rw [c]; rfl
    rw [this] at h
    exact absurd h (by decide)
set_option maxRecDepth 8000 in
set_option maxHeartbeats 3200000 in
theorem rturned_any (s t : Bool) (m a : Int) (h : Word a) (w : World) :
    Calls Tryz.prog 98 #[.int .i64 (fb s), .int .i64 (fb t), .int .i64 m, .int .u64 a] w fun e w' => e = .returned (.int .u64 (cvtF s t m a)) ∧ Below w.heap.size w w' := by
  have hcl := rclass_any s a h
  have hnan := rnan_any t
  have hbl := rbelow_any s a
  have hinf := rinf_any t (sgn s a)
  have hv := fun h' => rvalue3_any s a h (wide_notT h')
  have hfin := fin_of s a h
  have hrd := fun (v : Value) (n A : Nat) => rounded_any t m (sgn s a) v n A
  have K := kinds3T (cls s a)
  unfold cvtF
  generalize hN : (cls s a == 0 || cls s a == 5) = N1 at *
  generalize hI : (cls s a == 4) = I1 at *
  generalize cls s a = k at *
  generalize sgn s a = b at *
  generalize sgnd t b (fI t) = VI at *
  generalize fNan t = Q at *
  generalize hft : fb t = ft at *
  generalize hfs : fb s = fs at *
  clear hN hI
  rcases K with ⟨rfl, rfl, rfl⟩ | ⟨rfl, rfl, rfl⟩ | ⟨rfl, rfl, rfl⟩ | ⟨rfl, rfl, k0, k5, k4⟩
  case inr.inr.inr =>
    have k4' : (k == 4) = false := by simp [k4]
    have F1 := fin_wordC (hfin rfl rfl).1
    have v1 := hv rfl
    clear hv hfin hnan hinf
    simp only [Bool.false_eq_true, if_false]
    generalize whl s a = u at *
    generalize pwr s a = p at *
    obtain ⟨a1, a2, a3, a4⟩ := F1
    obtain ⟨X, rfl⟩ := Int.eq_ofNat_of_zero_le a1.1
    rw [Int.toNat_natCast]
    have hX := lt_blen X
    have lX : blen X ≤ 53 := blen_le_of (by omega : X < 2 ^ 53)
    have hbX : ∀ w : World, Calls Tryz.prog 125 #[.int .u64 (X : Int)] w fun e w' => ∃ v, e = .returned v ∧ BitV w' v (blen X) X ∧ Below w.heap.size w w' := fun w => (rbits3_any X (by omega) w).mono fun e w' ⟨v, h1, h2, h3⟩ => ⟨v, h1, own_bits h2 hX, h3⟩
    obtain ⟨V, hV⟩ : ∃ V : Int, rnd t m b X p = V := ⟨_, rfl⟩
    have hR : ∀ v w, BitV w v (blen X) X → Calls Tryz.prog 93 #[.int .i64 ft, .int .i64 m, .bool b, v, .int .i64 p] w fun r w' => r = .returned (.int .u64 V) ∧ ∃ k, w' = w.drewN k := fun v w hb => by
      rw [← hV]
      exact hrd v (blen X) X (by omega) p (by omega) (by omega) w hb
    rw [hV]
    clear hrd hV hX
    generalize blen X = nX at *
    go_enter Tryz.func98, Tryz.ntmps98
    go_wp2_with (first
      | (go_at_call 85; refine (hcl _).mono ?_; rintro e w1 ⟨rfl, n1, rfl⟩)
      | (go_at_call 130; refine (v1 _).mono ?_; rintro e w1 ⟨rfl, rfl⟩)
      | (go_at_call 86; refine (hbl _).mono ?_; rintro e w1 ⟨rfl, hw⟩; rw [hw]; clear hw w1)
      | (go_at_call 125; refine (hbX _).mono ?_; rintro e w2 ⟨v, rfl, bv, L2⟩)
      | (go_at_call 93; refine (hR v _ bv).mono ?_; rintro e w3 ⟨rfl, k3, rfl⟩)
      | fail)
    go_ret
    exact ⟨rfl, below_dN (below_callC (below_dN (Below.refl _ _) _) L2) _⟩
  all_goals
    clear hrd hv hfin
    go_enter Tryz.func98, Tryz.ntmps98
    go_wp2_with (first
      | (go_at_call 85; refine (hcl _).mono ?_; rintro e w1 ⟨rfl, n1, rfl⟩)
      | (go_at_call 89; refine (hnan _).mono ?_; rintro e w1 ⟨rfl, rfl⟩)
      | (go_at_call 86; refine (hbl _).mono ?_; rintro e w1 ⟨rfl, hw⟩; rw [hw]; clear hw w1)
      | (go_at_call 116; refine (hinf _).mono ?_; rintro e w1 ⟨rfl, n2, rfl⟩)
      | fail)
    go_ret
    exact ⟨rfl, below_dN (Below.refl _ _) _⟩
theorem rwiden_any (a : Int) (h : Word a) (w : World) : Calls Tryz.prog 46 #[.int .u64 a] w fun e w' => e = .returned (.int .u64 (cvtF true false 0 a)) ∧ Below w.heap.size w w' := by
  have ht : ∀ w, Calls Tryz.prog 98 #[.int .i64 1, .int .i64 0, .int .i64 0, .int .u64 a] w fun e w' => e = .returned (.int .u64 (cvtF true false 0 a)) ∧ Below w.heap.size w w' := rturned_any true false 0 a h
  generalize cvtF true false 0 a = V at *
  go_enter Tryz.func46, Tryz.ntmps46
  go_wp2_with (go_at_call 98; refine (ht _).mono ?_; rintro e w1 ⟨rfl, b1⟩)
  go_ret
  exact ⟨rfl, b1⟩
end Go.Proofs.YteafnkimcidkhaaGreat


namespace Go.Proofs.YteafnkimcidkhaaGreat
open Go.RowKit
set_option linter.unusedVariables false
set_option linter.unusedSimpArgs false
theorem bl_of_res {v r : Int} (h : Res false v r) (h1 : -fI false < r) (h2 : r < fI false) : rOfF false v v = (false, mk false r, mk false r) := by
  rw [← of_same]
  unfold ofP
  rw [show (WyF false).pl v = mk false r from h.pl]
  exact if_pos (liN_R (mk_right h1 (Int.le_refl _) h2)).1
theorem add_pts {A B : Int} (a1 : -fI false < A) (a2 : A < fI false) (b1 : -fI false < B) (b2 : B < fI false) : (addP (ofP' (false, mk false A, mk false A)) (ofP' (false, mk false B, mk false B))).2.2 = [] := by
  rw [of_pt a1 a2, of_pt b1 b2, add_nil (mk_right a1 (Int.le_refl _) a2) (mk_right b1 (Int.le_refl _) b2)]
  split <;> rfl
theorem eva_nil {Y : Frm} (h : frB Y = true) (hn : Y.2.2 = []) : evaP Y [] = (Y.2.1, true) := by
  unfold evaP
  rw [hn, h]
  simp [evL]
theorem kfin (s : Bool) (f a : Int) (hf : f = fb s) (h : Word a) {x : Bool} (hx : finF s a = x) (V : World) : Calls Tryz.prog 44 #[.int .i64 f, .int .u64 a] V fun e w' => e = .returned (.bool x) ∧ Below V.heap.size V w' := by
  subst hf hx
  refine (rfinite_any s a h V).mono fun e w' k => ⟨k.1, ?_⟩
  obtain ⟨n, rfl⟩ := k.2
  exact lj_dN _ _
theorem lkb_sl {F : Frm} {n : Nat} {e : Ending} {w' : World} (h : Told F n e w') : ∃ p c, e = .returned (.agg #[.bool F.1, .bool F.2.1.1, .int .u64 F.2.1.2.1, .int .u64 F.2.1.2.2, .slice p F.2.2.length c]) ∧ TAt w' (.slice p F.2.2.length c) F.2.2 := by
  obtain ⟨rv, he, ht, _⟩ := h
  obtain ⟨p, c, rfl⟩ := ht.len
  exact ⟨p, c, he, ht⟩
theorem told_nil {F : Frm} (hF : F.2.2 = []) {n : Nat} {e : Ending} {w' : World} (h : Told F n e w') : ∃ p c, e = .returned (.agg #[.bool F.1, .bool F.2.1.1, .int .u64 F.2.1.2.1, .int .u64 F.2.1.2.2, .slice p 0 c]) ∧ TAt w' (.slice p 0 c) [] := by
  obtain ⟨p, c, h1, h2⟩ := lkb_sl h
  rw [hF] at h1 h2
  exact ⟨p, c, h1, h2⟩
theorem blur_facts (s : Bool) (f : Int) (fp : placeP f = plW s) (fl : leastP f = lsW s) {a b : Int} (wa : Word a) (wb : Word b) (fa : finF s a = true) (fb' : finF s b = true) (fs : finF s (addF s 0 a b) = true) :
    ∃ A B X : Int, (-fI false < A ∧ A < fI false) ∧ (-fI false < B ∧ B < fI false) ∧ (-fI false < X ∧ X < fI false) ∧ rOfF false (wdn1 s a) (wdn1 s a) = (false, mk false A, mk false A) ∧ rOfF false (wdn1 s b) (wdn1 s b) = (false, mk false B, mk false B) ∧ rOfF false (wdn1 s (addF s 0 a b)) (wdn1 s (addF s 0 a b)) = (false, mk false X, mk false X) ∧
      ∀ Y : Frm, Y = bluP (addP (ofP' (false, mk false A, mk false A)) (ofP' (false, mk false B, mk false B))) f (false, mk false X, mk false X) → Y.2.2 = [] ∧ (Y.1 = false → frB Y = true ∧ Y.2.1.1 = false ∧ hRF false false Y.2.1.2.1 Y.2.1.2.2 (wdn1 s (addF s 0 a b)) = true) := by
  have wS : Word (addF s 0 a b) := addF_word _ _ _ _ wa wb
  obtain ⟨ra, Ra, ra1, ra2⟩ := res_num wa fa
  obtain ⟨rb, Rb, rb1, rb2⟩ := res_num wb fb'
  obtain ⟨rs, Rs, rs1, rs2⟩ := res_num wS fs
  obtain ⟨ba, za, ea, hza, va⟩ := res_made Ra wa ra1 ra2
  obtain ⟨bb, zb, eb, hzb, vb⟩ := res_made Rb wb rb1 rb2
  have R := add_rk s ba bb za zb hza hzb
  rw [← ea, ← eb, va, vb] at R
  have hn : rs = rk s (vl s ra + vl s rb) (fL s) := res_uniq Rs R
  obtain ⟨A1, A2, vA⟩ := drk_ok s ra1 ra2
  obtain ⟨B1, B2, vB⟩ := drk_ok s rb1 rb2
  obtain ⟨X1, X2, vX⟩ := drk_ok s rs1 rs2
  have DA := wdn1_res s Ra wa ra1 ra2
  have DB := wdn1_res s Rb wb rb1 rb2
  have DS := wdn1_res s Rs wS rs1 rs2
  refine ⟨drk s ra, drk s rb, drk s rs, ⟨A1, A2⟩, ⟨B1, B2⟩, ⟨X1, X2⟩, bl_of_res DA A1 A2, bl_of_res DB B1 B2, bl_of_res DS X1 X2, fun Y hY => ?_⟩
  obtain ⟨m1, m2⟩ := blur_math s A1 A2 B1 B2 rs1 rs2 hn (by rw [vA, vB, Int.add_mul]) f fp fl Y hY
  exact ⟨m1, fun h => ⟨(m2 h).1, (m2 h).2.1, (m2 h).2.2 _ DS⟩⟩
theorem wdn1_word (s : Bool) {x : Int} (h : Word x) : Word (wdn1 s x) := by
  cases s
  · exact h
  · exact bk_word true false 0 x
theorem law_blurs_s (s : Bool) (f : Int) (hf : f = fb s) (fp : placeP f = plW s) (fl : leastP f = lsW s) (a b : Int) (wa : Word a) (wb : Word b) (fa : finF s a = true) (fb' : finF s b = true) (fs : finF s (addF s 0 a b) = true) :
    ∃ (r1 r2 r3 : Bool × Int × Int) (P Q X Y : Frm),
      (∀ V, Calls Tryz.prog 42 #[.int .i64 0, .int .u64 (wdn1 s a), .int .u64 (wdn1 s a)] V fun e w' => e = .returned (.agg #[.bool r1.1, .int .u64 r1.2.1, .int .u64 r1.2.2]) ∧ Below V.heap.size V w') ∧
      (∀ V, Calls Tryz.prog 42 #[.int .i64 0, .int .u64 (wdn1 s b), .int .u64 (wdn1 s b)] V fun e w' => e = .returned (.agg #[.bool r2.1, .int .u64 r2.2.1, .int .u64 r2.2.2]) ∧ Below V.heap.size V w') ∧
      (∀ V, Calls Tryz.prog 42 #[.int .i64 0, .int .u64 (wdn1 s (addF s 0 a b)), .int .u64 (wdn1 s (addF s 0 a b))] V fun e w' => e = .returned (.agg #[.bool r3.1, .int .u64 r3.2.1, .int .u64 r3.2.2]) ∧ Below V.heap.size V w') ∧
      (∀ V, Calls Tryz.prog 20 #[.agg #[.bool r1.1, .int .u64 r1.2.1, .int .u64 r1.2.2]] V fun e w' => e = .returned (.agg #[.bool P.1, .bool P.2.1.1, .int .u64 P.2.1.2.1, .int .u64 P.2.1.2.2, .slice none 0 0]) ∧ Below V.heap.size V w') ∧
      (∀ V, Calls Tryz.prog 20 #[.agg #[.bool r2.1, .int .u64 r2.2.1, .int .u64 r2.2.2]] V fun e w' => e = .returned (.agg #[.bool Q.1, .bool Q.2.1.1, .int .u64 Q.2.1.2.1, .int .u64 Q.2.1.2.2, .slice none 0 0]) ∧ Below V.heap.size V w') ∧
      (∀ V, Calls Tryz.prog 29 #[.agg #[.bool P.1, .bool P.2.1.1, .int .u64 P.2.1.2.1, .int .u64 P.2.1.2.2, .slice none 0 0], .agg #[.bool Q.1, .bool Q.2.1.1, .int .u64 Q.2.1.2.1, .int .u64 Q.2.1.2.2, .slice none 0 0]] V fun e w' => (∃ p c, e = .returned (.agg #[.bool X.1, .bool X.2.1.1, .int .u64 X.2.1.2.1, .int .u64 X.2.1.2.2, .slice p 0 c]) ∧ TAt w' (.slice p 0 c) []) ∧ Below V.heap.size V w') ∧
      (∀ V v, TAt V v [] → Calls Tryz.prog 39 #[.agg #[.bool X.1, .bool X.2.1.1, .int .u64 X.2.1.2.1, .int .u64 X.2.1.2.2, v], .int .i64 f, .agg #[.bool r3.1, .int .u64 r3.2.1, .int .u64 r3.2.2]] V fun e w' => (∃ p c, e = .returned (.agg #[.bool Y.1, .bool Y.2.1.1, .int .u64 Y.2.1.2.1, .int .u64 Y.2.1.2.2, .slice p 0 c]) ∧ TAt w' (.slice p 0 c) []) ∧ Below V.heap.size V w') ∧
      (Y.1 = false → ∀ V v, TAt V v [] → Calls Tryz.prog 35 #[.agg #[.bool Y.1, .bool Y.2.1.1, .int .u64 Y.2.1.2.1, .int .u64 Y.2.1.2.2, v], .slice none 0 0] V fun e w' => e = .returned (.tuple #[.agg #[.bool Y.2.1.1, .int .u64 Y.2.1.2.1, .int .u64 Y.2.1.2.2], .bool true]) ∧ Below V.heap.size V w') ∧
      (Y.1 = false → ∀ V, Calls Tryz.prog 41 #[.int .i64 0, .agg #[.bool Y.2.1.1, .int .u64 Y.2.1.2.1, .int .u64 Y.2.1.2.2], .int .u64 (wdn1 s (addF s 0 a b))] V fun e w' => e = .returned (.bool true) ∧ Below V.heap.size V w') := by
  obtain ⟨A, B, X, ⟨A1, A2⟩, ⟨B1, B2⟩, ⟨X1, X2⟩, oA, oB, oX, hY⟩ := blur_facts s f fp fl wa wb fa fb' fs
  have wS : Word (addF s 0 a b) := addF_word _ _ _ _ wa wb
  obtain ⟨y1, y2⟩ := hY _ rfl
  have wdA : wdR (false, mk false A, mk false A) := ⟨mk_word (by omega) (by omega), mk_word (by omega) (by omega)⟩
  have wdB : wdR (false, mk false B, mk false B) := ⟨mk_word (by omega) (by omega), mk_word (by omega) (by omega)⟩
  have wdX : wdR (false, mk false X, mk false X) := ⟨mk_word (by omega) (by omega), mk_word (by omega) (by omega)⟩
  have okA := ofP_ok' wdA
  have okB := ofP_ok' wdB
  have okX := addP_ok okA okB
  have nA : (ofP' (false, mk false A, mk false A)).2.2 = [] := by rw [of_pt A1 A2]
  have nB : (ofP' (false, mk false B, mk false B)).2.2 = [] := by rw [of_pt B1 B2]
  have nX := add_pts A1 A2 B1 B2
  have okY : fOk (bluP (addP (ofP' (false, mk false A, mk false A)) (ofP' (false, mk false B, mk false B))) f (false, mk false X, mk false X)) := by
    unfold bluP
    split
    · exact ⟨⟨word_0, word_0⟩, (fun t h => by simp [whF] at h), by simp [whF]⟩
    · split
      · exact addP_ok okX ⟨⟨word_0, word_0⟩, (fun t h => by simp [zrF] at h), by simp [zrF]⟩
      · exact addP_ok okX (ofP_ok' ⟨negF_word _ _ (slk_word _ _ wdX), slk_word _ _ wdX⟩)
  have tn : ∀ V, TAt V (.slice none 0 0) ([] : List (Int × Bool × Int × Int)) := fun V => Or.inl ⟨rfl, rfl⟩
  refine ⟨_, _, _, ofP' (false, mk false A, mk false A), ofP' (false, mk false B, mk false B), addP (ofP' (false, mk false A, mk false A)) (ofP' (false, mk false B, mk false B)), _, fun V => ?_, fun V => ?_, fun V => ?_, fun V => form_of (false, mk false A, mk false A) wdA V, fun V => form_of (false, mk false B, mk false B) wdB V,
    fun V => (form_add _ _ okA okB _ _ V (by rw [nA]; exact tn V) (by rw [nB]; exact tn V)).mono fun e w' k => ⟨told_nil nX k.1, k.2⟩,
    fun V v h => (form_blur _ okX f (false, mk false X, mk false X) wdX v V (by rw [nX]; exact h)).mono fun e w' k => ⟨told_nil y1 k.1, k.2⟩, fun h V v tv => ?_, fun h V => ?_⟩
  · have := rofF_any false (wdn1 s a) (wdn1 s a) (wdn1_word s wa) (wdn1_word s wa) V
    rw [oA] at this
    exact this
  · have := rofF_any false (wdn1 s b) (wdn1 s b) (wdn1_word s wb) (wdn1_word s wb) V
    rw [oB] at this
    exact this
  · have := rofF_any false (wdn1 s (addF s 0 a b)) (wdn1 s (addF s 0 a b)) (wdn1_word s wS) (wdn1_word s wS) V
    rw [oX] at this
    exact this
  · have := form_eval _ okY [] (fun r k => by cases k) v (.slice none 0 0) V (by rw [y1]; exact tv) (Or.inl ⟨rfl, rfl⟩)
    rw [eva_nil (y2 h).1 y1] at this
    exact this
  · obtain ⟨z1, z2, z3⟩ := y2 h
    have := rhasF_any false false _ _ (wdn1 s (addF s 0 a b)) okY.1.1 okY.1.2 (wdn1_word s wS) V
    rw [z3] at this
    rw [z2]
    exact this
theorem lb1 (a b : Int) (wa : Word a) (wb : Word b) (fa : finF true a = false) (w : World) : Calls Tryz.prog 9 #[.int .i64 1, .int .u64 a, .int .u64 b] w fun e w' => e = .returned (.bool true) ∧ Below w.heap.size w w' := bl_n1_1 a b (fun V => kfin true 1 a rfl wa fa V) lilive_any w
theorem lb2 (a b : Int) (wa : Word a) (wb : Word b) (fa : finF true a = true) (fb' : finF true b = false) (w : World) : Calls Tryz.prog 9 #[.int .i64 1, .int .u64 a, .int .u64 b] w fun e w' => e = .returned (.bool true) ∧ Below w.heap.size w w' := bl_n2_1 a b (fun V => kfin true 1 a rfl wa fa V) (fun V => kfin true 1 b rfl wb fb' V) lilive_any w
theorem lb3 (a b : Int) (wa : Word a) (wb : Word b) (fa : finF true a = true) (fb' : finF true b = true) (fs : finF true (addF true 0 a b) = false) (w : World) : Calls Tryz.prog 9 #[.int .i64 1, .int .u64 a, .int .u64 b] w fun e w' => e = .returned (.bool true) ∧ Below w.heap.size w w' := bl_n3_1 a b _ (fun V => kfin true 1 a rfl wa fa V) (fun V => kfin true 1 b rfl wb fb' V) (fun V => raddF_any true 0 a b wa wb V) (fun V => kfin true 1 _ rfl (addF_word _ _ _ _ wa wb) fs V) lilive_any w
theorem lb4 (a b : Int) (wa : Word a) (wb : Word b) (fa : finF true a = true) (fb' : finF true b = true) (fs : finF true (addF true 0 a b) = true) (w : World) : Calls Tryz.prog 9 #[.int .i64 1, .int .u64 a, .int .u64 b] w fun e w' => e = .returned (.bool true) ∧ Below w.heap.size w w' := by
  have wS := addF_word true 0 a b wa wb
  obtain ⟨r1, r2, r3, P, Q, X, Y, k1, k2, k3, k4, k5, k6, k7, k8, k9⟩ := law_blurs_s true 1 rfl (by simp [placeP, plW]) (by simp [leastP, lsW]) a b wa wb fa fb' fs
  exact bl_ok_1 a b (addF true 0 a b) (wdn1 true a) (wdn1 true b) (wdn1 true (addF true 0 a b)) r1.1 r2.1 r3.1 Y.2.1.1 r1.2.1 r1.2.2 r2.2.1 r2.2.2 r3.2.1 r3.2.2 Y.2.1.2.1 Y.2.1.2.2 P.1 P.2.1.1 Q.1 Q.2.1.1 X.1 X.2.1.1 Y.1 Y.2.1.1 P.2.1.2.1 P.2.1.2.2 Q.2.1.2.1 Q.2.1.2.2 X.2.1.2.1 X.2.1.2.2 Y.2.1.2.1 Y.2.1.2.2
      (fun V => kfin true 1 a rfl wa fa V) (fun V => kfin true 1 b rfl wb fb' V) (fun V => raddF_any true 0 a b wa wb V) (fun V => kfin true 1 _ rfl wS fs V) (fun V => rwiden_any a wa V) (fun V => rwiden_any b wb V) (fun V => rwiden_any _ wS V) k1 k2 k3 k4 k5 k6 k7 k8 k9 lilive_any w
theorem wdn1_f (x : Int) : wdn1 false x = x := by
  unfold wdn1
  exact if_neg (by decide)
theorem lb5 (f0 : Int) (hf : ¬ f0 = 1) (a b : Int) (wa : Word a) (wb : Word b) (fa : finF false a = true) (fb' : finF false b = true) (fs : finF false (addF false 0 a b) = true) (w : World) : Calls Tryz.prog 9 #[.int .i64 f0, .int .u64 a, .int .u64 b] w fun e w' => e = .returned (.bool true) ∧ Below w.heap.size w w' := by
  have wS := addF_word false 0 a b wa wb
  obtain ⟨r1, r2, r3, P, Q, X, Y, k1, k2, k3, k4, k5, k6, k7, k8, k9⟩ := law_blurs_s false 0 rfl (by simp [placeP, plW]) (by simp [leastP, lsW]) a b wa wb fa fb' fs
  simp only [wdn1_f] at k1 k2 k3 k9
  exact bl_ok_0 f0 hf a b (addF false 0 a b) r1.1 r2.1 r3.1 Y.2.1.1 r1.2.1 r1.2.2 r2.2.1 r2.2.2 r3.2.1 r3.2.2 Y.2.1.2.1 Y.2.1.2.2 P.1 P.2.1.1 Q.1 Q.2.1.1 X.1 X.2.1.1 Y.1 Y.2.1.1 P.2.1.2.1 P.2.1.2.2 Q.2.1.2.1 Q.2.1.2.2 X.2.1.2.1 X.2.1.2.2 Y.2.1.2.1 Y.2.1.2.2
      (fun V => kfin false 0 a rfl wa fa V) (fun V => kfin false 0 b rfl wb fb' V) (fun V => raddF_any false 0 a b wa wb V) (fun V => kfin false 0 _ rfl wS fs V) k1 k2 k3 k4 k5 k6 k7 k8 k9 lilive_any w
theorem law_blurs (f0 a b : Int) (wa : Word a) (wb : Word b) (w : World) : Calls Tryz.prog 9 #[.int .i64 f0, .int .u64 a, .int .u64 b] w fun e w' => e = .returned (.bool true) ∧ Below w.heap.size w w' := by
  have no : ∀ {x : Bool}, ¬ x = true → x = false := fun {x} h => by cases x <;> simp_all
  by_cases hf : f0 = 1
  · subst hf
    by_cases fa : finF true a = true
    · by_cases fb' : finF true b = true
      · by_cases fs : finF true (addF true 0 a b) = true
        · exact lb4 a b wa wb fa fb' fs w
        · exact lb3 a b wa wb fa fb' (no fs) w
      · exact lb2 a b wa wb fa (no fb') w
    · exact lb1 a b wa wb (no fa) w
  · by_cases fa : finF false a = true
    · by_cases fb' : finF false b = true
      · by_cases fs : finF false (addF false 0 a b) = true
        · exact lb5 f0 hf a b wa wb fa fb' fs w
        · exact bl_n3_0 f0 hf a b _ (fun V => kfin false 0 a rfl wa fa V) (fun V => kfin false 0 b rfl wb fb' V) (fun V => raddF_any false 0 a b wa wb V) (fun V => kfin false 0 _ rfl (addF_word _ _ _ _ wa wb) (no fs) V) lilive_any w
      · exact bl_n2_0 f0 hf a b (fun V => kfin false 0 a rfl wa fa V) (fun V => kfin false 0 b rfl wb (no fb') V) lilive_any w
    · exact bl_n1_0 f0 hf a b (fun V => kfin false 0 a rfl wa (no fa) V) lilive_any w
end Go.Proofs.YteafnkimcidkhaaGreat


