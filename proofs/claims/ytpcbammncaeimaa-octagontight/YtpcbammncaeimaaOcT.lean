/- octagon: the functions that move makes. -/
import Derived.Test.YtpcbammncaeimaaOcH
namespace Go.Proofs.Ytpcbammncaeimaa
open Go.RowKit
set_option linter.unusedVariables false
set_option linter.unusedSimpArgs false
/-- The side that a side comes from; what it gains. -/
def fr (g : Bool) (i a : Nat) : Nat := if g = true ∧ a / 2 = i then ot a else a
def gn (i : Nat) (c : Int) (a : Nat) : Int := if a = 2 * i then c else if a = 2 * i + 1 then -c else 0
theorem fr_lt {g : Bool} {i a : Nat} (h : a < 16) : fr g i a < 16 := by unfold fr ot; split <;> (try split) <;> omega
set_option maxRecDepth 100000 in
theorem ofrom (bn bi : Nat) (g : Bool) (i a : Nat) (ha : a < 16) (w : World) (h1 : w.cell? ⟨bn, 0, none⟩ = some (.bool g)) (h2 : w.cell? ⟨bi, 0, none⟩ = some (.int .i64 i)) :
    Calls Try.prog 98 #[.int .i64 a, .pointer (some ⟨bn, 0, none⟩), .pointer (some ⟨bi, 0, none⟩)] w fun r w' => r = .returned (.int .i64 (fr g i a)) ∧ w' = w := by
  have k := oother a ha
  have q1 : wrap64 ((a : Int).tdiv 2) = ((a / 2 : Nat) : Int) := by
    rw [Int.tdiv_eq_ediv_of_nonneg (by omega)]
    unfold wrap64
    omega
  unfold fr
  cases g
  · simp only [Bool.false_eq_true, false_and, if_false]
    go_enter Try.func98, Try.ntmps98
    go_wp2_with fail
    go_ret
    exact ⟨rfl, rfl⟩
  · by_cases hi : a / 2 = i
    · have hi' : ((a : Int) / 2 == (i : Int)) = true := by
        rw [beq_iff_eq]
        omega
      rw [if_pos ⟨rfl, hi⟩]
      generalize ot a = q at *
      clear hi q1
      go_enter Try.func98, Try.ntmps98
      go_wp2_with (first
        | (go_at_call 80; refine (k _).mono ?_; rintro r w2 ⟨rfl, hw2⟩; subst w2)
        | fail)
      go_ret
      exact ⟨rfl, rfl⟩
    · have hi' : ((a : Int) / 2 == (i : Int)) = false := by
        rw [beq_eq_false_iff_ne]
        omega
      rw [if_neg (fun q => hi q.2)]
      clear hi q1
      go_enter Try.func98, Try.ntmps98
      go_wp2_with fail
      go_ret
      exact ⟨rfl, rfl⟩
set_option maxRecDepth 100000 in
theorem ogain (bi bc : Nat) (c : Int) (hc : -8589934592 ≤ c ∧ c ≤ 8589934592) (i a : Nat) (hi : i < 8) (w : World) (h1 : w.cell? ⟨bi, 0, none⟩ = some (.int .i64 i)) (h2 : w.cell? ⟨bc, 0, none⟩ = some (.int .i64 c)) :
    Calls Try.prog 99 #[.int .i64 a, .pointer (some ⟨bi, 0, none⟩), .pointer (some ⟨bc, 0, none⟩)] w fun r w' => r = .returned (.int .i64 (gn i c a)) ∧ w' = w := by
  have s1 := oside i hi false
  have s2 := oside i hi true
  have e1 : 2 * i + false.toNat = 2 * i := rfl
  have e2 : 2 * i + true.toNat = 2 * i + 1 := rfl
  rw [e1] at s1
  rw [e2] at s2
  have wn : IntKind.i64.wrap (-c) = -c := by rw [IntKind.wrap_i64]; omega
  clear e1 e2 hc
  unfold gn
  by_cases q1 : a = 2 * i
  · rw [if_pos q1]
    have q1' : (a : Int) = ((2 * i : Nat) : Int) := by omega
    generalize 2 * i + 1 = y at *
    generalize 2 * i = x at *
    subst q1
    clear q1'
    go_enter Try.func99, Try.ntmps99
    go_wp2_with (first
      | (go_at_call 53; refine (s1 _).mono ?_; rintro r w2 ⟨rfl, hw2⟩; subst w2; clear s1)
      | fail)
    go_ret
    exact ⟨rfl, rfl⟩
  · rw [if_neg q1]
    have q1' : ¬ (a : Int) = ((2 * i : Nat) : Int) := by omega
    by_cases q2 : a = 2 * i + 1
    · rw [if_pos q2]
      generalize 2 * i = x at *
      generalize x + 1 = y at *
      subst q2
      clear q1
      go_enter Try.func99, Try.ntmps99
      go_wp2_with (first
        | (go_at_call 53; refine (s1 _).mono ?_; rintro r w2 ⟨rfl, hw2⟩; subst w2; clear s1)
        | (go_at_call 53; refine (s2 _).mono ?_; rintro r w2 ⟨rfl, hw2⟩; subst w2; clear s2)
        | fail)
      go_ret
      exact ⟨rfl, rfl⟩
    · rw [if_neg q2]
      have q2' : ¬ (a : Int) = ((2 * i + 1 : Nat) : Int) := by omega
      generalize 2 * i + 1 = y at *
      generalize 2 * i = x at *
      clear q1 q2
      go_enter Try.func99, Try.ntmps99
      go_wp2_with (first
        | (go_at_call 53; refine (s1 _).mono ?_; rintro r w2 ⟨rfl, hw2⟩; subst w2; clear s1)
        | (go_at_call 53; refine (s2 _).mono ?_; rintro r w2 ⟨rfl, hw2⟩; subst w2; clear s2)
        | fail)
      go_ret
      exact ⟨rfl, rfl⟩
/-- What lies in memory for them. -/
structure Mv (w : World) (bo bi bn bc bf bg n : Nat) (e : Bool) (M : Mx) (i : Nat) (g : Bool) (c : Int) : Prop where
  o : OctAt w bo n e M
  i : w.cell? ⟨bi, 0, none⟩ = some (.int .i64 i)
  n : w.cell? ⟨bn, 0, none⟩ = some (.bool g)
  c : w.cell? ⟨bc, 0, none⟩ = some (.int .i64 c)
  f : w.cell? ⟨bf, 0, none⟩ = some (.func (.func 98) #[] #[.pointer (some ⟨bn, 0, none⟩), .pointer (some ⟨bi, 0, none⟩)])
  g : w.cell? ⟨bg, 0, none⟩ = some (.func (.func 99) #[] #[.pointer (some ⟨bi, 0, none⟩), .pointer (some ⟨bc, 0, none⟩)])
theorem Mv.drewN {w : World} {bo bi bn bc bf bg n : Nat} {e : Bool} {M : Mx} {i : Nat} {g : Bool} {c : Int} (h : Mv w bo bi bn bc bf bg n e M i g c) (k : Nat) : Mv (w.drewN k) bo bi bn bc bf bg n e M i g c := ⟨h.o.drewN k, h.i, h.n, h.c, h.f, h.g⟩
/-- Bounds moved. -/
def mv (g : Bool) (i : Nat) (c : Int) (M : Mx) : Mx := fun a b => M (fr g i a) (fr g i b) + gn i c a + gn i c b
set_option maxRecDepth 100000 in
set_option maxHeartbeats 1600000 in
theorem omv3 (bo bi bn bc bf bg n : Nat) (e : Bool) (M : Mx) (i : Nat) (hi : i < 8) (g : Bool) (c : Int) (hc : -8589934592 ≤ c ∧ c ≤ 8589934592) (x y : Nat) (hx : x < 16) (hy : y < 16) (hM : -4611686018427387904 ≤ M (fr g i x) (fr g i y) ∧ M (fr g i x) (fr g i y) ≤ 4611686018427387903) (w : World) (h : Mv w bo bi bn bc bf bg n e M i g c) :
    Calls Try.prog 100 #[.int .i64 x, .int .i64 y, .pointer (some ⟨bo, 0, none⟩), .pointer (some ⟨bf, 0, none⟩), .pointer (some ⟨bg, 0, none⟩)] w fun r w' => r = .returned (.int .i64 (mv g i c M x y)) ∧ ∃ k, w' = w.drewN k := by
  have k1 := fun k => ofrom bn bi g i x hx (w.drewN k) h.n h.i
  have k2 := fun k => ofrom bn bi g i y hy (w.drewN k) h.n h.i
  have k3 := fun k => ogain bi bc c hc i x hi (w.drewN k) h.i h.c
  have k4 := fun k => ogain bi bc c hc i y hi (w.drewN k) h.i h.c
  have x1 := oix bo (fr g i x) (fr_lt hx)
  have x2 := oiy bo (2 + fr g i x * 16) (fr g i y) (fr_lt hy)
  have y1 := h.o.hm (fr g i x) (fr g i y) (fr_lt hx) (fr_lt hy)
  have hf := h.f
  have hg := h.g
  have g1 : -8589934592 ≤ gn i c x ∧ gn i c x ≤ 8589934592 := by unfold gn; split <;> (try split) <;> omega
  have g2 : -8589934592 ≤ gn i c y ∧ gn i c y ≤ 8589934592 := by unfold gn; split <;> (try split) <;> omega
  unfold mv
  generalize M (fr g i x) (fr g i y) = z at *
  generalize fr g i x = p at *
  generalize fr g i y = q at *
  generalize gn i c x = s at *
  generalize gn i c y = t at *
  have w1 : IntKind.i64.wrap (z + s) = z + s := by rw [IntKind.wrap_i64]; omega
  have w2 : IntKind.i64.wrap (z + s + t) = z + s + t := by rw [IntKind.wrap_i64]; omega
  have ef : ∀ args W, (callFunc 98 args).run Try.prog W = .ok (.enter 98 args) W := fun a v => enters_of Try.func98 (by kernel_rfl) rfl a v
  have eg : ∀ args W, (callFunc 99 args).run Try.prog W = .ok (.enter 99 args) W := fun a v => enters_of Try.func99 (by kernel_rfl) rfl a v
  clear hM hc g1 g2 h
  go_enter Try.func100, Try.ntmps100
  go_upto_region 1 with fail
  go_quiet (first
    | (go_at_call_of 98 x; exact Calls.quiet_of ((k1 _).mono fun r w' q => ⟨q.1, 0, q.2⟩))
    | (go_at_call_of 98 y; exact Calls.quiet_of ((k2 _).mono fun r w' q => ⟨q.1, 0, q.2⟩))
    | (go_at_call_of 99 x; exact Calls.quiet_of ((k3 _).mono fun r w' q => ⟨q.1, 0, q.2⟩))
    | (go_at_call_of 99 y; exact Calls.quiet_of ((k4 _).mono fun r w' q => ⟨q.1, 0, q.2⟩))
    | fail)
  go_wp2_with fail
  go_ret
  exact ⟨rfl, _, rfl⟩
end Go.Proofs.Ytpcbammncaeimaa
