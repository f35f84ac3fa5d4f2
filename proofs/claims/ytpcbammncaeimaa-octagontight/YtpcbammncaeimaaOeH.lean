/- octagon: Vars, Bound of whatever comes; Tight's law. -/
import Derived.Test.YtpcbammncaeimaaOeF
import Derived.Test.YtpcbammncaeimaaOcO
namespace Go.Proofs.Ytpcbammncaeimaa
open Go.RowKit
set_option linter.unusedVariables false
set_option linter.unusedSimpArgs false
set_option maxRecDepth 100000 in
theorem ovars (b n : Nat) (e : Bool) (M : Mx) (w : World) (h : OctAt w b n e M) : Calls Try.prog 22 #[.pointer (some ⟨b, 0, none⟩)] w fun r w' => r = .returned (.int .i64 n) ∧ w' = w := by
  have hv := h.hv
  go_enter Try.func22, Try.ntmps22
  go_wp2_with fail
  go_ret
  exact ⟨rfl, rfl⟩
set_option maxRecDepth 100000 in
theorem olbound (b n : Nat) (hn : n ≤ 8) (M : Mx) (p q : Nat) (hp : p < 2 * n) (hq : q < 2 * n) (w : World) (h : OctAt w b n false M) :
    Calls Try.prog 23 #[.pointer (some ⟨b, 0, none⟩), .int .i64 p, .int .i64 q] w fun r w' => r = .returned (.int .i64 (M p q)) ∧ ∃ k, w' = w.drewN k := by
  obtain ⟨p2, hp2⟩ : ∃ p2, p / 2 = p2 := ⟨_, rfl⟩
  obtain ⟨q2, hq2⟩ : ∃ q2, q / 2 = q2 := ⟨_, rfl⟩
  have wp : wrap64 ((p : Int) / 2) = (p2 : Int) := by unfold wrap64; omega
  have wq : wrap64 ((q : Int) / 2) = (q2 : Int) := by unfold wrap64; omega
  obtain ⟨bp, hbp⟩ : ∃ bp, ((p : Int) % 2 == 1) = bp := ⟨_, rfl⟩
  obtain ⟨bq, hbq⟩ : ∃ bq, ((q : Int) % 2 == 1) = bq := ⟨_, rfl⟩
  have ep : 2 * p2 + bp.toNat = p := by
    rw [← hbp]
    by_cases k : (p : Int) % 2 = 1
    · rw [beq_iff_eq.2 k]; simp; omega
    · rw [beq_eq_false_iff_ne.2 k]; simp; omega
  have eq : 2 * q2 + bq.toNat = q := by
    rw [← hbq]
    by_cases k : (q : Int) % 2 = 1
    · rw [beq_iff_eq.2 k]; simp; omega
    · rw [beq_eq_false_iff_ne.2 k]; simp; omega
  have kb := fun V hV => obound b n hn M p2 q2 (by omega) (by omega) bp bq V hV
  rw [ep, eq] at kb
  clear ep eq hn hp hq hp2 hq2
  generalize M p q = z at *
  go_enter Try.func23, Try.ntmps23
  go_wp2_with (first
    | (go_at_call 38; with_reducible refine (kb _ h).mono ?_; rintro r w2 ⟨rfl, k, rfl⟩)
    | fail)
  go_ret
  exact ⟨rfl, _, rfl⟩
def evn (x : Int) : Int := 2 * fh x
set_option maxRecDepth 100000 in
theorem oleven (x : Int) (h1 : -9223372036854775807 ≤ x) (h2 : x ≤ 9223372036854775807) (w : World) : Calls Try.prog 24 #[.int .i64 x] w fun r w' => r = .returned (.int .i64 (evn x)) ∧ w' = w := by
  by_cases h : x % 2 = 0
  · have t1 : (x.tmod 2 == 0) = true := by rw [beq_iff_eq, Int.tmod_eq_emod]; split <;> omega
    have e1 : Hid (evn x = x) := by show evn x = x; unfold evn fh; omega
    generalize evn x = z at *
    go_enter Try.func24, Try.ntmps24
    go_wp2_with fail
    go_ret
    exact ⟨by rw [e1.out]; rfl, rfl⟩
  · have t1 : (x.tmod 2 == 0) = false := by rw [beq_eq_false_iff_ne, Int.tmod_eq_emod]; split <;> omega
    have w0 : IntKind.i64.wrap (x - 1) = x - 1 := by rw [IntKind.wrap_i64]; omega
    have e1 : Hid (evn x = x - 1) := by show evn x = x - 1; unfold evn fh; omega
    generalize evn x = z at *
    go_enter Try.func24, Try.ntmps24
    go_wp2_with fail
    go_ret
    exact ⟨by rw [e1.out]; rfl, rfl⟩
end Go.Proofs.Ytpcbammncaeimaa

