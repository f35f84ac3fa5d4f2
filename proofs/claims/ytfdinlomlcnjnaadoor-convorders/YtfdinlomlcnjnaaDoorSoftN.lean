/- The other sign; differences; the statements' own sure test. -/
import Derived.Test.YtfdinlomlcnjnaaDoorSoftK
import Derived.Test.YtfdinlomlcnjnaaDoorSoftL
import Derived.Test.YtfdinlomlcnjnaaDoorSoftM
namespace Go.Proofs.YtfdinlomlcnjnaaDoor
open Go.RowKit
set_option linter.unusedVariables false
set_option linter.unusedSimpArgs false
/-- A float with the other sign. -/
def negF (s : Bool) (a : Int) : Int := if cls s a == 0 || cls s a == 5 then fNan s else bits BinOp.xor IntKind.u64 a (fS s)
theorem fS_nat (s : Bool) : ∃ n : Nat, fS s = (n : Int) ∧ n < 18446744073709551616 := by
  cases s
  · exact ⟨9223372036854775808, rfl, by decide⟩
  · exact ⟨2147483648, rfl, by decide⟩
theorem xor_word (s : Bool) (a : Int) (h : Word a) : Word (bits BinOp.xor IntKind.u64 a (fS s)) := by
  obtain ⟨x, rfl⟩ := Int.eq_ofNat_of_zero_le h.1
  obtain ⟨n, e, l⟩ := fS_nat s
  have hx := h.2
  rw [e, u64_xor_nat x n (by omega) l]
  have : x ^^^ n < 2 ^ 64 := Nat.xor_lt_two_pow (by omega) (by omega)
  exact ⟨by omega, by omega⟩
theorem negF_word (s : Bool) (a : Int) (h : Word a) : Word (negF s a) := by
  unfold negF
  split
  · cases s <;> exact ⟨by decide, by decide⟩
  · exact xor_word s a h
theorem neg_fl (f a : Int) (h1 : Word a) (w : World) :
    Calls Tryd.prog 62 #[.int .i64 f, .int .u64 a] w fun r w' => r = .returned (.int .u64 (negF (f == 1) a)) ∧ Below w.heap.size w w' := by
  have hda : ∀ (w : World) (n : Nat) (o : Obj), (w.drewN n).alloc o = (w.alloc o).drewN n := fun _ _ _ => rfl
  have hfo := formatOf_ex f
  generalize (f == 1) = s at *
  have hV : ∃ V, negF s a = V := ⟨_, rfl⟩
  obtain ⟨V, hV⟩ := hV
  rw [hV]
  unfold negF at hV
  have hn1 := noNumber_any (cls s a) (sgn s a) (whl s a) (pwr s a)
  have hnan := nan_ex s
  have hsa := split_ex s a h1
  unfold prt prtO at hn1
  rw [fmtV_eq, fmtO_eq] at hnan
  rw [fmtV_eq] at hfo hsa
  unfold prtV at hsa
  generalize (cls s a == 0 || cls s a == 5) = N1 at *
  generalize cls s a = k1 at *
  generalize sgn s a = g1 at *
  generalize whl s a = u1 at *
  generalize pwr s a = p1 at *
  cases N1
  · simp only [Bool.false_eq_true, if_false] at hV
    subst hV
    go_enter Tryd.func62, Tryd.ntmps62
    go_wp2_with (first
      | (go_at_call 69; refine (hfo _).mono ?_; rintro r w1 ⟨rfl, o1, o2, rfl⟩)
      | (go_at_call 72; refine (hsa _).mono ?_; rintro r w2 ⟨rfl, o3, o4, o5, o6, n1, rfl⟩)
      | (go_at_call 73; refine (hn1 _).mono ?_; rintro r w2 ⟨rfl, rfl⟩))
    go_ret
    exact ⟨rfl, (by repeat (first | with_reducible exact Below.refl _ _ | with_reducible refine below_new ?_ _ | with_reducible refine Below.drew ?_ | with_reducible refine below_dN ?_ _))⟩
  · simp only [if_true] at hV
    subst hV
    go_enter Tryd.func62, Tryd.ntmps62
    go_wp2_with (first
      | (go_at_call 69; refine (hfo _).mono ?_; rintro r w1 ⟨rfl, o1, o2, rfl⟩)
      | (go_at_call 72; refine (hsa _).mono ?_; rintro r w2 ⟨rfl, o3, o4, o5, o6, n1, rfl⟩)
      | (go_at_call 73; refine (hn1 _).mono ?_; rintro r w2 ⟨rfl, rfl⟩)
      | (go_at_call 70; refine (hnan _).mono ?_; rintro r w2 ⟨rfl, rfl⟩))
    go_ret
    exact ⟨rfl, (by repeat (first | with_reducible exact Below.refl _ _ | with_reducible refine below_new ?_ _ | with_reducible refine Below.drew ?_ | with_reducible refine below_dN ?_ _))⟩
/-- The difference of two floats. -/
def subF (s : Bool) (m a b : Int) : Int := addF s m a (negF s b)
end Go.Proofs.YtfdinlomlcnjnaaDoor

