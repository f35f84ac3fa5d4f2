/- Two floats reckoned by an op. -/
import Derived.Test.YtfgddpjdkeannadSoftMir
import Derived.Test.YtfgddpjdkeannadSoftLive
namespace Go.Proofs.Ytfgddpjdkeannad
open Go.RowKit
set_option linter.unusedVariables false
theorem nan_word (s : Bool) : Word (fNan s) := by cases s <;> exact ⟨by decide, by decide⟩
theorem sgnd_word (s b : Bool) (z : Int) (h0 : 0 ≤ z) (h : z ≤ fI s) : Word (sgnd s b z) := (made s b z h0 (by have := fI_lt s; omega)).1
theorem rnd_word (s : Bool) (m : Int) (b : Bool) (n : Nat) (e : Int) : Word (rnd s m b n e) := by
  obtain ⟨z, e1, z0, z1⟩ := rnd_made s m b n e
  rw [e1]; exact sgnd_word s b z z0 z1
theorem sumT_word (s : Bool) (m : Int) (xb : Bool) (xw : Nat) (xe : Int) (yb : Bool) (yw : Nat) (ye : Int) : Word (sumT s m xb xw xe yb yw ye) := by
  unfold sumT
  split
  · exact rnd_word _ _ _ _ _
  · split
    · exact sgnd_word s _ 0 (Int.le_refl _) (fI_pos s)
    · split <;> exact rnd_word _ _ _ _ _
theorem addF_word (s : Bool) (m a b : Int) (h1 : Word a) (h2 : Word b) : Word (addF s m a b) := by
  unfold addF
  split
  · exact nan_word s
  · split
    · exact nan_word s
    · split
      · exact h1
      · split
        · exact h2
        · exact sumT_word _ _ _ _ _ _ _ _
theorem mulF_word (s : Bool) (m a b : Int) : Word (mulF s m a b) := by
  unfold mulF
  split
  · exact nan_word s
  · split
    · exact nan_word s
    · split
      · exact sgnd_word s _ _ (fI_pos s) (Int.le_refl _)
      · exact rnd_word _ _ _ _ _
theorem divF_word (s : Bool) (m a b : Int) : Word (divF s m a b) := by
  unfold divF
  split
  · exact nan_word s
  · split
    · exact nan_word s
    · split
      · exact sgnd_word s _ _ (fI_pos s) (Int.le_refl _)
      · split
        · exact sgnd_word s _ _ (Int.le_refl _) (fI_pos s)
        · exact rnd_word _ _ _ _ _
def byF (op : Int) (s : Bool) (m a b : Int) : Int := if op = 8 then addF s m a b else if op = 9 then subF s m a b else if op = 10 then mulF s m a b else divF s m a b
theorem byF_word (op : Int) (s : Bool) (m a b : Int) (h1 : Word a) (h2 : Word b) : Word (byF op s m a b) := by
  unfold byF
  split
  · exact addF_word s m a b h1 h2
  · split
    · exact addF_word s m a _ h1 (negF_word s b h2)
    · split
      · exact mulF_word s m a b
      · exact divF_word s m a b
theorem by_any (op f m a b : Int) (h1 : Word a) (h2 : Word b) (w : World) :
    Calls Try.prog 8 #[.int .i64 op, .int .i64 f, .int .i64 m, .int .u64 a, .int .u64 b] w fun r w' => r = .returned (.int .u64 (byF op (f == 1) m a b)) ∧ Below w.heap.size w w' := by
  have ha := add_fl f m a b h1 h2
  have hs := sub_fl f m a b h1 h2
  have hm := mul_fl f m a b h1 h2
  have hd := div_fl f m a b h1 h2
  unfold byF
  generalize (f == 1) = s at *
  by_cases c1 : op = 8
  · subst c1
    go_enter Try.func8, Try.ntmps8
    go_wp2_with fail
    refine (ha _).mono ?_
    rintro r w1 ⟨rfl, hb1⟩
    go_wp2_with fail
    go_ret
    exact ⟨rfl, hb1⟩
  · by_cases c2 : op = 9
    · subst c2
      go_enter Try.func8, Try.ntmps8
      go_wp2_with fail
      refine (hs _).mono ?_
      rintro r w1 ⟨rfl, hb1⟩
      go_wp2_with fail
      go_ret
      exact ⟨rfl, hb1⟩
    · by_cases c3 : op = 10
      · subst c3
        go_enter Try.func8, Try.ntmps8
        go_wp2_with fail
        refine (hm _).mono ?_
        rintro r w1 ⟨rfl, hb1⟩
        go_wp2_with fail
        go_ret
        exact ⟨rfl, hb1⟩
      · rw [if_neg c1, if_neg c2, if_neg c3]
        go_enter Try.func8, Try.ntmps8
        go_wp2_with fail
        refine (hd _).mono ?_
        rintro r w1 ⟨rfl, hb1⟩
        go_wp2_with fail
        go_ret
        exact ⟨rfl, hb1⟩
end Go.Proofs.Ytfgddpjdkeannad
