/- The next float above, and below: conv's, in plain numbers; what lies between. -/
import Derived.Test.YtfdinlomlcnjnaaDoorConvB
import Derived.Test.YtfdinlomlcnjnaaDoorSoftN
namespace Go.Proofs.YtfdinlomlcnjnaaDoor
open Go.RowKit
set_option linter.unusedVariables false
set_option linter.unusedSimpArgs false
/-- The next finite float above. -/
def nextF (s : Bool) (a : Int) : Int := if finF s a then (if a = fI s - 1 then a else if zOf s a = 0 then 1 else if sgn s a then plainF s (a - 1) else a + 1) else fNan s
/-- The next finite float below. -/
def prevF (s : Bool) (a : Int) : Int := plainF s (negF s (nextF s (negF s a)))
theorem n_num {s : Bool} {a : Int} (h : finF s a = true) : (cls s a == 0 || cls s a == 5) = false ∧ (cls s a == 4) = false := by
  unfold finF at h
  generalize cls s a = k at *
  simp at h
  rcases h with (rfl | rfl) | rfl <;> decide
theorem n_fin (s b : Bool) (z : Nat) (h : (z : Int) < fI s) : finF s (sgnd s b z) = true := by
  have l := fI_lt s
  unfold finF
  rw [cls_made s b z (by omega) (by omega)]
  have n1 : ¬ fI s < (z : Int) := by omega
  have n2 : ¬ (z : Int) = fI s := by omega
  rw [if_neg n1, if_neg n2]
  split
  · rfl
  · split <;> rfl
theorem n_made (s : Bool) (a : Int) (h : Word a) (f : finF s a = true) : ∃ (b : Bool) (z : Nat), a = sgnd s b z ∧ (z : Int) < fI s := by
  obtain ⟨f1, f2⟩ := n_num f
  rcases num_or s a h with c | ⟨b, z', rfl, z0, z1⟩
  · rw [f1] at c; exact absurd c (by decide)
  · obtain ⟨z, rfl⟩ := Int.eq_ofNat_of_zero_le z0
    refine ⟨b, z, rfl, ?_⟩
    by_cases c : (z : Int) = fI s
    · have l := fI_lt s
      rw [cls_made s b z (by omega) (by omega), if_neg (by omega), if_pos c] at f2
      exact absurd f2 (by decide)
    · omega
theorem n_plain (s b : Bool) (z : Nat) (h : (z : Int) < fI s) : plainF s (sgnd s b z) = if z = 0 then 0 else sgnd s b z := by
  have l := fI_lt s
  have f := (n_num (n_fin s b z h)).1
  unfold plainF
  rw [f, cls_made s b z (by omega) (by omega)]
  have n1 : ¬ fI s < (z : Int) := by omega
  have n2 : ¬ (z : Int) = fI s := by omega
  rw [if_neg n1, if_neg n2]
  simp only [Bool.false_eq_true, if_false]
  by_cases c : z = 0
  · subst c
    rfl
  · have zi : ¬ (z : Int) = 0 := by omega
    rw [if_neg zi, if_neg c]
    by_cases q : (z : Int) / 2 ^ fP s = 0
    · rw [if_pos q]; rfl
    · rw [if_neg q]; rfl
theorem n_word (s b : Bool) (z : Nat) (h : (z : Int) < fI s) : Word (sgnd s b z) := (made s b z (by omega) (by have := fI_lt s; omega)).1
theorem n_pos (s : Bool) (z : Nat) (h : (z : Int) < fI s) : nextF s (z : Int) = if (z : Int) = fI s - 1 then (z : Int) else (z : Int) + 1 := by
  have l := fI_lt s
  have e : sgnd s false (z : Int) = z := rfl
  obtain ⟨_, _, m3, m4⟩ := made s false z (by omega) (by omega)
  have f := n_fin s false z h
  rw [e] at m3 m4 f
  unfold nextF
  rw [f, m3, m4]
  simp only [if_true, Bool.false_eq_true, if_false]
  by_cases c : (z : Int) = fI s - 1
  · rw [if_pos c, if_pos c]
  · rw [if_neg c, if_neg c]
    by_cases c0 : (z : Int) = 0
    · rw [if_pos c0, c0]; rfl
    · rw [if_neg c0]
theorem n_neg0 (s : Bool) : nextF s (sgnd s true 0) = 1 := by cases s <;> decide +kernel
theorem n_neg (s : Bool) (z : Nat) (h0 : z ≠ 0) (h : (z : Int) < fI s) : nextF s (sgnd s true z) = if z = 1 then 0 else sgnd s true ((z - 1 : Nat) : Int) := by
  have l := fI_lt s
  obtain ⟨_, _, m3, m4⟩ := made s true z (by omega) (by omega)
  have f := n_fin s true z h
  unfold nextF
  rw [f, m3, m4]
  simp only [if_true]
  have ne : ¬ sgnd s true (z : Int) = fI s - 1 := by unfold sgnd; simp only [if_true]; omega
  rw [if_neg ne, if_neg (show ¬ (z : Int) = 0 by omega)]
  have e : sgnd s true (z : Int) - 1 = sgnd s true ((z - 1 : Nat) : Int) := by unfold sgnd; simp only [if_true]; omega
  rw [e, n_plain s true (z - 1) (by omega)]
  by_cases c : z = 1
  · rw [if_pos c, if_pos (by omega)]
  · rw [if_neg c, if_neg (by omega)]
theorem n_rnk (s b : Bool) (z : Nat) (h : (z : Int) < fI s) : rnk s (sgnd s b z) = if b then -(z : Int) else z := by
  have l := fI_lt s
  obtain ⟨_, _, m3, m4⟩ := made s b z (by omega) (by omega)
  unfold rnk
  rw [m3, m4]
/-- What is next: finite, one place above, and Prev leads back. -/
structure NextIs (s : Bool) (a n : Int) : Prop where
  wa : Word a
  wn : Word n
  fa : finF s a = true
  fn : finF s n = true
  back : prevF s n = a
  one : rnk s n = rnk s a + 1
theorem n_step (s : Bool) (a : Int) (h : Word a) (f : finF s a = true) (ne : plainF s a ≠ fI s - 1) : NextIs s (plainF s a) (nextF s (plainF s a)) := by
  obtain ⟨b, z, rfl, hz⟩ := n_made s a h f
  have l := fI_lt s
  have lp : 1 < fI s := by cases s <;> decide
  rw [n_plain s b z hz] at ne ⊢
  by_cases c : b = true ∧ z ≠ 0
  · obtain ⟨rfl, z0⟩ := c
    rw [if_neg z0] at ne ⊢
    have e1 := n_neg s z z0 hz
    by_cases z1 : z = 1
    · subst z1
      rw [if_pos rfl] at e1
      rw [e1]
      have w0 : Word 0 := ⟨by decide, by decide⟩
      have ez : sgnd s false ((0 : Nat) : Int) = 0 := rfl
      refine ⟨n_word s true 1 hz, w0, f, n_fin s false 0 (by omega), ?_, ?_⟩
      · unfold prevF
        have g0 : negF s 0 = sgnd s true 0 := neg_made s false 0 (by omega) (by omega)
        have g1 : negF s 1 = sgnd s true ((1 : Nat) : Int) := neg_made s false 1 (by omega) (by omega)
        rw [g0, n_neg0, g1, n_plain s true 1 hz, if_neg (by decide)]
      · rw [n_rnk s true 1 hz, show (0 : Int) = sgnd s false ((0 : Nat) : Int) from rfl, n_rnk s false 0 (by omega)]
        rfl
    · rw [if_neg z1] at e1
      rw [e1]
      have hz' : ((z - 1 : Nat) : Int) < fI s := by omega
      refine ⟨n_word s true z hz, n_word s true _ hz', f, n_fin s true _ hz', ?_, ?_⟩
      · unfold prevF
        rw [neg_made s true ((z - 1 : Nat) : Int) (by omega) (by omega)]
        have e2 : nextF s (sgnd s (!true) ((z - 1 : Nat) : Int)) = (z : Int) := by
          have t := n_pos s (z - 1) hz'
          rw [if_neg (by omega)] at t
          refine t.trans ?_
          omega
        rw [e2]
        have g1 : negF s (z : Int) = sgnd s true (z : Int) := neg_made s false z (by omega) (by omega)
        rw [g1, n_plain s true z hz, if_neg z0]
      · rw [n_rnk s true z hz, n_rnk s true (z - 1) hz']
        simp only [if_true]
        omega
  · have ea : (if z = 0 then 0 else sgnd s b (z : Int)) = (z : Int) := by
      by_cases z0 : z = 0
      · rw [if_pos z0, z0]; rfl
      · rw [if_neg z0]
        cases b
        · rfl
        · exact absurd ⟨rfl, z0⟩ c
    rw [ea] at ne ⊢
    have e1 := n_pos s z hz
    rw [if_neg ne] at e1
    have hz' : ((z + 1 : Nat) : Int) < fI s := by omega
    have e1' : nextF s (z : Int) = ((z + 1 : Nat) : Int) := by rw [e1]; omega
    rw [e1']
    refine ⟨n_word s false z hz, n_word s false (z + 1) hz', n_fin s false z hz, n_fin s false (z + 1) hz', ?_, ?_⟩
    · unfold prevF
      have g1 : negF s ((z + 1 : Nat) : Int) = sgnd s true ((z + 1 : Nat) : Int) := neg_made s false ((z + 1 : Nat) : Int) (by omega) (by omega)
      rw [g1, n_neg s (z + 1) (by omega) hz']
      by_cases z0 : z = 0
      · subst z0
        rw [if_pos rfl]
        have g0 : negF s 0 = sgnd s true ((0 : Nat) : Int) := neg_made s false 0 (by omega) (by omega)
        rw [g0, n_plain s true 0 hz, if_pos rfl]
        rfl
      · rw [if_neg (by omega), Nat.add_sub_cancel, neg_made s true (z : Int) (by omega) (by omega)]
        have t := n_plain s false z hz
        rw [if_neg z0] at t
        exact t
    · have r1 := n_rnk s false z hz
      have r2 := n_rnk s false (z + 1) hz'
      have r1' : rnk s (z : Int) = z := r1
      have r2' : rnk s ((z + 1 : Nat) : Int) = ((z + 1 : Nat) : Int) := r2
      rw [r1', r2']
      omega
theorem n_top (s : Bool) : nextF s (fI s - 1) = fI s - 1 := by cases s <;> decide +kernel
theorem n_plainw (s : Bool) (a : Int) (h : Word a) : Word (plainF s a) := by
  unfold plainF
  split
  · cases s <;> exact ⟨by decide, by decide⟩
  · split
    · exact ⟨by decide, by decide⟩
    · exact h
theorem n_nextw (s : Bool) (a : Int) (h : Word a) : Word (nextF s a) := by
  unfold nextF
  split
  · rename_i f
    obtain ⟨b, z, rfl, hz⟩ := n_made s a h f
    have l := fI_lt s
    have fs : fS s ≤ 9223372036854775808 := by cases s <;> decide
    split
    · exact h
    · split
      · exact ⟨by decide, by decide⟩
      · split
        · rename_i q
          refine n_plainw s _ ?_
          have sg := (made s b z (by omega) (by omega)).2.2.2
          rw [sg] at q
          subst q
          have h2 := h.2
          have h1 := h.1
          unfold sgnd at *
          simp only [if_true] at *
          have : 0 < fS s := by cases s <;> decide
          exact ⟨by omega, by omega⟩
        · rename_i q
          have sg := (made s b z (by omega) (by omega)).2.2.2
          rw [sg] at q
          have : b = false := by simpa using q
          subst this
          have e : sgnd s false (z : Int) = z := rfl
          rw [e] at *
          exact ⟨by omega, by omega⟩
  · cases s <;> exact ⟨by decide, by decide⟩
theorem n_nan (s : Bool) : finF s (fNan s) = false ∧ negF s (fNan s) = fNan s ∧ plainF s (fNan s) = fNan s := by cases s <;> decide +kernel
theorem n_off (s : Bool) (a : Int) (h : Word a) (f : finF s a = false) : nextF s a = fNan s ∧ prevF s a = fNan s := by
  have e : nextF s a = fNan s := by unfold nextF; rw [f]; rfl
  refine ⟨e, ?_⟩
  have g : nextF s (negF s a) = fNan s := by
    rcases num_or s a h with c | ⟨b, z, rfl, z0, z1⟩
    · have : negF s a = fNan s := by unfold negF; rw [c]; rfl
      rw [this]
      unfold nextF
      rw [(n_nan s).1]
      rfl
    · obtain ⟨y, rfl⟩ := Int.eq_ofNat_of_zero_le z0
      have c : (y : Int) = fI s := by
        by_cases c : (y : Int) < fI s
        · rw [n_fin s b y c] at f; exact absurd f (by decide)
        · omega
      rw [neg_made s b y z0 z1]
      have l := fI_lt s
      have k : cls s (sgnd s (!b) y) = 4 := by rw [cls_made s (!b) y z0 (by omega), if_neg (by omega), if_pos c]
      unfold nextF finF
      rw [k]
      rfl
  unfold prevF
  rw [g, (n_nan s).2.1, (n_nan s).2.2]
set_option maxHeartbeats 3200000 in
theorem next_any (f a : Int) (h : Word a) (w : World) :
    Calls Tryd.prog 26 #[.int .i64 f, .int .u64 a] w fun e w' => e = .returned (.int .u64 (nextF (f == 1) a)) ∧ Below w.heap.size w w' := by
  have hsh := shapeOf_ex f
  have hsg := csign_ex (f == 1)
  have hfi := finite_fl f a h
  have hmo := most_fl f
  have hna := nan_fl f
  have hpl := fun (h1 : 1 ≤ a) => plain_any f (a - 1) ⟨by omega, by have := h.2; omega⟩
  have hm := n_made (f == 1) a h
  have a0 := h.1
  have a1 := h.2
  generalize (f == 1) = s at *
  unfold nextF
  obtain ⟨Z, hZ⟩ : ∃ Z, zOf s a = Z := ⟨_, rfl⟩
  have hZ' : bits BinOp.andNot IntKind.u64 a (fS s) = Z := hZ
  obtain ⟨S2, hS2⟩ : ∃ S2, bits BinOp.and IntKind.u64 a (fS s) = S2 := ⟨_, rfl⟩
  have hS : sgn s a = (S2 != 0) := by unfold sgn; rw [hS2]
  have B : finF s a = true → ((S2 != 0) = true → 1 ≤ a) ∧ ((S2 != 0) = false → a + 1 < 18446744073709551616) := fun f => by
    obtain ⟨b, z, e, hz⟩ := hm f
    have l := fI_lt s
    have sg := (made s b z (by omega) (by omega)).2.2.2
    rw [← e, hS] at sg
    have fp : 0 < fS s := by cases s <;> decide
    have fq : fI s ≤ 9223372036854775808 := by cases s <;> decide
    refine ⟨fun q => ?_, fun q => ?_⟩
    · rw [q] at sg
      subst sg
      rw [e]
      unfold sgnd
      simp only [if_true]
      omega
    · rw [q] at sg
      subst sg
      have e' : a = z := e
      omega
  rw [hZ, hS]
  clear hm hS hZ
  generalize fS s = F at *
  generalize shpV s = V at *
  generalize shpO s = O at *
  generalize fNan s = Q at *
  cases c : finF s a
  · rw [c] at hfi
    simp only [Bool.false_eq_true, if_false]
    clear B hpl
    go_enter Tryd.func26, Tryd.ntmps26
    go_wp2_with (first
      | (go_at_call 58; refine (hsh _).mono ?_; rintro e w1 ⟨rfl, o1, rfl⟩)
      | (go_at_call 59; refine (hsg _).mono ?_; rintro e w1 ⟨rfl, rfl⟩)
      | (go_at_call 36; refine (hfi _).mono ?_; rintro e w2 ⟨rfl, b2⟩)
      | (go_at_call 35; refine (hna _).mono ?_; rintro e w3 ⟨rfl, b3⟩))
    go_ret
    exact ⟨rfl, below_callC (below_callC (below_two w _ _) b2) b3⟩
  · rw [c] at hfi
    obtain ⟨B1, B2⟩ := B c
    simp only [if_true]
    clear c
    by_cases c1 : a = fI s - 1
    · rw [if_pos c1]
      rw [← c1] at hmo
      clear B1 B2 hpl c1
      go_enter Tryd.func26, Tryd.ntmps26
      go_wp2_with (first
        | (go_at_call 58; refine (hsh _).mono ?_; rintro e w1 ⟨rfl, o1, rfl⟩)
        | (go_at_call 59; refine (hsg _).mono ?_; rintro e w1 ⟨rfl, rfl⟩)
        | (go_at_call 36; refine (hfi _).mono ?_; rintro e w2 ⟨rfl, b2⟩)
        | (go_at_call 37; refine (hmo _).mono ?_; rintro e w3 ⟨rfl, b3⟩))
      go_ret
      exact ⟨rfl, below_callC (below_callC (below_two w _ _) b2) b3⟩
    · rw [if_neg c1]
      generalize fI s - 1 = M at *
      have c1' : (a == M) = false := by simp [c1]
      by_cases c2 : Z = 0
      · rw [if_pos c2]
        subst c2
        clear B1 B2 hpl
        go_enter Tryd.func26, Tryd.ntmps26
        go_wp2_with (first
          | (go_at_call 58; refine (hsh _).mono ?_; rintro e w1 ⟨rfl, o1, rfl⟩)
          | (go_at_call 59; refine (hsg _).mono ?_; rintro e w1 ⟨rfl, rfl⟩)
          | (go_at_call 36; refine (hfi _).mono ?_; rintro e w2 ⟨rfl, b2⟩)
          | (go_at_call 37; refine (hmo _).mono ?_; rintro e w3 ⟨rfl, b3⟩))
        go_ret
        exact ⟨rfl, below_callC (below_callC (below_two w _ _) b2) b3⟩
      · rw [if_neg c2]
        have c2' : (Z == 0) = false := by simp [c2]
        by_cases c3 : S2 = 0
        · subst c3
          have a2 := B2 rfl
          have e1 : IntKind.u64.wrap (a + 1) = a + 1 := by rw [IntKind.wrap_u64]; omega
          rw [if_neg (by decide)]
          clear B1 B2 hpl
          go_enter Tryd.func26, Tryd.ntmps26
          go_wp2_with (first
            | (go_at_call 58; refine (hsh _).mono ?_; rintro e w1 ⟨rfl, o1, rfl⟩)
            | (go_at_call 59; refine (hsg _).mono ?_; rintro e w1 ⟨rfl, rfl⟩)
            | (go_at_call 36; refine (hfi _).mono ?_; rintro e w2 ⟨rfl, b2⟩)
            | (go_at_call 37; refine (hmo _).mono ?_; rintro e w3 ⟨rfl, b3⟩))
          go_ret
          exact ⟨rfl, below_callC (below_callC (below_two w _ _) b2) b3⟩
        · have c3' : (S2 == 0) = false := by simp [c3]
          have c3'' : (S2 != 0) = true := by simp [c3]
          have a2 := B1 c3''
          rw [if_pos c3'']
          have hp := hpl a2
          clear B1 B2 hpl
          go_enter Tryd.func26, Tryd.ntmps26
          go_wp2_with (first
            | (go_at_call 58; refine (hsh _).mono ?_; rintro e w1 ⟨rfl, o1, rfl⟩)
            | (go_at_call 59; refine (hsg _).mono ?_; rintro e w1 ⟨rfl, rfl⟩)
            | (go_at_call 36; refine (hfi _).mono ?_; rintro e w2 ⟨rfl, b2⟩)
            | (go_at_call 37; refine (hmo _).mono ?_; rintro e w3 ⟨rfl, b3⟩)
            | (go_at_call 30; refine (hp _).mono ?_; rintro e w4 ⟨rfl, b4⟩))
          go_ret
          exact ⟨rfl, below_callC (below_callC (below_callC (below_two w _ _) b2) b3) b4⟩
theorem prev_any (f a : Int) (h : Word a) (w : World) :
    Calls Tryd.prog 28 #[.int .i64 f, .int .u64 a] w fun e w' => e = .returned (.int .u64 (prevF (f == 1) a)) ∧ Below w.heap.size w w' := by
  have h1 := negF_word (f == 1) a h
  have h2 := n_nextw (f == 1) _ h1
  have h3 := negF_word (f == 1) _ h2
  have p1 := neg_fl f a h
  have p2 := next_any f _ h1
  have p3 := neg_fl f _ h2
  have p4 := plain_any f _ h3
  unfold prevF
  generalize plainF (f == 1) (negF (f == 1) (nextF (f == 1) (negF (f == 1) a))) = A4 at *
  generalize negF (f == 1) (nextF (f == 1) (negF (f == 1) a)) = A3 at *
  generalize nextF (f == 1) (negF (f == 1) a) = A2 at *
  generalize negF (f == 1) a = A1 at *
  go_enter Tryd.func28, Tryd.ntmps28
  go_wp2_with fail
  refine (p1 _).mono ?_
  rintro e w1 ⟨rfl, b1⟩
  go_wp2_with fail
  refine (p2 _).mono ?_
  rintro e w2 ⟨rfl, b2⟩
  go_wp2_with fail
  refine (p3 _).mono ?_
  rintro e w3 ⟨rfl, b3⟩
  go_wp2_with fail
  refine (p4 _).mono ?_
  rintro e w4 ⟨rfl, b4⟩
  go_wp2_with fail
  go_ret
  exact ⟨rfl, below_callC (below_callC (below_callC b1 b2) b3) b4⟩
end Go.Proofs.YtfdinlomlcnjnaaDoor

