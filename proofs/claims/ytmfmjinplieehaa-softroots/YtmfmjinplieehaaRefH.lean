/- What plumblineref01.Sqrt answers. -/
import Derived.Test.YtmfmjinplieehaaRefG
import Derived.Test.YtmfmjinplieehaaRefF
import Derived.Test.YtmfmjinplieehaaAids
namespace Go.Proofs.Ytmfmjinplieehaa
open Go.RowKit
set_option linter.unusedVariables false

/-- What holds of the root while its bits from k on are settled. -/
structure RootTo (A k r : Nat) : Prop where
  mul : r % 2 ^ k = 0
  room : r + 2 ^ k ≤ 18446744073709551616
  lo : r * r ≤ A
  hi : A < (r + 2 ^ k) * (r + 2 ^ k)
theorem rootTo_start (A : Nat) (h : A < 2 ^ 128) : RootTo A 64 0 := by
  have e : (2 : Nat) ^ 128 = 2 ^ 64 * 2 ^ 64 := by decide
  exact ⟨by simp, by decide, by omega, by rw [Nat.zero_add]; omega⟩
theorem RootTo.bit {A k r : Nat} (h : RootTo A (k + 1) r) : (r ||| 2 ^ k) = r + 2 ^ k ∧ r + 2 ^ k < 18446744073709551616 ∧ r % 2 ^ k = 0 := by
  have m := h.mul
  have p := pow_pos' k
  have ro := h.room
  rw [Nat.pow_succ] at m ro
  have d : r % 2 ^ k = 0 := by
    have := Nat.mod_mul_right_mod r (2 ^ k) 2
    rw [m] at this
    simpa using this.symm
  refine ⟨?_, by omega, d⟩
  have e : r = 2 ^ (k + 1) * (r / 2 ^ (k + 1)) := by
    have := Nat.div_add_mod r (2 ^ (k + 1))
    rw [h.mul] at this; omega
  rw [e]
  exact (Nat.two_pow_add_eq_or_of_lt (by rw [Nat.pow_succ]; omega) _).symm
theorem RootTo.take {A k r : Nat} (h : RootTo A (k + 1) r) (c : (r + 2 ^ k) * (r + 2 ^ k) ≤ A) : RootTo A k (r + 2 ^ k) := by
  obtain ⟨_, _, d⟩ := h.bit
  have ro := h.room
  have hi := h.hi
  have e : r + 2 ^ (k + 1) = r + 2 ^ k + 2 ^ k := by rw [Nat.pow_succ]; omega
  rw [e] at ro hi
  exact ⟨by rw [Nat.add_mod_right]; exact d, ro, c, hi⟩
theorem RootTo.leave {A k r : Nat} (h : RootTo A (k + 1) r) (c : A < (r + 2 ^ k) * (r + 2 ^ k)) : RootTo A k r := by
  obtain ⟨_, l, d⟩ := h.bit
  exact ⟨d, by omega, h.lo, c⟩
theorem RootTo.fin {A r : Nat} (h : RootTo A 0 r) : r * r ≤ A ∧ A - r * r ≤ 2 * r := by
  have l := h.lo
  have hi := h.hi
  rw [Nat.pow_zero, Nat.add_mul, Nat.mul_add, Nat.one_mul, Nat.mul_one] at hi
  omega
/-- The root and what is left are told by these two facts. -/
theorem root_uniq {A r s x y : Int} (r0 : 0 ≤ r) (s0 : 0 ≤ s) (x0 : 0 ≤ x) (y0 : 0 ≤ y) (e : r * r + x = A) (e' : s * s + y = A) (l : x ≤ 2 * r) (l' : y ≤ 2 * s) : r = s ∧ x = y := by
  have key : ∀ a b u v : Int, 0 ≤ a → 0 ≤ b → 0 ≤ u → a * a + u = A → b * b + v = A → 0 ≤ v → u ≤ 2 * a → b ≤ a := by
    intro a b u v ha hb hu p q hv lu
    by_cases c : b ≤ a
    · exact c
    · have m : (a + 1) * (a + 1) ≤ b * b := Int.mul_le_mul (by omega) (by omega) (by omega) hb
      rw [Int.add_mul, Int.mul_add, Int.one_mul, Int.mul_one] at m
      omega
  have h1 := key r s x y r0 s0 x0 e e' y0 l
  have h2 := key s r y x s0 r0 y0 e' e x0 l'
  have : r = s := by omega
  subst this
  exact ⟨rfl, by omega⟩

theorem OneMem.drew {n : Nat} {ah al : Int} {W : World} (h : OneMem n ah al W) : OneMem n ah al W.drew := ⟨h.s0, h.s1, h.c0, h.c1, h.e0, h.e1, h.f0, h.f1⟩
theorem OneMem.alloc {n : Nat} {ah al : Int} {W : World} (h : OneMem n ah al W) (o : Obj) : OneMem n ah al (W.alloc o) :=
  h.below ((Below.refl _ _).alloc (Nat.le_refl _) o)
theorem cmpN_nonpos {a b n : Int} (h : n = cmpN a b) (c : a ≤ b) : n ≤ 0 := by
  rw [h]; unfold cmpN; split
  · omega
  · rw [if_neg (by omega)]; omega
theorem cmpN_pos {a b n : Int} (h : n = cmpN a b) (c : b < a) : ¬ n ≤ 0 := by
  rw [h, ← cmpN_gt c]; omega

set_option maxHeartbeats 3200000 in
theorem rsqrt_any (ah al : Int) (h1 : Word ah) (h2 : Word al) (w : World) :
    Calls Try.prog 66 #[.agg #[.int .u64 ah, .int .u64 al]] w fun e w' =>
      ∃ r h l : Int, e = .returned (.tuple #[.int .u64 r, .agg #[.int .u64 h, .int .u64 l]]) ∧ Word r ∧ Word h ∧ Word l ∧ Hid (r * r + num h l = num ah al) ∧ Hid (num h l ≤ 2 * r) ∧ Below w.heap.size w w' := by
  have m0 := one_start w ah al
  go_enter Try.func66, Try.ntmps66
  go_wp2_with fail
  go_loopw [4, 5] (fun u i wr => ∃ k r : Nat, k ≤ 64 ∧ i = .int .i64 ((k : Int) - 1) ∧ u = .int .u64 r ∧ r < 18446744073709551616 ∧ RootTo (N ah al) k r ∧ OneMem w.heap.size ah al wr ∧ Below w.heap.size w wr) (fun _ i _ => (intOf i + 1).toNat)
  case atStart => exact ⟨64, 0, by omega, rfl, rfl, by decide, rootTo_start _ (N_lt h1 h2), m0, below_two _ _ _⟩
  case round =>
    obtain ⟨k, r, hk, rfl, rfl, hr, hI, m, L⟩ := hrel
    obtain ⟨s0, s1, c0, c1, ⟨x0, e0⟩, ⟨x1, e1⟩, f0, f1⟩ := id m
    have CA : Hid _ := N_cast h1 h2
    by_cases hk0 : k = 0
    · subst hk0
      obtain ⟨F1, F2⟩ := hI.fin
      have wr0 : Word (r : Int) := ⟨by omega, by omega⟩
      go_wp2_with fail
      go_cut [7] (fun s wx => ∃ (b : Nat) (h l : Int), s = .pointer (some ⟨b, 0, none⟩) ∧ Word h ∧ Word l ∧ Hid (num h l = num ah al - (r : Int) * r) ∧ wx.cell? ⟨b, 0, none⟩ = some (.int .u64 h) ∧ wx.cell? ⟨b, 1, none⟩ = some (.int .u64 l) ∧ ¬ b = w.heap.size + 1 ∧ OneMem w.heap.size ah al wx ∧ Below w.heap.size w wx)
      case first =>
        go_region_with
          (first
            | (go_at_call 51; refine (rmul_any r r wr0 wr0 _).mono ?_; rintro e w2 ⟨ph, pl, rfl, wph, wpl, P, B2⟩; obtain ⟨hc2, hf2⟩ := bcell B2; have hs2 := B2.size; (try simp at hs2); (first | (have z2 : wr.heap.size < w2.heap.size := Nat.lt_of_succ_le hs2) | skip); have c0' : w2.cell? ⟨w.heap.size, 0, none⟩ = some (.int .u64 ah) := (by rw [hc2 _ _ (by simp; try omega)]; simp [go_sem, *]); have c1' : w2.cell? ⟨w.heap.size, 1, none⟩ = some (.int .u64 al) := (by rw [hc2 _ _ (by simp; try omega)]; simp [go_sem, *]); have z3 := lt_new c0')
            | (go_at_call 90; refine (rsub_any ah al ph pl h1 h2 wph wpl _).mono ?_; rintro e w3 ⟨qh, ql, qc, rfl, wqh, wql, Q, _, B3⟩; obtain ⟨hc3, hf3⟩ := bcell B3; have hs3 := B3.size; (try simp at hs3)))
        all_goals
          have HQ : Hid (num qh ql = num ah al - (r : Int) * r) := by
            have q := Q.out
            rw [P.out, ← CA.out] at q
            have sq : ((r * r : Nat) : Int) = (r : Int) * r := by simp
            have lA := N_lt h1 h2
            have p128 : (2 : Nat) ^ 128 = 340282366920938463463374607431768211456 := by decide
            rw [← sq] at q
            show num qh ql = _
            rw [q, ← CA.out, ← sq]
            omega
          obtain ⟨m2⟩ : Nonempty (OneMem w.heap.size ah al w2 ∧ Below w.heap.size w w2) := by
            first
              | exact ⟨m.drew.below B2, below_call L.drew B2⟩
              | exact ⟨(m.alloc _).drew.below B2, below_call (below_new L _).drew B2⟩
          obtain ⟨m3⟩ : Nonempty (OneMem w.heap.size ah al w3 ∧ Below w.heap.size w w3) := by
            first
              | exact ⟨m2.1.below B3, below_call m2.2 B3⟩
              | exact ⟨(m2.1.alloc _).below B3, below_call (below_new m2.2 _) B3⟩
          obtain ⟨m2, L2⟩ := m2
          obtain ⟨m3, L3⟩ := m3
          have i2 := m2.s1
          have i3 := m3.s1
          go_wp2_with fail
          go_meet
          refine ⟨_, qh, ql, rfl, wqh, wql, HQ, ?_, ?_, ?_, ?_, ?_⟩
          · simp [go_sem, *]
          · simp [go_sem, *]
          · omega
          · first
              | exact m3.alloc _
              | exact (m3.far _ _ (by simp; omega) (by simp; omega)).far _ _ (by simp; omega) (by simp; omega)
          · first
              | exact below_new L3 _
              | exact (L3.setCell (by simp; omega) _).setCell (by simp; omega) _
      case rest =>
        obtain ⟨b, h, l, rfl, wh, wl, HQ, g0, g1, nb, m4, L4⟩ := hcut
        clear s0 s1 c0 c1 e0 e1 f0 f1
        obtain ⟨s0, s1, c0, c1, ⟨x2, e0⟩, ⟨x3, e1⟩, f0, f1⟩ := id m4
        go_wp2_with fail
        go_region
        go_wp2_with fail
        refine bodyPost_ret (v := .tuple #[.int .u64 r, .agg #[.int .u64 h, .int .u64 l]]) (by simp [results, Try.results66, go_sem, *]) rfl ?_
        refine ⟨r, h, l, rfl, wr0, wh, wl, ?_, ?_, ((L4.setCell (by simp) _).setCell (by simp) _).drew⟩
        · show (r : Int) * r + num h l = _
          rw [HQ.out]; omega
        · show num h l ≤ _
          have sq : ((r * r : Nat) : Int) = (r : Int) * r := by simp
          rw [HQ.out, ← CA.out, ← sq]; omega
    · obtain ⟨j, rfl⟩ : ∃ j, k = j + 1 := ⟨k - 1, by omega⟩
      have ej : ((j + 1 : Nat) : Int) - 1 = (j : Int) := by omega
      rw [ej]
      have t1 : (0 : Int) ≤ (j : Int) := by omega
      have t2 : (j : Int) < 64 := by omega
      have hj64 : j < 64 := by omega
      have qw := wrap_pow j hj64
      obtain ⟨b1, b2, b3⟩ := hI.bit
      obtain ⟨p1, p2⟩ := pow_word j hj64
      have qx : bits BinOp.or IntKind.u64 (r : Int) (2 ^ j) = ((r + 2 ^ j : Nat) : Int) := by
        obtain ⟨o1, o2⟩ := or_bit (r : Int) (2 ^ j) ⟨by omega, by omega⟩ p1
        rw [Int.toNat_natCast, p2, b1] at o2
        rw [← o2]; exact (Int.toNat_of_nonneg o1.1).symm
      have wx : Word ((r + 2 ^ j : Nat) : Int) := ⟨Int.natCast_nonneg _, by omega⟩
      have hT := fun c => hI.take (k := j) c
      have hV := fun c => hI.leave (k := j) c
      generalize hX : r + 2 ^ j = X at *
      clear hX b1 b3
      go_wp2_with fail
      go_region_held3 (fun w' => w'.cell? ⟨w.heap.size, 0, none⟩ = some (.int .u64 ah) ∧ w'.cell? ⟨w.heap.size, 1, none⟩ = some (.int .u64 al))
        (first | exact ⟨c0, c1⟩ | (simp [go_sem, *]; done))
        (first
          | (go_at_call 51; refine (rmul_any X X wx wx _).mono ?_; rintro e w2 ⟨ph, pl, rfl, wph, wpl, P, B2⟩; replace c0 := cell_on B2 c0; replace c1 := cell_on B2 c1; have L2 := below_call L.drew B2)
          | (go_at_call 89; refine (rcmp_any ph pl ah al wph wpl h1 h2 _).mono ?_; rintro e w3 ⟨n, rfl, C, B3⟩; replace c0 := cell_on B3 c0; replace c1 := cell_on B3 c1; have L3 := below_call L2 B3))
      have m3 := (m.drew.below B2).below B3
      have sq : ((X * X : Nat) : Int) = (X : Int) * X := by simp
      by_cases c : X * X ≤ N ah al
      · have hn := cmpN_nonpos C.out (by rw [P.out, ← CA.out, ← sq]; omega)
        have I2 := hT c
        clear c
        go_wp2_with fail
        go_roundw
        case rel => exact ⟨j, X, by omega, rfl, rfl, b2, I2, m3, L3⟩
        case measure => simp [intOf]
      · have hn := cmpN_pos C.out (by rw [P.out, ← CA.out, ← sq]; omega)
        have I2 := hV (by omega)
        clear c
        go_wp2_with fail
        go_roundw
        case rel => exact ⟨j, r, by omega, rfl, rfl, hr, I2, m3, L3⟩
        case measure => simp [intOf]
end Go.Proofs.Ytmfmjinplieehaa

