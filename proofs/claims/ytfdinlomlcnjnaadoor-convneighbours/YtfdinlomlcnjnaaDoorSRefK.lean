/- plumblineref03: Plain, Next, Prev and Hex. -/
import Derived.Test.YtfdinlomlcnjnaaDoorConvN
import Derived.Test.YtfdinlomlcnjnaaDoorConvHy
namespace Go.Proofs.YtfdinlomlcnjnaaDoor
open Go.RowKit
set_option linter.unusedVariables false
set_option linter.unusedSimpArgs false
theorem x3_size (A W : Nat) : (⟨(hexL A W).toArray⟩ : ByteArray).size = W := by
  show (hexL A W).toArray.size = W
  simp [hexL_len]
set_option maxHeartbeats 1600000 in
theorem rplain3_any (s : Bool) (a : Int) (h : Word a) (w : World) : Calls Tryd.prog 31 #[.int .i64 (fb s), .int .u64 a] w fun e w' => e = .returned (.int .u64 (plainF s a)) ∧ ∃ n, w' = w.drewN n := by
  have hcl := rclass_any s a h
  have hnan := rnan_any s
  have K := kindsP (cls s a)
  unfold plainF
  generalize hN : (cls s a == 0 || cls s a == 5) = N1 at *
  generalize hI : (cls s a == 1) = I1 at *
  generalize cls s a = k at *
  generalize fNan s = Q at *
  generalize fb s = f at *
  clear hN hI
  rcases K with ⟨rfl, rfl, rfl⟩ | ⟨rfl, rfl, rfl⟩ | ⟨rfl, rfl, rfl⟩ | ⟨rfl, rfl, k0, k5, k1⟩
  · go_enter Tryd.func31, Tryd.ntmps31
    go_wp2_with (first
      | (go_at_call 34; refine (hcl _).mono ?_; rintro e w1 ⟨rfl, n1, rfl⟩)
      | (go_at_call 60; refine (hnan _).mono ?_; rintro e w1 ⟨rfl, rfl⟩)
      | fail)
    go_ret
    exact ⟨rfl, n1 + 1, rfl⟩
  · go_enter Tryd.func31, Tryd.ntmps31
    go_wp2_with (first
      | (go_at_call 34; refine (hcl _).mono ?_; rintro e w1 ⟨rfl, n1, rfl⟩)
      | (go_at_call 60; refine (hnan _).mono ?_; rintro e w1 ⟨rfl, rfl⟩)
      | fail)
    go_ret
    exact ⟨rfl, n1 + 1, rfl⟩
  · go_enter Tryd.func31, Tryd.ntmps31
    go_wp2_with (first
      | (go_at_call 34; refine (hcl _).mono ?_; rintro e w1 ⟨rfl, n1, rfl⟩)
      | fail)
    go_ret
    exact ⟨rfl, n1, rfl⟩
  · go_enter Tryd.func31, Tryd.ntmps31
    go_wp2_with (first
      | (go_at_call 34; refine (hcl _).mono ?_; rintro e w1 ⟨rfl, n1, rfl⟩)
      | fail)
    go_ret
    exact ⟨rfl, n1, rfl⟩
/-- Next, as the reference reckons it. -/
theorem next_ref (s : Bool) (a : Int) (h : Word a) (f : finF s a = true) : (plainF s a = fI s - 1 → nextF s a = fI s - 1) ∧ (plainF s a ≠ fI s - 1 → sgn s (plainF s a) = true → 1 ≤ plainF s a ∧ nextF s a = plainF s (plainF s a - 1)) ∧ (plainF s a ≠ fI s - 1 → sgn s (plainF s a) = false → 0 ≤ plainF s a ∧ plainF s a + 1 < 18446744073709551616 ∧ nextF s a = plainF s a + 1) := by
  obtain ⟨b, z, rfl, hz⟩ := n_made s a h f
  have l := fI_lt s
  have fs : 0 < fS s ∧ fS s ≤ 9223372036854775808 := by cases s <;> decide
  have lp : 1 < fI s := by cases s <;> decide
  have z0s : sgn s 0 = false := by cases s <;> decide +kernel
  rw [n_plain s b z hz]
  by_cases z0 : z = 0
  · subst z0
    rw [if_pos rfl]
    have e : nextF s (sgnd s b ((0 : Nat) : Int)) = 1 := by
      cases b
      · have t := n_pos s 0 (by omega)
        rw [if_neg (by omega)] at t
        exact t
      · exact n_neg0 s
    refine ⟨fun q => by omega, fun _ q => by rw [z0s] at q; exact absurd q (by decide), fun _ _ => ⟨by omega, by omega, by rw [e]; rfl⟩⟩
  · rw [if_neg z0]
    have sg := (made s b z (by omega) (by omega)).2.2.2
    rw [sg]
    cases b
    · have t := n_pos s z hz
      have e : sgnd s false (z : Int) = z := rfl
      rw [e]
      refine ⟨fun q => by rw [t, if_pos q]; exact q, fun _ q => absurd q (by decide), fun q _ => ⟨by omega, by omega, by rw [t, if_neg q]⟩⟩
    · have t := n_neg s z z0 hz
      have e : sgnd s true (z : Int) - 1 = sgnd s true ((z - 1 : Nat) : Int) := by unfold sgnd; simp only [if_true]; omega
      have ne : sgnd s true (z : Int) ≠ fI s - 1 := by unfold sgnd; simp only [if_true]; omega
      refine ⟨fun q => absurd q ne, fun _ _ => ⟨by unfold sgnd; simp only [if_true]; omega, ?_⟩, fun _ q => absurd q (by decide)⟩
      rw [t, e, n_plain s true (z - 1) (by omega)]
      by_cases c : z = 1
      · rw [if_pos c, if_pos (by omega)]
      · rw [if_neg c, if_neg (by omega)]
set_option maxHeartbeats 3200000 in
theorem rnext3_any (s : Bool) (a : Int) (h : Word a) (w : World) : Calls Tryd.prog 27 #[.int .i64 (fb s), .int .u64 a] w fun e w' => e = .returned (.int .u64 (nextF s a)) ∧ ∃ n, w' = w.drewN n := by
  have hfi := rfinite_any s a h
  have hnan := rnan_any s
  have hmo := rmost_any s
  have hpl := rplain3_any s a h
  have hbl := rbelow_any s (plainF s a)
  have wp := n_plainw s a h
  have hp2 := fun (q : 1 ≤ plainF s a) => rplain3_any s (plainF s a - 1) ⟨by omega, by have := wp.2; omega⟩
  cases c : finF s a
  · rw [c] at hfi
    have e : nextF s a = fNan s := (n_off s a h c).1
    rw [e]
    clear hp2 e c
    generalize fNan s = Q at *
    generalize fb s = f at *
    go_enter Tryd.func27, Tryd.ntmps27
    go_wp2_with (first
      | (go_at_call 46; refine (hfi _).mono ?_; rintro e w1 ⟨rfl, n1, rfl⟩)
      | (go_at_call 60; refine (hnan _).mono ?_; rintro e w1 ⟨rfl, rfl⟩)
      | fail)
    go_ret
    exact ⟨rfl, n1 + 1, rfl⟩
  · rw [c] at hfi
    obtain ⟨N1, N2, N3⟩ := next_ref s a h c
    have p0 := wp.1
    have p1 := wp.2
    by_cases t : plainF s a = fI s - 1
    · rw [N1 t]
      rw [t] at hpl hbl
      clear N1 N2 N3 hp2 c p0 p1 t wp
      generalize fI s - 1 = M at *
      generalize fb s = f at *
      go_enter Tryd.func27, Tryd.ntmps27
      go_wp2_with (first
        | (go_at_call 46; refine (hfi _).mono ?_; rintro e w1 ⟨rfl, n1, rfl⟩)
        | (go_at_call 31; refine (hpl _).mono ?_; rintro e w1 ⟨rfl, n2, rfl⟩)
        | (go_at_call 61; refine (hmo _).mono ?_; rintro e w1 ⟨rfl, hw⟩; rw [hw]; clear hw w1)
        | fail)
      go_ret
      exact ⟨rfl, n1 + n2, rfl⟩
    · have t' : (plainF s a == fI s - 1) = false := by simp [t]
      cases g : sgn s (plainF s a)
      · obtain ⟨M0, M1, M2⟩ := N3 t g
        rw [g] at hbl
        rw [M2]
        clear N1 N2 N3 hp2 c M2 g t wp
        generalize plainF s a = A at *
        generalize fI s - 1 = M at *
        generalize fb s = f at *
        have e1 : IntKind.u64.wrap (A + 1) = A + 1 := by rw [IntKind.wrap_u64]; omega
        go_enter Tryd.func27, Tryd.ntmps27
        go_wp2_with (first
          | (go_at_call 46; refine (hfi _).mono ?_; rintro e w1 ⟨rfl, n1, rfl⟩)
          | (go_at_call 31; refine (hpl _).mono ?_; rintro e w1 ⟨rfl, n2, rfl⟩)
          | (go_at_call 61; refine (hmo _).mono ?_; rintro e w1 ⟨rfl, hw⟩; rw [hw]; clear hw w1)
          | (go_at_call 48; refine (hbl _).mono ?_; rintro e w1 ⟨rfl, hw⟩; rw [hw]; clear hw w1)
          | fail)
        go_ret
        exact ⟨rfl, n1 + n2, rfl⟩
      · obtain ⟨M0, M2⟩ := N2 t g
        have hp3 := hp2 M0
        rw [g] at hbl
        rw [M2]
        clear N1 N2 N3 hp2 c M2 g t wp
        generalize plainF s (plainF s a - 1) = R at *
        generalize plainF s a = A at *
        generalize fI s - 1 = M at *
        generalize fb s = f at *
        go_enter Tryd.func27, Tryd.ntmps27
        go_wp2_with fail
        refine (hfi _).mono ?_
        rintro e w1 ⟨rfl, n1, rfl⟩
        go_wp2_with fail
        refine (hpl _).mono ?_
        rintro e w1 ⟨rfl, n2, rfl⟩
        go_wp2_with (first
          | (go_at_call 61; refine (hmo _).mono ?_; rintro e w1 ⟨rfl, hw⟩; rw [hw]; clear hw w1)
          | (go_at_call 48; refine (hbl _).mono ?_; rintro e w1 ⟨rfl, hw⟩; rw [hw]; clear hw w1)
          | (go_at_call 31; refine (hp3 _).mono ?_; rintro e w1 ⟨rfl, n3, rfl⟩)
          | fail)
        go_ret
        exact ⟨rfl, n1 + n2 + n3, rfl⟩
set_option maxHeartbeats 1600000 in
theorem rprev3_any (s : Bool) (a : Int) (h : Word a) (w : World) : Calls Tryd.prog 29 #[.int .i64 (fb s), .int .u64 a] w fun e w' => e = .returned (.int .u64 (prevF s a)) ∧ ∃ n, w' = w.drewN n := by
  have hfi := rfinite_any s a h
  have hnan := rnan_any s
  cases c : finF s a
  · rw [c] at hfi
    have e : prevF s a = fNan s := (n_off s a h c).2
    rw [e]
    clear e c
    generalize fNan s = Q at *
    generalize fb s = f at *
    go_enter Tryd.func29, Tryd.ntmps29
    go_wp2_with (first
      | (go_at_call 46; refine (hfi _).mono ?_; rintro e w1 ⟨rfl, n1, rfl⟩)
      | (go_at_call 60; refine (hnan _).mono ?_; rintro e w1 ⟨rfl, rfl⟩)
      | fail)
    go_ret
    exact ⟨rfl, n1 + 1, rfl⟩
  · rw [c] at hfi
    have h1 := negF_word s a h
    have h2 := n_nextw s _ h1
    have h3 := negF_word s _ h2
    have p1 := rneg_any s a h
    have p2 := rnext3_any s _ h1
    have p3 := rneg_any s _ h2
    have p4 := rplain3_any s _ h3
    unfold prevF
    generalize plainF s (negF s (nextF s (negF s a))) = A4 at *
    generalize negF s (nextF s (negF s a)) = A3 at *
    generalize nextF s (negF s a) = A2 at *
    generalize negF s a = A1 at *
    clear h1 h2 h3 c
    generalize fb s = f at *
    go_enter Tryd.func29, Tryd.ntmps29
    go_wp2_with fail
    refine (hfi _).mono ?_
    rintro e w1 ⟨rfl, n1, rfl⟩
    go_wp2_with fail
    refine (p1 _).mono ?_
    rintro e w1 ⟨rfl, n2, rfl⟩
    go_wp2_with fail
    refine (p2 _).mono ?_
    rintro e w1 ⟨rfl, n3, rfl⟩
    go_wp2_with fail
    refine (p3 _).mono ?_
    rintro e w1 ⟨rfl, n4, rfl⟩
    go_wp2_with fail
    refine (p4 _).mono ?_
    rintro e w1 ⟨rfl, n5, rfl⟩
    go_wp2_with fail
    go_ret
    exact ⟨rfl, n1 + n2 + n3 + n4 + n5, rfl⟩
set_option maxRecDepth 100000 in
set_option maxHeartbeats 3200000 in
theorem rhex3_d (A : Nat) (hA : A < 18446744073709551616) (w : World) : Calls Tryd.prog 33 #[.int .i64 0, .int .u64 (A : Int)] w fun e w' => e = .returned (.string ⟨(hexL A 16).toArray⟩) ∧ Below w.heap.size w w' := by
  have a0 : (0 : Int) ≤ (A : Int) := by omega
  have a1 : (A : Int) < 18446744073709551616 := by omega
  go_enter Tryd.func33, Tryd.ntmps33
  go_wp2_with fail
  go_loopw [6, 7] (fun s i wr => ∃ k : Nat, k ≤ 16 ∧ s = .string ⟨(hexL A k).toArray⟩ ∧ i = .int .i64 k ∧ Below w.heap.size w wr) (fun _ i _ => 16 - (intOf i).toNat)
  case atStart => exact ⟨0, by omega, rfl, rfl, Below.refl _ _⟩
  case round =>
    obtain ⟨k, hk, rfl, rfl, L⟩ := hrel
    by_cases c : k < 16
    · have c' : (k : Int) < 16 := by omega
      have sz := x3_size A k
      obtain ⟨S, hS⟩ : ∃ S : ByteArray, ⟨(hexL A k).toArray⟩ = S := ⟨_, rfl⟩
      rw [hS] at sz ⊢
      obtain ⟨d, hd⟩ : ∃ d : Nat, A / 16 ^ k % 16 = d := ⟨_, rfl⟩
      have dl : d < 16 := by rw [← hd]; exact Nat.mod_lt _ (by decide)
      have e0 : (A : Int) / 2 ^ (4 * k) = ((A / 16 ^ k : Nat) : Int) := by
        have q : (2 : Int) ^ (4 * k) = ((16 ^ k : Nat) : Int) := by
          rw [show (16 : Nat) = 2 ^ 4 from rfl, ← Nat.pow_mul]
          simp
        rw [q, Int.natCast_ediv]
      have e1 : bits BinOp.and IntKind.u64 ((A : Int) / 2 ^ (4 * k)) 15 = (d : Int) := by
        rw [e0]
        have q := Nat.div_le_self A (16 ^ k)
        generalize A / 16 ^ k = y at *
        exact (and_bits y 4 15 rfl (by decide) (y : Int) rfl (by omega)).trans (by rw [show (2 : Int) ^ 4 = 16 from rfl]; omega)
      clear e0
      have m1 : (d : Int) % 256 = d := by omega
      have d0 : (0 : Int) ≤ (d : Int) := by omega
      have J : Hid ((⟨#[UInt8.ofNat (hxd d)]⟩ : ByteArray) ++ S = ⟨(hexL A (k + 1)).toArray⟩) := by
        show (⟨#[UInt8.ofNat (hxd d)]⟩ : ByteArray) ++ S = ⟨(hexL A (k + 1)).toArray⟩
        rw [← hS, hexL_cons, hd]
        apply ByteArray.ext
        simp
      have zz : (⟨#[UInt8.ofNat (hxd d)]⟩ : ByteArray).size = 1 := rfl
      have lim : 1 + k ≤ 9223372036854775807 := by omega
      have hcv : ∀ (W : World) (b : Nat), W.cell? ⟨b, 0, none⟩ = some (.int .u8 (hxd d : Nat)) → (convert 69 9 (.slice (some ⟨b, 0, none⟩) 1 1)).run Tryd.prog W = .ok (.string ⟨#[UInt8.ofNat (hxd d)]⟩) W := fun W b hb =>
        run_convert_bytes_back (P := Tryd.prog) W 69 9 5 ⟨b, 0, none⟩ 1 [UInt8.ofNat (hxd d)] Tryd.underlying69 Tryd.underlying5 Tryd.underlying9 (fun j hj => by
          have : j = 0 := by simpa using hj
          subst this
          refine hb.trans ?_
          have l := hxd_lt d dl
          simp [UInt8.toNat_ofNat', Nat.mod_eq_of_lt l])
      have HS : Hid _ := hS
      have HD : Hid _ := hd
      clear hd hS c
      by_cases c9 : d ≤ 9
      · have c10 : d = 0 ∨ d = 1 ∨ d = 2 ∨ d = 3 ∨ d = 4 ∨ d = 5 ∨ d = 6 ∨ d = 7 ∨ d = 8 ∨ d = 9 := by omega
        have EH : Hid (((hxd d : Nat) : Int) = 48 + d) := by
          show ((hxd d : Nat) : Int) = 48 + d
          unfold hxd; rw [if_pos (by omega)]; omega
        clear c9 dl m1 d0
        generalize hxd d = H at *
        rcases c10 with rfl | rfl | rfl | rfl | rfl | rfl | rfl | rfl | rfl | rfl
        all_goals
          go_wp2_with fail
          rw [hcv _ _ (by rw [EH.out]; simp [go_sem])]
          clear hcv
          go_wp2_with fail
          go_roundw
          case rel => exact ⟨k + 1, by omega, congrArg Value.string J.out, by go_num, below_new L _⟩
          case measure => simp [intOf]; omega
      · have c9' : (9 : Int) < (d : Int) := by omega
        have d16 : (d : Int) < 16 := by omega
        have EH : Hid (((hxd d : Nat) : Int) = 97 + d - 10) := by
          show ((hxd d : Nat) : Int) = 97 + d - 10
          unfold hxd; rw [if_neg (by omega)]; omega
        clear c9 dl
        go_wp2_with fail
        rw [hcv _ _ (by rw [EH.out]; simp [go_sem])]
        clear hcv
        go_wp2_with fail
        go_roundw
        case rel => exact ⟨k + 1, by omega, congrArg Value.string J.out, by go_num, below_new L _⟩
        case measure => simp [intOf]; omega
    · have : k = 16 := by omega
      subst this
      go_wp2_with fail
      go_ret
      exact ⟨rfl, L⟩
set_option maxRecDepth 100000 in
set_option maxHeartbeats 3200000 in
theorem rhex3_t (A : Nat) (hA' : A < 4294967296) (w : World) : Calls Tryd.prog 33 #[.int .i64 1, .int .u64 (A : Int)] w fun e w' => e = .returned (.string ⟨(hexL A 8).toArray⟩) ∧ Below w.heap.size w w' := by
  have hA : A < 18446744073709551616 := by omega
  have a0 : (0 : Int) ≤ (A : Int) := by omega
  have sh : (A : Int) / 4294967296 = 0 := by omega
  clear hA'
  go_enter Tryd.func33, Tryd.ntmps33
  go_wp2_with fail
  go_loopw [6, 7] (fun s i wr => ∃ k : Nat, k ≤ 8 ∧ s = .string ⟨(hexL A k).toArray⟩ ∧ i = .int .i64 k ∧ Below w.heap.size w wr) (fun _ i _ => 8 - (intOf i).toNat)
  case atStart => exact ⟨0, by omega, rfl, rfl, Below.refl _ _⟩
  case round =>
    obtain ⟨k, hk, rfl, rfl, L⟩ := hrel
    by_cases c : k < 8
    · have c' : (k : Int) < 8 := by omega
      have sz := x3_size A k
      obtain ⟨S, hS⟩ : ∃ S : ByteArray, ⟨(hexL A k).toArray⟩ = S := ⟨_, rfl⟩
      rw [hS] at sz ⊢
      obtain ⟨d, hd⟩ : ∃ d : Nat, A / 16 ^ k % 16 = d := ⟨_, rfl⟩
      have dl : d < 16 := by rw [← hd]; exact Nat.mod_lt _ (by decide)
      have e0 : (A : Int) / 2 ^ (4 * k) = ((A / 16 ^ k : Nat) : Int) := by
        have q : (2 : Int) ^ (4 * k) = ((16 ^ k : Nat) : Int) := by
          rw [show (16 : Nat) = 2 ^ 4 from rfl, ← Nat.pow_mul]
          simp
        rw [q, Int.natCast_ediv]
      have e1 : bits BinOp.and IntKind.u64 ((A : Int) / 2 ^ (4 * k)) 15 = (d : Int) := by
        rw [e0]
        have q := Nat.div_le_self A (16 ^ k)
        generalize A / 16 ^ k = y at *
        exact (and_bits y 4 15 rfl (by decide) (y : Int) rfl (by omega)).trans (by rw [show (2 : Int) ^ 4 = 16 from rfl]; omega)
      clear e0
      have m1 : (d : Int) % 256 = d := by omega
      have d0 : (0 : Int) ≤ (d : Int) := by omega
      have J : Hid ((⟨#[UInt8.ofNat (hxd d)]⟩ : ByteArray) ++ S = ⟨(hexL A (k + 1)).toArray⟩) := by
        show (⟨#[UInt8.ofNat (hxd d)]⟩ : ByteArray) ++ S = ⟨(hexL A (k + 1)).toArray⟩
        rw [← hS, hexL_cons, hd]
        apply ByteArray.ext
        simp
      have zz : (⟨#[UInt8.ofNat (hxd d)]⟩ : ByteArray).size = 1 := rfl
      have lim : 1 + k ≤ 9223372036854775807 := by omega
      have hcv : ∀ (W : World) (b : Nat), W.cell? ⟨b, 0, none⟩ = some (.int .u8 (hxd d : Nat)) → (convert 69 9 (.slice (some ⟨b, 0, none⟩) 1 1)).run Tryd.prog W = .ok (.string ⟨#[UInt8.ofNat (hxd d)]⟩) W := fun W b hb =>
        run_convert_bytes_back (P := Tryd.prog) W 69 9 5 ⟨b, 0, none⟩ 1 [UInt8.ofNat (hxd d)] Tryd.underlying69 Tryd.underlying5 Tryd.underlying9 (fun j hj => by
          have : j = 0 := by simpa using hj
          subst this
          refine hb.trans ?_
          have l := hxd_lt d dl
          simp [UInt8.toNat_ofNat', Nat.mod_eq_of_lt l])
      have HS : Hid _ := hS
      have HD : Hid _ := hd
      clear hd hS c
      by_cases c9 : d ≤ 9
      · have c10 : d = 0 ∨ d = 1 ∨ d = 2 ∨ d = 3 ∨ d = 4 ∨ d = 5 ∨ d = 6 ∨ d = 7 ∨ d = 8 ∨ d = 9 := by omega
        have EH : Hid (((hxd d : Nat) : Int) = 48 + d) := by
          show ((hxd d : Nat) : Int) = 48 + d
          unfold hxd; rw [if_pos (by omega)]; omega
        clear c9 dl m1 d0
        generalize hxd d = H at *
        rcases c10 with rfl | rfl | rfl | rfl | rfl | rfl | rfl | rfl | rfl | rfl
        all_goals
          go_wp2_with fail
          rw [hcv _ _ (by rw [EH.out]; simp [go_sem])]
          clear hcv
          go_wp2_with fail
          go_roundw
          case rel => exact ⟨k + 1, by omega, congrArg Value.string J.out, by go_num, below_new L _⟩
          case measure => simp [intOf]; omega
      · have c9' : (9 : Int) < (d : Int) := by omega
        have d16 : (d : Int) < 16 := by omega
        have EH : Hid (((hxd d : Nat) : Int) = 97 + d - 10) := by
          show ((hxd d : Nat) : Int) = 97 + d - 10
          unfold hxd; rw [if_neg (by omega)]; omega
        clear c9 dl
        go_wp2_with fail
        rw [hcv _ _ (by rw [EH.out]; simp [go_sem])]
        clear hcv
        go_wp2_with fail
        go_roundw
        case rel => exact ⟨k + 1, by omega, congrArg Value.string J.out, by go_num, below_new L _⟩
        case measure => simp [intOf]; omega
    · have : k = 8 := by omega
      subst this
      go_wp2_with fail
      go_ret
      exact ⟨rfl, L⟩
set_option maxRecDepth 100000 in
set_option maxHeartbeats 3200000 in
theorem rhex3_w (a : Int) (h1 : Word a) (h2 : 4294967296 ≤ a) (w : World) : Calls Tryd.prog 33 #[.int .i64 1, .int .u64 a] w fun e w' => e = .returned (.string ⟨(hexL 2143289344 8).toArray⟩) ∧ Below w.heap.size w w' := by
  obtain ⟨A, hA0⟩ : ∃ A : Nat, A = 2143289344 := ⟨_, rfl⟩
  have hA : A < 18446744073709551616 := by omega
  have a0 : (0 : Int) ≤ (A : Int) := by omega
  have x0 := h1.1
  have sh : (a / 4294967296 == 0) = false := by simp; omega
  have sh2 : ¬ a / 4294967296 = 0 := by omega
  have hnan : ∀ w, Calls Tryd.prog 60 #[.int .i64 1] w fun e w' => e = .returned (.int .u64 (A : Int)) ∧ w' = w.drew := fun w => by
    rw [hA0]
    exact rnan_any true w
  rw [← hA0]
  clear hA0
  go_enter Tryd.func33, Tryd.ntmps33
  go_wp2_with (go_at_call 60; refine (hnan _).mono ?_; rintro e w1 ⟨rfl, rfl⟩)
  go_loopw [6, 7] (fun s i wr => ∃ k : Nat, k ≤ 8 ∧ s = .string ⟨(hexL A k).toArray⟩ ∧ i = .int .i64 k ∧ Below w.heap.size w wr) (fun _ i _ => 8 - (intOf i).toNat)
  case atStart => exact ⟨0, by omega, rfl, rfl, (Below.refl _ _).drew⟩
  case round =>
    obtain ⟨k, hk, rfl, rfl, L⟩ := hrel
    by_cases c : k < 8
    · have c' : (k : Int) < 8 := by omega
      have sz := x3_size A k
      obtain ⟨S, hS⟩ : ∃ S : ByteArray, ⟨(hexL A k).toArray⟩ = S := ⟨_, rfl⟩
      rw [hS] at sz ⊢
      obtain ⟨d, hd⟩ : ∃ d : Nat, A / 16 ^ k % 16 = d := ⟨_, rfl⟩
      have dl : d < 16 := by rw [← hd]; exact Nat.mod_lt _ (by decide)
      have e0 : (A : Int) / 2 ^ (4 * k) = ((A / 16 ^ k : Nat) : Int) := by
        have q : (2 : Int) ^ (4 * k) = ((16 ^ k : Nat) : Int) := by
          rw [show (16 : Nat) = 2 ^ 4 from rfl, ← Nat.pow_mul]
          simp
        rw [q, Int.natCast_ediv]
      have e1 : bits BinOp.and IntKind.u64 ((A : Int) / 2 ^ (4 * k)) 15 = (d : Int) := by
        rw [e0]
        have q := Nat.div_le_self A (16 ^ k)
        generalize A / 16 ^ k = y at *
        exact (and_bits y 4 15 rfl (by decide) (y : Int) rfl (by omega)).trans (by rw [show (2 : Int) ^ 4 = 16 from rfl]; omega)
      clear e0
      have m1 : (d : Int) % 256 = d := by omega
      have d0 : (0 : Int) ≤ (d : Int) := by omega
      have J : Hid ((⟨#[UInt8.ofNat (hxd d)]⟩ : ByteArray) ++ S = ⟨(hexL A (k + 1)).toArray⟩) := by
        show (⟨#[UInt8.ofNat (hxd d)]⟩ : ByteArray) ++ S = ⟨(hexL A (k + 1)).toArray⟩
        rw [← hS, hexL_cons, hd]
        apply ByteArray.ext
        simp
      have zz : (⟨#[UInt8.ofNat (hxd d)]⟩ : ByteArray).size = 1 := rfl
      have lim : 1 + k ≤ 9223372036854775807 := by omega
      have hcv : ∀ (W : World) (b : Nat), W.cell? ⟨b, 0, none⟩ = some (.int .u8 (hxd d : Nat)) → (convert 69 9 (.slice (some ⟨b, 0, none⟩) 1 1)).run Tryd.prog W = .ok (.string ⟨#[UInt8.ofNat (hxd d)]⟩) W := fun W b hb =>
        run_convert_bytes_back (P := Tryd.prog) W 69 9 5 ⟨b, 0, none⟩ 1 [UInt8.ofNat (hxd d)] Tryd.underlying69 Tryd.underlying5 Tryd.underlying9 (fun j hj => by
          have : j = 0 := by simpa using hj
          subst this
          refine hb.trans ?_
          have l := hxd_lt d dl
          simp [UInt8.toNat_ofNat', Nat.mod_eq_of_lt l])
      have HS : Hid _ := hS
      have HD : Hid _ := hd
      clear hd hS c
      by_cases c9 : d ≤ 9
      · have c10 : d = 0 ∨ d = 1 ∨ d = 2 ∨ d = 3 ∨ d = 4 ∨ d = 5 ∨ d = 6 ∨ d = 7 ∨ d = 8 ∨ d = 9 := by omega
        have EH : Hid (((hxd d : Nat) : Int) = 48 + d) := by
          show ((hxd d : Nat) : Int) = 48 + d
          unfold hxd; rw [if_pos (by omega)]; omega
        clear c9 dl m1 d0
        generalize hxd d = H at *
        rcases c10 with rfl | rfl | rfl | rfl | rfl | rfl | rfl | rfl | rfl | rfl
        all_goals
          go_wp2_with fail
          rw [hcv _ _ (by rw [EH.out]; simp [go_sem])]
          clear hcv
          go_wp2_with fail
          go_roundw
          case rel => exact ⟨k + 1, by omega, congrArg Value.string J.out, by go_num, below_new L _⟩
          case measure => simp [intOf]; omega
      · have c9' : (9 : Int) < (d : Int) := by omega
        have d16 : (d : Int) < 16 := by omega
        have EH : Hid (((hxd d : Nat) : Int) = 97 + d - 10) := by
          show ((hxd d : Nat) : Int) = 97 + d - 10
          unfold hxd; rw [if_neg (by omega)]; omega
        clear c9 dl
        go_wp2_with fail
        rw [hcv _ _ (by rw [EH.out]; simp [go_sem])]
        clear hcv
        go_wp2_with fail
        go_roundw
        case rel => exact ⟨k + 1, by omega, congrArg Value.string J.out, by go_num, below_new L _⟩
        case measure => simp [intOf]; omega
    · have : k = 8 := by omega
      subst this
      go_wp2_with fail
      go_ret
      exact ⟨rfl, L⟩
/-- The reference's Hex. -/
theorem rhex3_any (s : Bool) (a : Int) (h : Word a) (w : World) : Calls Tryd.prog 33 #[.int .i64 (fb s), .int .u64 a] w fun e w' => e = .returned (.string ⟨(hexL (hexA s a).toNat (hexW s)).toArray⟩) ∧ Below w.heap.size w w' := by
  have h1 := h.1
  have h2 := h.2
  cases s
  · have e : hexA false a = a := by
      unfold hexA
      rw [if_neg]
      unfold cls
      rw [show wideB false a = false from rfl, if_neg (by decide)]
      (repeat' split) <;> decide
    obtain ⟨A, rfl⟩ := Int.eq_ofNat_of_zero_le h1
    rw [e, Int.toNat_natCast]
    exact rhex3_d A (by omega) w
  · by_cases c : a < 4294967296
    · have e : hexA true a = a := by
        unfold hexA
        rw [if_neg]
        unfold cls
        rw [show wideB true a = false by unfold wideB; simp; omega, if_neg (by decide)]
        (repeat' split) <;> decide
      obtain ⟨A, rfl⟩ := Int.eq_ofNat_of_zero_le h1
      rw [e, Int.toNat_natCast]
      exact rhex3_t A (by omega) w
    · have e : hexA true a = 2143289344 := by
        unfold hexA
        rw [if_pos]
        · rfl
        · unfold cls
          rw [show wideB true a = true by unfold wideB; simp; omega]
          rfl
      rw [e]
      exact rhex3_w a h (by omega) w
end Go.Proofs.YtfdinlomlcnjnaaDoor

