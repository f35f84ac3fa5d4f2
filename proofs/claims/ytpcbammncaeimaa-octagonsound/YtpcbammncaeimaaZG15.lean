/- Texts of the proof, put together. -/
import Derived.Test.YtpcbammncaeimaaZG14
namespace Go.Proofs.Ytpcbammncaeimaa
open Go.RowKit
set_option linter.unusedVariables false
set_option linter.unusedSimpArgs false
theorem of_rOfI (x y : Int) : ofP WyI x y = rOfI x y := by
  show (if rightP WyI (false, x, y) = true then (false, x, y) else (true, 0, 0)) = _
  rw [right_rI]
  rfl
instance (n : Nat) (i : Int) : Decidable (Isv n i) := by unfold Isv; infer_instance
def rngV (n : Nat) (e : Bool) (T : Mx) (i : Int) : Bool × Int × Int := if Isv n i ∧ e = false then rOfI (max (-(fh (T (2 * i.toNat + 1) (2 * i.toNat + 1)))) (-2147483648)) (min (fh (T (2 * i.toNat) (2 * i.toNat))) 2147483647) else (true, 0, 0)
def bndV (n : Nat) (e : Bool) (T : Mx) (i : Int) (gi : Bool) (k : Int) (gk : Bool) : Int := if Isv n i ∧ Isv n k then (if e then -1099511627776 else T (sdn i gi) (sdn k gk)) else 0
theorem rng_same {n : Nat} {e : Bool} {T T2 : Mx} (a : e = false → Agr n T T2) (i : Int) : rngV n e T i = rngV n e T2 i := by
  unfold rngV
  by_cases h : Isv n i ∧ e = false
  · rw [if_pos h, if_pos h]
    have sd := isv_sd h.1
    rw [a h.2 _ _ sd.1 sd.1, a h.2 _ _ sd.2 sd.2]
  · rw [if_neg h, if_neg h]
theorem bnd_same {n : Nat} {e : Bool} {T T2 : Mx} (a : e = false → Agr n T T2) (i : Int) (gi : Bool) (k : Int) (gk : Bool) : bndV n e T i gi k gk = bndV n e T2 i gi k gk := by
  unfold bndV
  by_cases h : Isv n i ∧ Isv n k
  · rw [if_pos h, if_pos h]
    cases e
    · simp only [Bool.false_eq_true, if_false]
      exact a rfl _ _ (sdn_lt h.1 gi) (sdn_lt h.2 gk)
    · rfl
  · rw [if_neg h, if_neg h]
set_option maxRecDepth 100000 in
set_option maxHeartbeats 1600000 in
theorem orangeF (b n : Nat) (e : Bool) (M : Mx) (i : Int) (h9 : ¬ (Isv n i ∧ e = false)) (w : World) (h : OctAt w b n e M) : Calls Try.prog 25 #[.pointer (some ⟨b, 0, none⟩), .int .i64 i] w fun r w' => r = .returned (.agg #[.bool true, .int .i64 0, .int .i64 0]) ∧ Below w.heap.size w w' := by
  obtain ⟨W, hW⟩ : ∃ W, w.alloc (.cells #[.bool false, .int .i64 0, .int .i64 0] 39) = W := ⟨_, rfl⟩
  have gW : Below w.heap.size w W := by rw [← hW]; exact (Below.refl _ _).alloc (Nat.le_refl _) _
  have hO := h.on gW
  have he := hO.he
  have r0 : W.cell? ⟨w.heap.size, 0, none⟩ = some (.bool false) := by rw [← hW]; simp [go_sem]
  have r1 : W.cell? ⟨w.heap.size, 1, none⟩ = some (.int .i64 0) := by rw [← hW]; simp [go_sem]
  have r2 : W.cell? ⟨w.heap.size, 2, none⟩ = some (.int .i64 0) := by rw [← hW]; simp [go_sem]
  have fz : ∀ j, W.frozen? ⟨w.heap.size, j, none⟩ = false := by intro j; rw [← hW]; simp [go_sem]
  by_cases ii : Isv n i
  · have he1 : e = true := by
      cases e
      · exact absurd ⟨ii, rfl⟩ h9
      · rfl
    subst he1
    have v := (oisvarZ b n true M i W hO).mono fun r w' q => (show r = .returned (.bool true) ∧ w' = W from by
      obtain ⟨⟨k, rfl, k1, k0⟩, hw⟩ := q
      cases k
      · exact absurd ii (k0 rfl)
      · exact ⟨rfl, hw⟩)
    clear h9 ii h
    go_enter Try.func25, Try.ntmps25
    go_upto_region 1 with fail
    (try rw [hW])
    clear hW
    go_wp2_with (first
      | (go_at_call 51; refine v.mono ?_; rintro r w2 ⟨rfl, hw2⟩; subst w2)
      | fail)
    exact bodyPost_ret (v := .agg #[.bool true, .int .i64 0, .int .i64 0]) (by simp [results, Try.results25, go_sem, r0, r1, r2]) rfl ⟨rfl, ((gW.setCell (p := ⟨w.heap.size, 0, none⟩) (Nat.le_refl _) _).setCell (p := ⟨w.heap.size, 1, none⟩) (Nat.le_refl _) _).setCell (p := ⟨w.heap.size, 2, none⟩) (Nat.le_refl _) _⟩
  · have v := (oisvarZ b n e M i W hO).mono fun r w' q => (show r = .returned (.bool false) ∧ w' = W from by
      obtain ⟨⟨k, rfl, k1, k0⟩, hw⟩ := q
      cases k
      · exact ⟨rfl, hw⟩
      · exact absurd (k1 rfl) ii)
    clear h9 ii h
    go_enter Try.func25, Try.ntmps25
    go_upto_region 1 with fail
    (try rw [hW])
    clear hW
    go_wp2_with (first
      | (go_at_call 51; refine v.mono ?_; rintro r w2 ⟨rfl, hw2⟩; subst w2)
      | fail)
    exact bodyPost_ret (v := .agg #[.bool true, .int .i64 0, .int .i64 0]) (by simp [results, Try.results25, go_sem, r0, r1, r2]) rfl ⟨rfl, ((gW.setCell (p := ⟨w.heap.size, 0, none⟩) (Nat.le_refl _) _).setCell (p := ⟨w.heap.size, 1, none⟩) (Nat.le_refl _) _).setCell (p := ⟨w.heap.size, 2, none⟩) (Nat.le_refl _) _⟩
set_option maxRecDepth 100000 in
set_option maxHeartbeats 800000 in
theorem orangeG (b n : Nat) (hn : n ≤ 8) (M : Mx) (i : Nat) (hi : i < n) (lo hh L H : Int) (eL : (M (2 * i + 1) (2 * i + 1)).tdiv 2 = L) (eH : (M (2 * i) (2 * i)).tdiv 2 = H) (el : max (-L) (-2147483648) = lo) (eh : min H 2147483647 = hh) (V : Bool × Int × Int) (eV : ofP WyI lo hh = V)
    (b1 : -4611686018427387904 ≤ M (2 * i + 1) (2 * i + 1)) (b2 : M (2 * i + 1) (2 * i + 1) ≤ 4611686018427387904) (b3 : -4611686018427387904 ≤ M (2 * i) (2 * i)) (b4 : M (2 * i) (2 * i) ≤ 4611686018427387904) (w : World) (h : OctAt w b n false M) :
    Calls Try.prog 25 #[.pointer (some ⟨b, 0, none⟩), .int .i64 i] w fun r w' => r = .returned (.agg #[.bool V.1, .int .i64 V.2.1, .int .i64 V.2.2]) ∧ Below w.heap.size w w' := by
  have s1 := oside i (by omega) true
  have s2 := oside i (by omega) false
  obtain ⟨W, hW⟩ : ∃ W, w.alloc (.cells #[.bool false, .int .i64 0, .int .i64 0] 39) = W := ⟨_, rfl⟩
  have gW : Below w.heap.size w W := by rw [← hW]; exact (Below.refl _ _).alloc (Nat.le_refl _) _
  have zW : w.heap.size + 1 ≤ W.heap.size := by rw [← hW]; simp
  have r0 : W.cell? ⟨w.heap.size, 0, none⟩ = some (.bool false) := by rw [← hW]; simp [go_sem]
  have r1 : W.cell? ⟨w.heap.size, 1, none⟩ = some (.int .i64 0) := by rw [← hW]; simp [go_sem]
  have r2 : W.cell? ⟨w.heap.size, 2, none⟩ = some (.int .i64 0) := by rw [← hW]; simp [go_sem]
  have fz : ∀ j, W.frozen? ⟨w.heap.size, j, none⟩ = false := by intro j; rw [← hW]; simp [go_sem]
  have hO := h.on gW
  have v1 := oisvar b n false M i hi W hO
  have he := hO.he
  have k1 := ogreat b n false M (2 * i + 1) (by omega) b1 b2 W hO
  have k2 := ogreat b n false M (2 * i) (by omega) b3 b4 W hO
  have lb : -4611686018427387904 ≤ L ∧ L ≤ 4611686018427387904 := by rw [← eL, td2]; split <;> omega
  have wn : IntKind.i64.wrap (-L) = -L := by rw [IntKind.wrap_i64]; omega
  have hb : -4611686018427387904 ≤ H ∧ H ≤ 4611686018427387904 := by rw [← eH, td2]; split <;> omega
  have ki := intOf_any lo hh (by omega) (by omega)
  clear hb
  rw [eV] at ki
  obtain ⟨Ve, Vl, Vh⟩ := V
  dsimp only at ki ⊢
  clear eV
  have kj : ∀ p q, p = lo → q = hh → ∀ V, Calls Try.prog 54 #[.int .i64 p, .int .i64 q] V fun r w' => r = .returned (.agg #[.bool Ve, .int .i64 Vl, .int .i64 Vh]) ∧ Below V.heap.size V w' := fun p q hp hq V => by rw [hp, hq]; exact ki V
  clear ki
  rw [eL] at k1
  rw [eH] at k2
  have e1 : 2 * i + false.toNat = 2 * i := rfl
  have e2 : 2 * i + true.toNat = 2 * i + 1 := rfl
  rw [e1] at s2
  rw [e2] at s1
  clear e1 e2 eL eH b1 b2 b3 b4 lb h
  generalize 2 * i + 1 = y at *
  generalize 2 * i = x at *
  go_enter Try.func25, Try.ntmps25
  go_upto_region 1 with fail
  (try rw [hW])
  clear hW
  go_wp2_with (first
    | (go_at_call 51; refine v1.mono ?_; rintro r v2 ⟨rfl, hw2⟩; subst v2; clear v1)
    | (go_at_call 53; refine (s1 _).mono ?_; rintro r v3 ⟨rfl, hw3⟩; subst v3; clear s1)
    | (go_at_call 53; refine (s2 _).mono ?_; rintro r v3 ⟨rfl, hw3⟩; subst v3; clear s2)
    | (go_at_call_of 52 y; refine k1.mono ?_; rintro r v4 ⟨rfl, hw4⟩; subst v4; clear k1)
    | (go_at_call_of 52 x; refine k2.mono ?_; rintro r v4 ⟨rfl, hw4⟩; subst v4; clear k2)
    | (go_at_call 54; refine (kj _ _ (by omega) (by omega) _).mono ?_; rintro r v5 ⟨rfl, g⟩; replace fz : ∀ j, v5.frozen? ⟨w.heap.size, j, none⟩ = false := fun j => (g.frozen (p := ⟨w.heap.size, j, none⟩) (by first | (simp; done) | (simp; omega))).trans (fz j); replace r0 := sO g r0; replace r1 := sO g r1; replace r2 := sO g r2; replace gW := sp_call gW g; clear g)
    | fail)
  all_goals exact bodyPost_ret (v := .agg #[.bool Ve, .int .i64 Vl, .int .i64 Vh]) (by simp [results, Try.results25, go_sem, r0, r1, r2]) rfl ⟨rfl, ((gW.setCell (p := ⟨w.heap.size, 0, none⟩) (Nat.le_refl _) _).setCell (p := ⟨w.heap.size, 1, none⟩) (Nat.le_refl _) _).setCell (p := ⟨w.heap.size, 2, none⟩) (Nat.le_refl _) _⟩
theorem orangeZ (b n : Nat) (hn : n ≤ 8) (e : Bool) (M : Mx) (hT : e = false → Tt n M) (i : Int) (w : World) (h : OctAt w b n e M) : Calls Try.prog 25 #[.pointer (some ⟨b, 0, none⟩), .int .i64 i] w fun r w' => r = .returned (.agg #[.bool (rngV n e M i).1, .int .i64 (rngV n e M i).2.1, .int .i64 (rngV n e M i).2.2]) ∧ Below w.heap.size w w' := by
  unfold rngV
  by_cases k : Isv n i ∧ e = false
  · rw [if_pos k]
    obtain ⟨ii, rfl⟩ := k
    have t := hT rfl
    have sd := isv_sd ii
    obtain ⟨j, rfl⟩ : ∃ j : Nat, i = j := ⟨i.toNat, by unfold Isv at ii; omega⟩
    have hj : j < n := by unfold Isv at ii; omega
    simp only [Int.toNat_natCast] at *
    have u1 := t.up _ _ sd.2 sd.2
    have l1 := t.low sd.2 sd.2
    have u2 := t.up _ _ sd.1 sd.1
    have l2 := t.low sd.1 sd.1
    exact orangeG b n hn M j hj _ _ _ _ (td_even (t.even sd.2)) (td_even (t.even sd.1)) rfl rfl _ (of_rOfI _ _) (by omega) (by omega) (by omega) (by omega) w h
  · rw [if_neg k]
    exact orangeF b n e M i k w h
end Go.Proofs.Ytpcbammncaeimaa


namespace Go.Proofs.Ytpcbammncaeimaa
open Go.RowKit
set_option linter.unusedVariables false
set_option linter.unusedSimpArgs false
set_option maxRecDepth 100000 in
theorem rvars (R : Rf) (n : Nat) (e : Bool) (M : Mx) (w : World) (h : RefAt w R n e M) : Calls Try.prog 35 #[.pointer (some ⟨R.b, 0, none⟩)] w fun r w' => r = .returned (.int .i64 n) ∧ w' = w := by
  have hv := h.hn
  go_enter Try.func35, Try.ntmps35
  go_wp2_with fail
  go_ret
  exact ⟨rfl, rfl⟩
set_option maxRecDepth 100000 in
theorem rempty (R : Rf) (n : Nat) (e : Bool) (M : Mx) (w : World) (h : RefAt w R n e M) : Calls Try.prog 36 #[.pointer (some ⟨R.b, 0, none⟩)] w fun r w' => r = .returned (.bool e) ∧ w' = w := by
  have he := h.he
  go_enter Try.func36, Try.ntmps36
  go_wp2_with fail
  go_ret
  exact ⟨rfl, rfl⟩
set_option maxRecDepth 100000 in
set_option maxHeartbeats 1600000 in
theorem rboundQ (R : Rf) (n : Nat) (hn : n ≤ 8) (e : Bool) (M : Mx) (i : Int) (gi : Bool) (k : Int) (gk : Bool) (w : World) (h : RefAt w R n e M) : Calls Try.prog 39 #[.pointer (some ⟨R.b, 0, none⟩), .int .i64 i, .bool gi, .int .i64 k, .bool gk] w fun r w' => r = .returned (.int .i64 (bndV n e M i gi k gk)) ∧ ∃ q, w' = w.drewN q := by
  unfold bndV
  have he := h.he
  by_cases ii : Isv n i
  · have k1 := rhasT R n e M i ii w h
    by_cases kk : Isv n k
    · rw [if_pos ⟨ii, kk⟩]
      have k2 := rhasT R n e M k kk w h
      cases e
      · simp only [Bool.false_eq_true, if_false]
        have hx := sdn_lt ii gi
        have hy := sdn_lt kk gk
        have s1 := rnodeZ n hn i ii gi
        have s2 := rnodeZ n hn k kk gk
        have hs := h.hs
        have r1 := h.hr _ hx
        have m1 := h.hm _ _ hx hy
        have x1 := rix2 R.pb (2 * n) R.pc _ hx
        have x2 := rix (R.rb (sdn i gi)) (2 * n) (R.rc (sdn i gi)) _ hy
        generalize M (sdn i gi) (sdn k gk) = z at *
        generalize sdn i gi = x at *
        generalize sdn k gk = y at *
        generalize 2 * n = m at *
        clear ii kk hx hy h
        go_enter Try.func39, Try.ntmps39
        go_upto_region 5 with (first
          | (go_at_call 74; with_reducible refine k1.mono ?_; rintro r w2 ⟨rfl, hw2⟩; subst w2; clear k1)
          | (go_at_call 74; with_reducible refine k2.mono ?_; rintro r w2 ⟨rfl, hw2⟩; subst w2; clear k2)
          | fail)
        go_quiet (first
          | (go_at_call_of 78 i; exact Calls.quiet_of ((s1 _).mono fun r w' q => ⟨q.1, 0, q.2⟩))
          | (go_at_call_of 78 k; exact Calls.quiet_of ((s2 _).mono fun r w' q => ⟨q.1, 0, q.2⟩))
          | fail)
        go_wp2_with fail
        go_ret
        exact ⟨rfl, _, rfl⟩
      · simp only [if_true]
        clear ii kk h
        go_enter Try.func39, Try.ntmps39
        go_wp2_with (first
          | (go_at_call 74; with_reducible refine k1.mono ?_; rintro r w2 ⟨rfl, hw2⟩; subst w2; clear k1)
          | (go_at_call 74; with_reducible refine k2.mono ?_; rintro r w2 ⟨rfl, hw2⟩; subst w2; clear k2)
          | fail)
        go_ret
        exact ⟨rfl, 0, rfl⟩
    · rw [if_neg (fun q => kk q.2)]
      have k2 := rhasF R n e M k kk w h
      clear ii kk h
      go_enter Try.func39, Try.ntmps39
      go_wp2_with (first
        | (go_at_call 74; with_reducible refine k1.mono ?_; rintro r w2 ⟨rfl, hw2⟩; subst w2; clear k1)
        | (go_at_call 74; with_reducible refine k2.mono ?_; rintro r w2 ⟨rfl, hw2⟩; subst w2; clear k2)
        | fail)
      go_ret
      exact ⟨rfl, 0, rfl⟩
  · rw [if_neg (fun q => ii q.1)]
    have k1 := rhasF R n e M i ii w h
    clear ii h
    go_enter Try.func39, Try.ntmps39
    go_wp2_with (first
      | (go_at_call 74; with_reducible refine k1.mono ?_; rintro r w2 ⟨rfl, hw2⟩; subst w2; clear k1)
      | fail)
    go_ret
    exact ⟨rfl, 0, rfl⟩
set_option maxRecDepth 100000 in
set_option maxHeartbeats 1600000 in
theorem oboundQ (b n : Nat) (hn : n ≤ 8) (e : Bool) (M : Mx) (i : Int) (gi : Bool) (k : Int) (gk : Bool) (w : World) (h : OctAt w b n e M) : Calls Try.prog 38 #[.pointer (some ⟨b, 0, none⟩), .int .i64 i, .bool gi, .int .i64 k, .bool gk] w fun r w' => r = .returned (.int .i64 (bndV n e M i gi k gk)) ∧ ∃ q, w' = w.drewN q := by
  unfold bndV
  have he := h.he
  have vT : ∀ j, Isv n j → Calls Try.prog 51 #[.pointer (some ⟨b, 0, none⟩), .int .i64 j] w fun r w' => r = .returned (.bool true) ∧ w' = w := fun j hj => (oisvarZ b n e M j w h).mono fun r w' q => by
    obtain ⟨⟨k, rfl, k1, k0⟩, hw⟩ := q
    cases k
    · exact absurd hj (k0 rfl)
    · exact ⟨rfl, hw⟩
  have vF : ∀ j, ¬ Isv n j → Calls Try.prog 51 #[.pointer (some ⟨b, 0, none⟩), .int .i64 j] w fun r w' => r = .returned (.bool false) ∧ w' = w := fun j hj => (oisvarZ b n e M j w h).mono fun r w' q => by
    obtain ⟨⟨k, rfl, k1, k0⟩, hw⟩ := q
    cases k
    · exact ⟨rfl, hw⟩
    · exact absurd (k1 rfl) hj
  by_cases ii : Isv n i
  · have k1 := vT i ii
    by_cases kk : Isv n k
    · rw [if_pos ⟨ii, kk⟩]
      have k2 := vT k kk
      cases e
      · simp only [Bool.false_eq_true, if_false]
        have := obound b n hn M i.toNat k.toNat (by unfold Isv at ii; omega) (by unfold Isv at kk; omega) gi gk w h
        rw [show ((i.toNat : Nat) : Int) = i by unfold Isv at ii; omega, show ((k.toNat : Nat) : Int) = k by unfold Isv at kk; omega] at this
        exact this
      · simp only [if_true]
        clear ii kk h vT vF
        go_enter Try.func38, Try.ntmps38
        go_wp2_with (first
          | (go_at_call 51; with_reducible refine k1.mono ?_; rintro r w2 ⟨rfl, hw2⟩; subst w2; clear k1)
          | (go_at_call 51; with_reducible refine k2.mono ?_; rintro r w2 ⟨rfl, hw2⟩; subst w2; clear k2)
          | fail)
        go_ret
        exact ⟨rfl, 0, rfl⟩
    · rw [if_neg (fun q => kk q.2)]
      have k2 := vF k kk
      clear ii kk h vT vF
      go_enter Try.func38, Try.ntmps38
      go_wp2_with (first
        | (go_at_call 51; with_reducible refine k1.mono ?_; rintro r w2 ⟨rfl, hw2⟩; subst w2; clear k1)
        | (go_at_call 51; with_reducible refine k2.mono ?_; rintro r w2 ⟨rfl, hw2⟩; subst w2; clear k2)
        | fail)
      go_ret
      exact ⟨rfl, 0, rfl⟩
  · rw [if_neg (fun q => ii q.1)]
    have k1 := vF i ii
    clear ii h vT vF
    go_enter Try.func38, Try.ntmps38
    go_wp2_with (first
      | (go_at_call 51; with_reducible refine k1.mono ?_; rintro r w2 ⟨rfl, hw2⟩; subst w2; clear k1)
      | fail)
    go_ret
    exact ⟨rfl, 0, rfl⟩
end Go.Proofs.Ytpcbammncaeimaa


namespace Go.Proofs.Ytpcbammncaeimaa
open Go.RowKit
set_option linter.unusedVariables false
set_option linter.unusedSimpArgs false
theorem bel_drewN2 {w W : World} (h : Below w.heap.size w W) (k : Nat) : Below w.heap.size w (W.drewN k) := ⟨h.os, h.tape, h.output, h.size, h.block⟩
set_option maxRecDepth 100000 in
set_option maxHeartbeats 3200000 in
theorem rrange (R : Rf) (n : Nat) (hn : n ≤ 8) (e : Bool) (M : Mx) (hT : e = false → Tt n M) (i : Int) (w : World) (h : RefAt w R n e M) : Calls Try.prog 37 #[.pointer (some ⟨R.b, 0, none⟩), .int .i64 i] w fun r w' => r = .returned (.agg #[.bool (rngV n e M i).1, .int .i64 (rngV n e M i).2.1, .int .i64 (rngV n e M i).2.2]) ∧ Below w.heap.size w w' := by
  obtain ⟨W, hW⟩ : ∃ W, w.alloc (.cells #[.bool false, .int .i64 0, .int .i64 0] 39) = W := ⟨_, rfl⟩
  have gW : Below w.heap.size w W := by rw [← hW]; exact (Below.refl _ _).alloc (Nat.le_refl _) _
  have zW : w.heap.size + 1 ≤ W.heap.size := by rw [← hW]; simp
  have hO := h.on gW
  have he := hO.he
  have r0 : W.cell? ⟨w.heap.size, 0, none⟩ = some (.bool false) := by rw [← hW]; simp [go_sem]
  have r1 : W.cell? ⟨w.heap.size, 1, none⟩ = some (.int .i64 0) := by rw [← hW]; simp [go_sem]
  have r2 : W.cell? ⟨w.heap.size, 2, none⟩ = some (.int .i64 0) := by rw [← hW]; simp [go_sem]
  have fz : ∀ j, W.frozen? ⟨w.heap.size, j, none⟩ = false := by intro j; rw [← hW]; simp [go_sem]
  have nb : ∀ V, Calls Try.prog 75 #[] V fun e w' => e = .returned (.agg #[.bool true, .int .i64 0, .int .i64 0]) ∧ Below V.heap.size V w' := fun V => (rnoneI V).mono fun e w' h => ⟨h.1, by rw [h.2]; exact sp_new (Below.refl _ _) _⟩
  unfold rngV
  by_cases ii : Isv n i
  · have k1 := rhasT R n e M i ii W hO
    cases e
    · rw [if_pos ⟨ii, rfl⟩]
      have t := hT rfl
      have sd := isv_sd ii
      obtain ⟨x, hx⟩ : ∃ x, 2 * i.toNat = x := ⟨_, rfl⟩
      obtain ⟨y, hy⟩ : ∃ y, x + 1 = y := ⟨_, rfl⟩
      rw [hx, hy] at sd ⊢
      have wx : IntKind.i64.wrap (2 * i) = (x : Int) := by unfold Isv at ii; rw [IntKind.wrap_i64]; omega
      have wy : IntKind.i64.wrap ((x : Int) + 1) = (y : Int) := by rw [IntKind.wrap_i64]; omega
      have u1 := t.up _ _ sd.2 sd.2
      have l1 := t.low sd.2 sd.2
      have u2 := t.up _ _ sd.1 sd.1
      have l2 := t.low sd.1 sd.1
      have q1 := rhalf (M y y) (by omega) (by omega)
      have q2 := rhalf (M x x) (by omega) (by omega)
      have b1 := fh_bd t sd.2
      have b2 := fh_bd t sd.1
      have wn : IntKind.i64.wrap (-(fh (M y y))) = -(fh (M y y)) := by rw [IntKind.wrap_i64]; omega
      have hs := hO.hs
      have rx := hO.hr x sd.1
      have ry := hO.hr y sd.2
      have mx := hO.hm x x sd.1 sd.1
      have my := hO.hm y y sd.2 sd.2
      have x1 := rix2 R.pb (2 * n) R.pc x sd.1
      have x2 := rix (R.rb x) (2 * n) (R.rc x) x sd.1
      have x3 := rix2 R.pb (2 * n) R.pc y sd.2
      have x4 := rix (R.rb y) (2 * n) (R.rc y) y sd.2
      have ki := rofI_any (max (-(fh (M y y))) (-2147483648)) (min (fh (M x x)) 2147483647)
      generalize rOfI (max (-(fh (M y y))) (-2147483648)) (min (fh (M x x)) 2147483647) = V at *
      obtain ⟨Ve, Vl, Vh⟩ := V
      dsimp only at ki ⊢
      generalize fh (M y y) = L at *
      generalize fh (M x x) = HH at *
      generalize M y y = zy at *
      generalize M x x = zx at *
      generalize 2 * n = m at *
      clear u1 l1 u2 l2 b1 b2 t hT hx hy ii h sd
      have hkk : ∀ p q, p = max (-L) (-2147483648) → q = min HH 2147483647 → ∀ V, Calls Try.prog 77 #[.int .i64 p, .int .i64 q] V fun e w' => e = .returned (.agg #[.bool Ve, .int .i64 Vl, .int .i64 Vh]) ∧ Below V.heap.size V w' := fun p q hp hq V => by rw [hp, hq]; exact ki V
      clear ki
      go_enter Try.func37, Try.ntmps37
      go_upto_region 1 with fail
      (try rw [hW])
      clear hW
      go_upto_region 3 with (first
        | (go_at_call 74; refine k1.mono ?_; rintro r w2 ⟨rfl, hw2⟩; subst w2)
        | fail)
      go_quiet (first
        | (go_at_call_of 76 zy; exact Calls.quiet_of ((q1 _).mono fun r w' q => ⟨q.1, 0, q.2⟩))
        | (go_at_call_of 76 zx; exact Calls.quiet_of ((q2 _).mono fun r w' q => ⟨q.1, 0, q.2⟩))
        | fail)
      replace gW : Below w.heap.size w (W.drewN nq) := bel_drewN2 gW nq
      replace r0 : (W.drewN nq).cell? ⟨w.heap.size, 0, none⟩ = some (.bool false) := r0
      replace r1 : (W.drewN nq).cell? ⟨w.heap.size, 1, none⟩ = some (.int .i64 0) := r1
      replace r2 : (W.drewN nq).cell? ⟨w.heap.size, 2, none⟩ = some (.int .i64 0) := r2
      replace fz : ∀ j, (W.drewN nq).frozen? ⟨w.heap.size, j, none⟩ = false := fz
      replace zW : w.heap.size + 1 ≤ (W.drewN nq).heap.size := zW
      clear hO he hs rx ry mx my x1 x2 x3 x4 q1 q2 k1 nb
      generalize W.drewN nq = W2 at *
      by_cases c1 : -L < -2147483648 <;> by_cases c2 : 2147483647 < HH
      all_goals
        go_wp2_with (first
          | (go_at_call 77; refine (hkk _ _ (by omega) (by omega) _).mono ?_; rintro r v5 ⟨rfl, g⟩; replace fz : ∀ j, v5.frozen? ⟨w.heap.size, j, none⟩ = false := fun j => (g.frozen (p := ⟨w.heap.size, j, none⟩) (by first | (simp; done) | (simp; omega))).trans (fz j); replace r0 := sO g r0; replace r1 := sO g r1; replace r2 := sO g r2; replace gW := sp_call gW g; clear g)
          | fail)
        exact bodyPost_ret (v := .agg #[.bool Ve, .int .i64 Vl, .int .i64 Vh]) (by simp [results, Try.results37, go_sem, r0, r1, r2]) rfl ⟨rfl, ((gW.setCell (p := ⟨w.heap.size, 0, none⟩) (Nat.le_refl _) _).setCell (p := ⟨w.heap.size, 1, none⟩) (Nat.le_refl _) _).setCell (p := ⟨w.heap.size, 2, none⟩) (Nat.le_refl _) _⟩
    · rw [if_neg (fun q => by cases q.2)]
      clear ii h hT
      go_enter Try.func37, Try.ntmps37
      go_upto_region 1 with fail
      (try rw [hW])
      clear hW
      go_wp2_with (first
        | (go_at_call 74; refine k1.mono ?_; rintro r w2 ⟨rfl, hw2⟩; subst w2)
        | (go_at_call 75; refine (nb _).mono ?_; rintro r v5 ⟨rfl, g⟩; replace fz : ∀ j, v5.frozen? ⟨w.heap.size, j, none⟩ = false := fun j => (g.frozen (p := ⟨w.heap.size, j, none⟩) (by first | (simp; done) | (simp; omega))).trans (fz j); replace r0 := sO g r0; replace r1 := sO g r1; replace r2 := sO g r2; replace gW := sp_call gW g; clear g)
        | fail)
      exact bodyPost_ret (v := .agg #[.bool true, .int .i64 0, .int .i64 0]) (by simp [results, Try.results37, go_sem, r0, r1, r2]) rfl ⟨rfl, ((gW.setCell (p := ⟨w.heap.size, 0, none⟩) (Nat.le_refl _) _).setCell (p := ⟨w.heap.size, 1, none⟩) (Nat.le_refl _) _).setCell (p := ⟨w.heap.size, 2, none⟩) (Nat.le_refl _) _⟩
  · rw [if_neg (fun q => ii q.1)]
    have k1 := rhasF R n e M i ii W hO
    clear ii h hT
    go_enter Try.func37, Try.ntmps37
    go_upto_region 1 with fail
    (try rw [hW])
    clear hW
    go_wp2_with (first
      | (go_at_call 74; refine k1.mono ?_; rintro r w2 ⟨rfl, hw2⟩; subst w2)
      | (go_at_call 75; refine (nb _).mono ?_; rintro r v5 ⟨rfl, g⟩; replace fz : ∀ j, v5.frozen? ⟨w.heap.size, j, none⟩ = false := fun j => (g.frozen (p := ⟨w.heap.size, j, none⟩) (by first | (simp; done) | (simp; omega))).trans (fz j); replace r0 := sO g r0; replace r1 := sO g r1; replace r2 := sO g r2; replace gW := sp_call gW g; clear g)
      | fail)
    exact bodyPost_ret (v := .agg #[.bool true, .int .i64 0, .int .i64 0]) (by simp [results, Try.results37, go_sem, r0, r1, r2]) rfl ⟨rfl, ((gW.setCell (p := ⟨w.heap.size, 0, none⟩) (Nat.le_refl _) _).setCell (p := ⟨w.heap.size, 1, none⟩) (Nat.le_refl _) _).setCell (p := ⟨w.heap.size, 2, none⟩) (Nat.le_refl _) _⟩
end Go.Proofs.Ytpcbammncaeimaa


namespace Go.Proofs.Ytpcbammncaeimaa
open Go.RowKit
set_option linter.unusedVariables false
set_option linter.unusedSimpArgs false
theorem bel_drewN {w W : World} (h : Below w.heap.size w W) (k : Nat) : Below w.heap.size w (W.drewN k) := ⟨h.os, h.tape, h.output, h.size, h.block⟩
theorem OctAt.dr {W V : World} {b n k : Nat} {e : Bool} {M : Mx} (h : OctAt W b n e M) (hv : V = W.drewN k) : OctAt V b n e M := hv ▸ h.drewN k
theorem bel_dr {w W V : World} {k : Nat} (h : Hid (Below w.heap.size w W)) (hv : V = W.drewN k) : Hid (Below w.heap.size w V) := hv ▸ bel_drewN h.out k
end Go.Proofs.Ytpcbammncaeimaa


namespace Go.Proofs.Ytpcbammncaeimaa
open Go.RowKit
set_option linter.unusedVariables false
set_option linter.unusedSimpArgs false
theorem RefAt.dr {W V : World} {R : Rf} {n k : Nat} {e : Bool} {M : Mx} (h : RefAt W R n e M) (hv : V = W.drewN k) : RefAt V R n e M := hv ▸ h.drewN k
set_option maxRecDepth 100000 in
set_option maxHeartbeats 6400000 in
theorem osame (bo n : Nat) (hn : n ≤ 4) (R : Rf) (e : Bool) (T T2 : Mx) (s : Sm n e T e T2) (w : World) (hO : OctAt w bo n e T) (hR : RefAt w R n e T2) :
    Calls Try.prog 13 #[.pointer (some ⟨bo, 0, none⟩), .pointer (some ⟨R.b, 0, none⟩)] w fun r w' => r = .returned (.bool true) ∧ Below w.heap.size w w' := by
  have v1 := fun V hV => ovars bo n e T V hV
  have v2 := fun V hV => rvars R n e T2 V hV
  have e1 := fun V hV => oempty bo n e T V hV
  have e2 := fun V hV => rempty R n e T2 V hV
  have g1 := fun i V hV => orangeZ bo n (by omega) e T (fun q => (s.2 q).2) i V hV
  have g2 := fun i V hV => rrange R n (by omega) e T2 (fun q => (s.2 q).2.to (s.2 q).1) i V hV
  have g2' : ∀ i V, RefAt V R n e T2 → Calls Try.prog 37 #[.pointer (some ⟨R.b, 0, none⟩), .int .i64 i] V fun r w' => r = .returned (.agg #[.bool (rngV n e T i).1, .int .i64 (rngV n e T i).2.1, .int .i64 (rngV n e T i).2.2]) ∧ Below V.heap.size V w' := fun i V hV => by rw [rng_same (fun q => (s.2 q).1) i]; exact g2 i V hV
  have b1 := fun i gi k gk V hV => oboundQ bo n (by omega) e T i gi k gk V hV
  have b2 := fun i gi k gk V hV => rboundQ R n (by omega) e T2 i gi k gk V hV
  have b2' : ∀ i gi k gk V, RefAt V R n e T2 → Calls Try.prog 39 #[.pointer (some ⟨R.b, 0, none⟩), .int .i64 i, .bool gi, .int .i64 k, .bool gk] V fun r w' => r = .returned (.int .i64 (bndV n e T i gi k gk)) ∧ ∃ q, w' = V.drewN q := fun i gi k gk V hV => by rw [bnd_same (fun q => (s.2 q).1) i gi k gk]; exact b2 i gi k gk V hV
  have hn' : Hid (n ≤ 4) := hn
  clear g2 b2 s hn
  go_enter Try.func13, Try.ntmps13
  go_wp2_with (first
    | (go_at_call 22; refine (v1 _ hO).mono ?_; rintro r w2 ⟨rfl, hw2⟩; subst w2)
    | (go_at_call 35; refine (v2 _ hR).mono ?_; rintro r w2 ⟨rfl, hw2⟩; subst w2)
    | (go_at_call 21; refine (e1 _ hO).mono ?_; rintro r w2 ⟨rfl, hw2⟩; subst w2)
    | (go_at_call 36; refine (e2 _ hR).mono ?_; rintro r w2 ⟨rfl, hw2⟩; subst w2)
    | fail)
  clear v1 v2 e1 e2
  have cc0 : Hid (Below w.heap.size w w) := Below.refl _ _
  go_loopw [6] (fun j wr => ∃ (WR : World) (i : Int), WR = wr ∧ -1 ≤ i ∧ i ≤ n + 1 ∧ j = .int .i64 i ∧ OctAt wr bo n e T ∧ RefAt wr R n e T2 ∧ Hid (Below w.heap.size w wr)) (fun j _ => (n + 1 - intOf j).toNat)
  case atStart => exact ⟨_, -1, rfl, by omega, by omega, rfl, hO, hR, cc0⟩
  case round =>
    clear hO hR cc0
    obtain ⟨WR, i, rfl, i1, i2, rfl, hO, hR, cc⟩ := hrel
    by_cases ci : i ≤ n
    · have wi : IntKind.i64.wrap (i + 1) = i + 1 := by have := hn'.out; rw [IntKind.wrap_i64]; omega
      have g1i := g1 i
      have g2i := g2' i
      have b1i := b1 i
      have b2i := b2' i
      generalize rngV n e T i = V at *
      obtain ⟨Ve, Vl, Vh⟩ := V
      dsimp only at g1i g2i
      clear b1 b2' g1 g2'
      go_wp2_with (first
        | (go_at_call 25; refine (g1i _ hO).mono ?_; rintro r v2 ⟨rfl, g⟩; replace hO := hO.on g; replace hR := hR.on g; replace cc : Hid (Below w.heap.size w v2) := sp_call cc.out g; clear g)
        | (go_at_call 37; refine (g2i _ hR).mono ?_; rintro r v3 ⟨rfl, g⟩; replace hO := hO.on g; replace hR := hR.on g; replace cc : Hid (Below w.heap.size w v3) := sp_call cc.out g; clear g)
        | fail)
      clear g1i g2i
      go_loopw [7] (fun j wr => ∃ (WS : World) (k : Nat), WS = wr ∧ k ≤ n ∧ j = .int .i64 k ∧ OctAt wr bo n e T ∧ RefAt wr R n e T2 ∧ Hid (Below w.heap.size w wr)) (fun j _ => n - (intOf j).toNat)
      case atStart => exact ⟨_, 0, rfl, by omega, rfl, hO, hR, cc⟩
      case round =>
        clear hO hR cc
        obtain ⟨WS, k, rfl, hk, rfl, hO, hR, cc⟩ := hrel
        by_cases ck : k < n
        · have ck' : (k : Int) < (n : Int) := by omega
          go_wp2_with fail
          go_loopw [8] (fun j wr => ∃ (WU : World) (q : Nat), WU = wr ∧ q ≤ 4 ∧ j = .int .i64 q ∧ OctAt wr bo n e T ∧ RefAt wr R n e T2 ∧ Hid (Below w.heap.size w wr)) (fun j _ => 4 - (intOf j).toNat)
          case atStart => exact ⟨_, 0, rfl, by omega, rfl, hO, hR, cc⟩
          case round =>
            clear hO hR cc
            obtain ⟨WU, q, rfl, hq, rfl, hO, hR, cc⟩ := hrel
            by_cases cq : q < 4
            · have cq' : (q : Int) < 4 := by omega
              have wq : IntKind.i64.wrap ((q : Int) + 1) = ((q + 1 : Nat) : Int) := by rw [IntKind.wrap_i64]; omega
              have b1k := fun gi gk => b1i gi k gk
              have b2k := fun gi gk => b2i gi k gk
              go_wp2_with (first
                | (go_at_call 38; refine (b1k _ _ _ hO).mono ?_; rintro r v2 ⟨rfl, kk, hv⟩; replace hO := hO.dr hv; replace hR := hR.dr hv; replace cc := bel_dr cc hv; clear hv)
                | (go_at_call 39; refine (b2k _ _ _ hR).mono ?_; rintro r v3 ⟨rfl, kk, hv⟩; replace hO := hO.dr hv; replace hR := hR.dr hv; replace cc := bel_dr cc hv; clear hv)
                | fail)
              exact ⟨⟨_, q + 1, rfl, by omega, by simp, hO, hR, cc⟩, by simp [intOf]; omega⟩
            · have eq : q = 4 := by omega
              subst eq
              have wk : IntKind.i64.wrap ((k : Int) + 1) = ((k + 1 : Nat) : Int) := by have := hn'.out; rw [IntKind.wrap_i64]; omega
              go_wp2_with fail
              go_roundw
              case rel => exact ⟨_, k + 1, rfl, by omega, by first | rfl | go_num, hO, hR, cc⟩
              case measure => simp [intOf]; omega
        · have ek : k = n := by omega
          subst ek
          go_wp2_with fail
          go_roundw
          case rel => exact ⟨_, i + 1, rfl, by omega, by omega, by first | rfl | go_num, hO, hR, cc⟩
          case measure => simp [intOf]; omega
    · clear g1 g2' b1 b2'
      go_wp2_with fail
      go_ret
      exact ⟨rfl, cc.out⟩
set_option maxRecDepth 100000 in
set_option maxHeartbeats 1600000 in
theorem law_plays (nn : Int) (h0 : 0 ≤ nn) (h1 : nn ≤ 255) (sv : Value) (ds : List Dd) (w : World) (hs : SlDd w sv ds) :
    Calls Try.prog 3 #[.int .u8 nn, sv] w fun r w' => r = .returned (.bool true) ∧ Below w.heap.size w w' := by
  obtain ⟨n, hn⟩ : ∃ n : Nat, (n : Int) = nn % 4 + 1 := ⟨(nn % 4 + 1).toNat, by omega⟩
  have kp := oplay nn h0 h1 sv ds w hs n hn
  have hn4 : n ≤ 4 := by omega
  have kl := olive
  have ks := fun bo R e T T2 s V hO hR => osame bo n hn4 R e T T2 s V hO hR
  clear h0 h1 hs hn hn4
  go_enter Try.func3, Try.ntmps3
  go_wp2_with (first
    | (go_at_call 11; refine kp.mono ?_; rintro r w1 ⟨bo, Ro, ba, Ra, e, T, T2, f, U, U2, rfl, hB⟩)
    | (go_at_call 12; refine (kl _).mono ?_; rintro r w2 ⟨rfl, g2⟩; have hO := hB.o.on g2; have hR := hB.r.on g2; have cc := sp_call hB.bl g2; have sm := Hid.out (p := Sm n e T e T2) hB.s; clear g2 hB)
    | (go_at_call 13; refine (ks bo Ro e T T2 sm _ hO hR).mono ?_; rintro r w3 ⟨rfl, g3⟩; replace cc := sp_call cc g3)
    | fail)
  go_ret
  exact ⟨rfl, cc⟩
end Go.Proofs.Ytpcbammncaeimaa


namespace Go.Proofs.Ytpcbammncaeimaa
open Go.RowKit
set_option linter.unusedVariables false
set_option linter.unusedSimpArgs false
structure Fks (w W : World) (n bf bo : Nat) (R : Rf) (e : Bool) (T T2 : Mx) (e9 : Bool) (T9 : Mx) : Prop where
  f : OctAt W bf n e9 T9
  t : e9 = false → Tt n T9
  o : OctAt W bo n e T
  r : RefAt W R n e T2
  s : Sm n e T e T2
  n1 : bf ≠ bo
  n2 : bf < R.lo ∨ R.hi ≤ bf
  z1 : w.heap.size ≤ bf
  z2 : bo < W.heap.size
  z3 : R.hi ≤ W.heap.size
  bl : Below w.heap.size w W
theorem Fks.step {w W V : World} {n bf bo b' : Nat} {R : Rf} {e e9 e' : Bool} {T T2 T9 T' : Mx} (h : Fks w W n bf bo R e T T2 e9 T9) (g : Onl bf W V) (o : OctAt V b' n e' T') (k : b' = bf ∨ W.heap.size ≤ b') (t : e' = false → Tt n T') : Fks w V n b' bo R e T T2 e' T' := by
  have q1 := g.size
  have p1 := h.n1
  have p2 := h.n2
  have y1 := h.z1
  have y2 := h.z2
  have y3 := h.z3
  have bs := h.bl.size
  refine ⟨o, t, h.o.onl g (Ne.symm p1), h.r.onl g p2, h.s, by omega, ?_, by omega, by omega, by omega, below_rg h.bl (onl_rgn g) y1⟩
  rcases k with rfl | k
  · exact p2
  · omega
set_option maxRecDepth 100000 in
set_option maxHeartbeats 6400000 in
theorem law_forks (nn : Int) (h0 : 0 ≤ nn) (h1 : nn ≤ 255) (sv : Value) (ds : List Dd) (sv2 : Value) (ds2 : List Dd) (w : World) (hs : SlDd w sv ds) (hs2 : SlDd w sv2 ds2) :
    Calls Try.prog 9 #[.int .u8 nn, sv, sv2] w fun r w' => r = .returned (.bool true) ∧ Below w.heap.size w w' := by
  obtain ⟨n, hn⟩ : ∃ n : Nat, (n : Int) = nn % 4 + 1 := ⟨(nn % 4 + 1).toNat, by omega⟩
  have kp := oplay nn h0 h1 sv ds w hs n hn
  have hn4 : n ≤ 4 := by omega
  have kl := olive
  have hn' : Hid (n ≤ 4) := hn4
  clear h0 h1 hs hn hn4
  go_enter Try.func9, Try.ntmps9
  go_upto_region 4 with (first
    | (go_at_call 11; refine kp.mono ?_; rintro r w1 ⟨bo, R, ba, Ra, e, T, T2, f, U, U2, rfl, hB⟩)
    | (go_at_call 12; refine (kl _).mono ?_; rintro r w2 ⟨rfl, g2⟩)
    | fail)
  have hO := hB.o.on g2
  have hR := hB.r.on g2
  have cc : Below w.heap.size w w2 := sp_call hB.bl g2
  have zz : Hid (Sm n e T e T2 ∧ bo < w2.heap.size ∧ R.hi ≤ w2.heap.size) := ⟨hB.s, by have := hB.z1; have := g2.size; omega, by have := hB.z3; have := g2.size; omega⟩
  have kf := ofork bo n e T w2 hO
  clear hB g2 kp kl
  go_upto_region 5 with (first
    | (go_at_call 19; refine kf.mono ?_; rintro r w3 ⟨rfl, hP, g3⟩)
    | fail)
  have hF : Fks w w3 n w2.heap.size bo R e T T2 e T := by
    have q := zz.out
    have q3 := g3.size
    have q4 := cc.size
    exact ⟨hP, fun k => (q.1.2 k).2, hO.on g3, hR.on g3, q.1, by omega, by omega, by omega, by omega, by omega, sp_call cc g3⟩
  clear hP g3 hO hR cc kf
  rcases hs2 with ⟨rfl, rfl⟩ | ⟨bk, off, cap, rfl, hlen, hok, hcell⟩
  · go_wp2_with fail
    go_loopw [11] (fun j wr => j = .int .i64 0 ∧ wr = w3) (fun _ _ => 0)
    case atStart => exact ⟨rfl, rfl⟩
    case round =>
      obtain ⟨rfl, rfl⟩ := hrel
      have ks := osame bo n hn'.out R e T T2 hF.s wr hF.o hF.r
      go_wp2_with (first
        | (go_at_call 13; refine ks.mono ?_; rintro r w5 ⟨rfl, g5⟩)
        | fail)
      go_ret
      exact ⟨rfl, sp_call hF.bl g5⟩
  · obtain ⟨len, hl⟩ : ∃ len, ds2.length = len := ⟨_, rfl⟩
    rw [hl] at hlen ⊢
    have hl' : Hid (ds2.length = len) := hl
    have ho : Hid (∀ d ∈ ds2, d.ok) := hok
    have hc : Hid (∀ j d, ds2[j]? = some d → ∀ t v, d.cell[t]? = some v → w.cell? ⟨bk, off + j * 9 + t, none⟩ = some v) := hcell
    clear hok hcell hl hlen
    go_wp2_with fail
    go_loopw [10, 11] (fun v10 v11 wr => ∃ (WR : World) (i bf : Nat) (e9 : Bool) (T9 : Mx), WR = wr ∧ i ≤ len ∧ i ≤ 8 ∧ v10 = .pointer (some ⟨bf, 0, none⟩) ∧ v11 = .int .i64 i ∧ Hid (Fks w wr n bf bo R e T T2 e9 T9)) (fun _ i _ => 8 - (intOf i).toNat)
    case atStart => exact ⟨_, 0, _, _, _, rfl, by omega, by omega, rfl, rfl, hF⟩
    case round =>
      clear hF
      obtain ⟨WR, i, bf, e9, T9, rfl, i1, i2, rfl, rfl, hF⟩ := hrel
      have ks := osame bo n hn'.out R e T T2 hF.out.s WR hF.out.o hF.out.r
      by_cases c1 : i < len
      · have c1' : (i : Int) < (len : Int) := by omega
        by_cases c2 : i < 8
        · have c2' : (i : Int) < 8 := by omega
          obtain ⟨d, hd⟩ : ∃ d, ds2[i]? = some d := ⟨_, List.getElem?_eq_getElem (by rw [hl'.out]; exact c1)⟩
          have dok := ho.out d (List.mem_of_getElem? hd)
          have x1 := dix bk off len cap i c1
          have dl := fun t v (hv : d.cell[t]? = some v) => hc.out i d hd t v hv
          have hC : Hid (Below w.heap.size w WR) := hF.out.bl
          have st := ostep bf bo n (by have := hn'.out; omega) d dok.1 dok.2 e9 e T9 T hF.out.t (fun q => (hF.out.s.2 q).2) WR hF.out.f hF.out.o
          have tt := fun er e' T' (q1 : StpR n d e9 T9 e T er e' T') => (stp_one (fun _ _ _ _ _ => rfl) hF.out.t (fun _ _ _ _ _ => rfl) (fun q => (hF.out.s.2 q).2) q1 q1).2
          have wi : IntKind.i64.wrap ((i : Int) + 1) = ((i + 1 : Nat) : Int) := by rw [IntKind.wrap_i64]; omega
          obtain ⟨kd, di, dk, ni, nk, c, ea, lo, hh⟩ := d
          simp only [Dd.v] at st
          have b0 := sO hC.out (dl 0 _ rfl)
          have b1 := sO hC.out (dl 1 _ rfl)
          have b2 := sO hC.out (dl 2 _ rfl)
          have b3 := sO hC.out (dl 3 _ rfl)
          have b4 := sO hC.out (dl 4 _ rfl)
          have b5 := sO hC.out (dl 5 _ rfl)
          have b6 := sO hC.out (dl 6 _ rfl)
          have b7 := sO hC.out (dl 7 _ rfl)
          have b8 := sO hC.out (dl 8 _ rfl)
          rw [Nat.add_zero] at b0
          clear dl dok ks hC
          generalize off + i * 9 = o9 at *
          go_upto_region 9 with (first
            | (go_at_call 20; refine st.mono ?_; rintro r w5 ⟨⟨bb, er, e1, T1, rfl, hO1, q1, kb1⟩, g1⟩)
            | fail)
          have hF2 : Hid (Fks w w5 n bb bo R e T T2 e1 T1) := hF.out.step g1 hO1 kb1 (fun q => ((tt er e1 T1 q1).2 q).2)
          clear hF st tt q1 kb1 hO1 g1 b0 b1 b2 b3 b4 b5 b6 b7 b8 x1 hd
          go_wp2_with fail
          exact ⟨⟨_, i + 1, bb, e1, T1, rfl, by omega, by omega, rfl, by simp, hF2⟩, by simp [intOf]; omega⟩
        · have e14 : i = 8 := by omega
          subst e14
          go_wp2_with (first
            | (go_at_call 13; refine ks.mono ?_; rintro r w5 ⟨rfl, g5⟩)
            | fail)
          go_ret
          exact ⟨rfl, sp_call hF.out.bl g5⟩
      · have c1' : ¬ (i : Int) < (len : Int) := by omega
        go_wp2_with (first
          | (go_at_call 13; refine ks.mono ?_; rintro r w5 ⟨rfl, g5⟩)
          | fail)
        go_ret
        exact ⟨rfl, sp_call hF.out.bl g5⟩
end Go.Proofs.Ytpcbammncaeimaa


