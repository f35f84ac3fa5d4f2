/- Texts of the proof, put together. -/
import Derived.Test.YtgdknlnpfnifiaaGreatTMB3
import Derived.Test.YtgdknlnpfnifiaaGreatTMB1
import Derived.Test.YtgdknlnpfnifiaaGreatTMB2
import Derived.Test.YtgdknlnpfnifiaaGreatTG16
namespace Go.Proofs.YtgdknlnpfnifiaaGreat
open Go.RowKit
set_option linter.unusedVariables false
set_option linter.unusedSimpArgs false
def wpl (u p : Int) : Int := u * 2 ^ (min p 64).toNat / 2 ^ (-p).toNat
theorem wpl_lt (u p : Int) (h0 : 0 ≤ u) (hu : u < 9007199254740992) : 0 ≤ u * 2 ^ (min p 64).toNat ∧ u * 2 ^ (min p 64).toNat < 340282366920938463463374607431768211456 := by
  have k : (min p 64).toNat ≤ 64 := by omega
  have p1 : (2 : Int) ^ (min p 64).toNat ≤ 2 ^ 64 := by
    have := Nat.pow_le_pow_right (by decide : 0 < 2) k
    exact_mod_cast this
  have p0 : (0 : Int) < 2 ^ (min p 64).toNat := by
    have := Nat.two_pow_pos (min p 64).toNat
    exact_mod_cast this
  generalize (2 : Int) ^ (min p 64).toNat = P at *
  refine ⟨Int.mul_nonneg h0 (by omega), ?_⟩
  have : u * P ≤ 9007199254740992 * P := Int.mul_le_mul_of_nonneg_right (by omega) (by omega)
  have e : (2 : Int) ^ 64 = 18446744073709551616 := by decide
  omega
set_option maxHeartbeats 1600000 in
theorem wout_any (b : Bool) (u p : Int) (hu : Word u) (hu2 : u < 9007199254740992) (hp1 : -1074 ≤ p) (hp2 : p ≤ 2000) (w : World) :
    Calls Tryz.prog 181 #[.agg #[.bool b, .int .u64 u, .int .i64 p]] w fun e w' => ∃ h l : Int, e = .returned (.agg #[.int .u64 h, .int .u64 l]) ∧ Word h ∧ Word l ∧ Hid (num h l = wpl u p) ∧ Below w.heap.size w w' := by
  have hl := shl_any 0 u (min p 64) word_zero hu (by omega) (by omega)
  have lt := wpl_lt u p hu.1 hu2
  have LT : Hid _ := lt
  clear lt
  go_enter Tryz.func181, Tryz.ntmps181
  have nz : num 0 u = u := by unfold num; omega
  have hr := fun (h l : Int) (wh : Word h) (wl : Word l) => shr_any h l (-p) wh wl (by omega) (by omega)
  go_wp2_with (first
    | (go_at_call 218; refine (hl _).mono ?_; rintro e w1 ⟨h1, l1, rfl, wh1, wl1, E1, b1⟩; have c0 : w1.cell? ⟨w.heap.size, 2, none⟩ = some (.int .i64 p) := cell_on b1 (by simp [go_sem]); have sz : w.heap.size < w1.heap.size := (by have := b1.size; simp at this; omega); have sz1 : w.heap.size + 1 < w1.heap.size := (by have := b1.size; simp at this; omega); have e0 : w1.cell? ⟨w.heap.size + 1, 0, none⟩ = some (.int .u64 0) := cell_on b1 (by simp [go_sem]); have e1 : w1.cell? ⟨w.heap.size + 1, 1, none⟩ = some (.int .u64 0) := cell_on b1 (by simp [go_sem]); have g0 : w1.frozen? ⟨w.heap.size + 1, 0, none⟩ = false := ((bcell b1).2 _ _ (by simp)).trans (by simp [go_sem]); have g1 : w1.frozen? ⟨w.heap.size + 1, 1, none⟩ = false := ((bcell b1).2 _ _ (by simp)).trans (by simp [go_sem]))
    | (go_at_call 219; refine (hr _ _ wh1 wl1 _).mono ?_; rintro e w2 ⟨h2, l2, c2, rfl, wh2, wl2, E2, E3, b2⟩; clear E3; have k2 : w2.frozen? ⟨w1.heap.size, 0, none⟩ = false := ((bcell b2).2 _ _ (by simp)).trans (by simp [go_sem]); have k3 : w2.frozen? ⟨w1.heap.size, 1, none⟩ = false := ((bcell b2).2 _ _ (by simp)).trans (by simp [go_sem]); have d2 : w2.cell? ⟨w1.heap.size, 0, none⟩ = some (.int .u64 h1) := cell_on b2 (by simp [go_sem]); have d3 : w2.cell? ⟨w1.heap.size, 1, none⟩ = some (.int .u64 l1) := cell_on b2 (by simp [go_sem]); have e2 : w2.cell? ⟨w.heap.size + 1, 0, none⟩ = some (.int .u64 0) := cell_on b2 (cell_past e0 _); have e3 : w2.cell? ⟨w.heap.size + 1, 1, none⟩ = some (.int .u64 0) := cell_on b2 (cell_past e1 _); have g2 : w2.frozen? ⟨w.heap.size + 1, 0, none⟩ = false := ((bcell b2).2 _ _ (by simp; omega)).trans (by simp [go_sem, *]); have g3 : w2.frozen? ⟨w.heap.size + 1, 1, none⟩ = false := ((bcell b2).2 _ _ (by simp; omega)).trans (by simp [go_sem, *]); have ne : ¬ w1.heap.size = w.heap.size + 1 := by omega))
  refine bodyPost_ret (v := .agg #[.int .u64 h2, .int .u64 l2]) (by simp [results, Tryz.results181, go_sem, *]) rfl ?_
  refine ⟨_, _, rfl, wh2, wl2, ?_, ?_⟩
  · show num h2 l2 = wpl u p
    rw [E2.out, E1.out, nz, Int.emod_eq_of_lt LT.out.1 LT.out.2]
    rfl
  · have L1 : Below w.heap.size w w1 := below_callC (below_two w _ _) b1
    have L2 := below_callC (below_new L1 _) b2
    repeat' (first | exact L2 | (with_reducible refine Below.setCell ?_ ?_ _))
    all_goals (first | exact L2 | (simp; done) | (simp; omega) | omega)
def toI (s : Bool) (a : Int) : Int := if sgn s a then - wpl (whl s a) (pwr s a) else wpl (whl s a) (pwr s a)
def inI (s : Bool) (a : Int) : Bool := finF s a && decide (-2147483648 ≤ toI s a ∧ toI s a ≤ 2147483647)
def TiJ (w : World) (a' : Act) (w' : World) : Prop := ∃ (u0 u1 u2 u3 u4 u5 u6 u7 u8 u9 u10 u11 u12 u13 u14 u15 u16 u17 u18 u19 u20 u21 u22 u23 u24 u25 u26 u27 u28 u29 u30 u31 u32 u33 u34 : Value), a' = { tmps := #[u0, u1, u2, u3, u4, u5, u6, u7, u8, u9, u10, u11, u12, u13, u14, u15, u16, u17, u18, u19, u20, u21, u22, u23, u24, u25, u26, u27, u28, u29, u30, u31, u32, u33, u34], defers := [] } ∧ Below w.heap.size w w'
theorem tiRest_eq : restOf Tryz.f116 = .seq .skip (bodyOf Tryz.f116) := by kernel_rfl
set_option maxRecDepth 1000000 in
set_option maxHeartbeats 1600000 in
theorem ti_pass (w : World) (Q : Ending → World → Prop) (hQ : ∀ w', Below w.heap.size w w' → Q (.returned (.tuple #[.int .i64 0, .bool false])) w') (a : Act) (w' : World) (hJ : TiJ w a w') :
    Code.wp Tryz.prog (bodyOf Tryz.f116) (Exit.jump 0 (fun a' w'' => TiJ w a' w'' ∧ (0 : Nat) < 0) (bodyPost Tryz.prog Tryz.f116 Q)) a w' := by
  conv => arg 2; whnf
  obtain ⟨u0, u1, u2, u3, u4, u5, u6, u7, u8, u9, u10, u11, u12, u13, u14, u15, u16, u17, u18, u19, u20, u21, u22, u23, u24, u25, u26, u27, u28, u29, u30, u31, u32, u33, u34, rfl, L⟩ := hJ
  have HQ : Hid _ := hQ
  clear hQ
  go_wp2_with fail
  exact HQ.out _ L
set_option maxRecDepth 1000000 in
set_option maxHeartbeats 6400000 in
theorem toInt_any (f a : Int) (h : Word a) (w : World) :
    Calls Tryz.prog 116 #[.int .i64 f, .int .u64 a] w fun e w' => e = .returned (.tuple #[.int .i64 (if inI (f == 1) a then toI (f == 1) a else 0), .bool (inI (f == 1) a)]) ∧ Below w.heap.size w w' := by
  have hsp := csplit_ex f a h
  have hfi := finite_fl f a h
  have hfin := fin_of (f == 1) a h
  have hlen := fun (h l : Int) (wh : Word h) (wl : Word l) => len_ex h l wh wl
  have hF : finF (f == 1) a = true → (cls (f == 1) a == 0 || cls (f == 1) a == 5) = false ∧ (cls (f == 1) a == 4) = false := fun t => by
    unfold finF at t
    generalize cls (f == 1) a = k at *
    simp at t
    rcases t with (rfl | rfl) | rfl <;> decide
  unfold cprtV at hsp
  unfold inI toI
  generalize hb : sgn (f == 1) a = b at *
  cases c : finF (f == 1) a
  · rw [c] at hfi
    clear hF hfin
    generalize whl (f == 1) a = u at *
    generalize pwr (f == 1) a = p at *
    simp only [Bool.false_and, Bool.false_eq_true, if_false]
    go_enter Tryz.func116, Tryz.ntmps116
    go_wp2_with fail
    refine wp_scope_jumps (rest := restOf Tryz.f116) 0 (TiJ w) (fun _ _ => 0) (by kernel_rfl) ?_ (fun a w' hJ => by rw [tiRest_eq]; exact wp_seq (wp_skip (ti_pass w _ (fun w' L => ⟨rfl, L⟩) a w' hJ)))
    go_wp2_with (first
      | (go_at_call 180; refine (hsp _).mono ?_; rintro e w1 ⟨rfl, o1, o2, o3, o4, o5, o6, n, rfl⟩)
      | (go_at_call 73; refine (hfi _).mono ?_; rintro e wc ⟨rfl, hb⟩))
    have Lc : Below w.heap.size w wc := below_callC (by repeat (first | with_reducible exact Below.refl _ _ | with_reducible refine below_new ?_ _ | with_reducible refine Below.drew ?_ | with_reducible refine below_dN ?_ _)) hb
    go_step3
    exact ⟨rfl, _, _, _, _, _, _, _, _, _, _, _, _, _, _, _, _, _, _, _, _, _, _, _, _, _, _, _, _, _, _, _, _, _, _, _, rfl, Lc⟩
  · obtain ⟨F1, F2⟩ := hF c
    obtain ⟨G1, _⟩ := hfin F1 F2
    obtain ⟨w1', w2', w3', w4'⟩ := fin_wordC G1
    rw [c] at hfi
    have hwo := wout_any b (whl (f == 1) a) (pwr (f == 1) a) w1' w2' w3' w4'
    simp only [Bool.true_and]
    have V0 : 0 ≤ wpl (whl (f == 1) a) (pwr (f == 1) a) := by
      unfold wpl
      exact Int.ediv_nonneg (wpl_lt _ _ w1'.1 w2').1 (by have := Nat.two_pow_pos (-(pwr (f == 1) a)).toNat; exact_mod_cast Nat.le_of_lt this)
    clear hF hfin F1 F2 G1 w2' w3' w4'
    generalize whl (f == 1) a = u at *
    generalize pwr (f == 1) a = p at *
    generalize wpl u p = V at *
    by_cases big : 4294967296 ≤ V
    · have z : decide (-2147483648 ≤ (if b = true then -V else V) ∧ (if b = true then -V else V) ≤ 2147483647) = false := by
        rw [decide_eq_false_iff_not]
        cases b
        · simp only [Bool.false_eq_true, if_false]; omega
        · simp only [if_true]; omega
      rw [z]
      simp only [Bool.false_eq_true, if_false]
      have Z : ∀ h l : Int, Word h → Word l → num h l = V → (32 : Int) < ((blen (nn h l) : Nat) : Int) := fun h l wh wl e => by
        have t : ¬ blen (nn h l) ≤ 32 := fun le => by
          have := lt_blen (nn h l)
          have := Nat.lt_of_lt_of_le this (Nat.pow_le_pow_right (by decide) le)
          unfold nn at this
          rw [e] at this
          omega
        omega
      clear z V0
      go_enter Tryz.func116, Tryz.ntmps116
      go_wp2_with fail
      refine wp_scope_jumps (rest := restOf Tryz.f116) 0 (TiJ w) (fun _ _ => 0) (by kernel_rfl) ?_ (fun a w' hJ => by rw [tiRest_eq]; exact wp_seq (wp_skip (ti_pass w _ (fun w' L => ⟨rfl, L⟩) a w' hJ)))
      go_wp2_with (first
        | (go_at_call 180; refine (hsp _).mono ?_; rintro e w1 ⟨rfl, o1, o2, o3, o4, o5, o6, n, rfl⟩)
        | (go_at_call 73; refine (hfi _).mono ?_; rintro e wc ⟨rfl, hbc⟩; have c0 : wc.cell? ⟨w.heap.size + 1 + 1 + 1 + 1 + 1 + 1 + 1, 0, none⟩ = some (.bool b) := cell_on hbc (by simp [go_sem]); have c1 : wc.cell? ⟨w.heap.size + 1 + 1 + 1 + 1 + 1 + 1 + 1, 1, none⟩ = some (.int .u64 u) := cell_on hbc (by simp [go_sem]); have c2 : wc.cell? ⟨w.heap.size + 1 + 1 + 1 + 1 + 1 + 1 + 1, 2, none⟩ = some (.int .i64 p) := cell_on hbc (by simp [go_sem]); have d0 : wc.cell? ⟨w.heap.size, 0, none⟩ = some (.int .u64 0) := cell_on hbc (by simp [go_sem]); have d1 : wc.cell? ⟨w.heap.size, 1, none⟩ = some (.int .u64 0) := cell_on hbc (by simp [go_sem]); have k0 : wc.frozen? ⟨w.heap.size, 0, none⟩ = false := ((bcell hbc).2 _ _ (by simp; omega)).trans (by simp [go_sem]); have k1 : wc.frozen? ⟨w.heap.size, 1, none⟩ = false := ((bcell hbc).2 _ _ (by simp; omega)).trans (by simp [go_sem]); have Lc : Below w.heap.size w wc := below_callC (by repeat (first | with_reducible exact Below.refl _ _ | with_reducible refine below_new ?_ _ | with_reducible refine Below.drew ?_ | with_reducible refine below_dN ?_ _)) hbc)
        | (go_at_call 181; refine (hwo _).mono ?_; rintro e wd ⟨h2, l2, rfl, wh2, wl2, E2, hbd⟩; replace k0 := ((bcell hbd).2 _ _ (lt_new d0)).trans k0; replace k1 := ((bcell hbd).2 _ _ (lt_new d1)).trans k1; replace c0 := cell_on hbd c0; replace d0 := cell_on hbd d0; replace d1 := cell_on hbd d1; have sz0 := lt_new d0; have sz7 := lt_new c0; have Ld := below_callC Lc hbd; have Zb := Z h2 l2 wh2 wl2 E2.out)
        | (go_at_call 182; refine (hlen _ _ wh2 wl2 _).mono ?_; rintro e we ⟨rfl, rfl⟩))
      go_step3
      exact ⟨rfl, _, _, _, _, _, _, _, _, _, _, _, _, _, _, _, _, _, _, _, _, _, _, _, _, _, _, _, _, _, _, _, _, _, _, _, rfl, below_new ((Ld.setCell (Nat.le_refl _) _).setCell (Nat.le_refl _) _) _⟩
    · have hV : V < 4294967296 := by omega
      have Z : ∀ h l : Int, Word h → Word l → num h l = V → h = 0 ∧ l = V ∧ ¬ (32 : Int) < ((blen (nn h l) : Nat) : Int) := fun h l wh wl e => by
        have e2 := e
        have := wh.1; have := wl.1; have := wl.2
        unfold num at e
        refine ⟨by omega, by omega, ?_⟩
        have t : blen (nn h l) ≤ 32 := blen_le_of (by unfold nn; rw [e2]; omega)
        omega
      clear big
      have wV : Word V := ⟨V0, by omega⟩
      cases b
      · simp only [Bool.false_eq_true, if_false]
        by_cases r : V ≤ 2147483647
        · rw [decide_eq_true (show -2147483648 ≤ V ∧ V ≤ 2147483647 by omega)]
          simp only [if_true]
          go_enter Tryz.func116, Tryz.ntmps116
          go_wp2_with fail
          refine wp_scope_jumps (rest := restOf Tryz.f116) 0 (fun _ _ => False) (fun _ _ => 0) (by kernel_rfl) ?_ (fun a w' hJ => hJ.elim)
          go_wp2_with (first
            | (go_at_call 180; refine (hsp _).mono ?_; rintro e w1 ⟨rfl, o1, o2, o3, o4, o5, o6, n, rfl⟩)
            | (go_at_call 73; refine (hfi _).mono ?_; rintro e wc ⟨rfl, hbc⟩; have c0 : wc.cell? ⟨w.heap.size + 1 + 1 + 1 + 1 + 1 + 1 + 1, 0, none⟩ = some (.bool false) := cell_on hbc (by simp [go_sem]); have c1 : wc.cell? ⟨w.heap.size + 1 + 1 + 1 + 1 + 1 + 1 + 1, 1, none⟩ = some (.int .u64 u) := cell_on hbc (by simp [go_sem]); have c2 : wc.cell? ⟨w.heap.size + 1 + 1 + 1 + 1 + 1 + 1 + 1, 2, none⟩ = some (.int .i64 p) := cell_on hbc (by simp [go_sem]); have d0 : wc.cell? ⟨w.heap.size, 0, none⟩ = some (.int .u64 0) := cell_on hbc (by simp [go_sem]); have d1 : wc.cell? ⟨w.heap.size, 1, none⟩ = some (.int .u64 0) := cell_on hbc (by simp [go_sem]); have k0 : wc.frozen? ⟨w.heap.size, 0, none⟩ = false := ((bcell hbc).2 _ _ (by simp; omega)).trans (by simp [go_sem]); have k1 : wc.frozen? ⟨w.heap.size, 1, none⟩ = false := ((bcell hbc).2 _ _ (by simp; omega)).trans (by simp [go_sem]); have Lc : Below w.heap.size w wc := below_callC (by repeat (first | with_reducible exact Below.refl _ _ | with_reducible refine below_new ?_ _ | with_reducible refine Below.drew ?_ | with_reducible refine below_dN ?_ _)) hbc)
            | (go_at_call 181; refine (hwo _).mono ?_; rintro e wd ⟨h2, l2, rfl, wh2, wl2, E2, hbd⟩; replace k0 := ((bcell hbd).2 _ _ (lt_new d0)).trans k0; replace k1 := ((bcell hbd).2 _ _ (lt_new d1)).trans k1; replace c0 := cell_on hbd c0; replace d0 := cell_on hbd d0; replace d1 := cell_on hbd d1; have sz0 := lt_new d0; have sz7 := lt_new c0; have Ld := below_callC Lc hbd; obtain ⟨rfl, rfl, Zb⟩ := Z h2 l2 wh2 wl2 E2.out; clear E2)
            | (go_at_call 182; refine (hlen _ _ wh2 wl2 _).mono ?_; rintro e we ⟨rfl, rfl⟩))
          refine jump_ret (bodyPost_ret (v := .tuple #[.int .i64 l2, .bool true]) (by simp [results, Tryz.results116, go_sem]) rfl ?_)
          exact ⟨rfl, below_new ((Ld.setCell (Nat.le_refl _) _).setCell (Nat.le_refl _) _) _⟩
        · rw [decide_eq_false (show ¬ (-2147483648 ≤ V ∧ V ≤ 2147483647) by omega)]
          simp only [Bool.false_eq_true, if_false]
          have r' : 2147483647 < V := by omega
          go_enter Tryz.func116, Tryz.ntmps116
          go_wp2_with fail
          refine wp_scope_jumps (rest := restOf Tryz.f116) 0 (TiJ w) (fun _ _ => 0) (by kernel_rfl) ?_ (fun a w' hJ => by rw [tiRest_eq]; exact wp_seq (wp_skip (ti_pass w _ (fun w' L => ⟨rfl, L⟩) a w' hJ)))
          go_wp2_with (first
            | (go_at_call 180; refine (hsp _).mono ?_; rintro e w1 ⟨rfl, o1, o2, o3, o4, o5, o6, n, rfl⟩)
            | (go_at_call 73; refine (hfi _).mono ?_; rintro e wc ⟨rfl, hbc⟩; have c0 : wc.cell? ⟨w.heap.size + 1 + 1 + 1 + 1 + 1 + 1 + 1, 0, none⟩ = some (.bool false) := cell_on hbc (by simp [go_sem]); have c1 : wc.cell? ⟨w.heap.size + 1 + 1 + 1 + 1 + 1 + 1 + 1, 1, none⟩ = some (.int .u64 u) := cell_on hbc (by simp [go_sem]); have c2 : wc.cell? ⟨w.heap.size + 1 + 1 + 1 + 1 + 1 + 1 + 1, 2, none⟩ = some (.int .i64 p) := cell_on hbc (by simp [go_sem]); have d0 : wc.cell? ⟨w.heap.size, 0, none⟩ = some (.int .u64 0) := cell_on hbc (by simp [go_sem]); have d1 : wc.cell? ⟨w.heap.size, 1, none⟩ = some (.int .u64 0) := cell_on hbc (by simp [go_sem]); have k0 : wc.frozen? ⟨w.heap.size, 0, none⟩ = false := ((bcell hbc).2 _ _ (by simp; omega)).trans (by simp [go_sem]); have k1 : wc.frozen? ⟨w.heap.size, 1, none⟩ = false := ((bcell hbc).2 _ _ (by simp; omega)).trans (by simp [go_sem]); have Lc : Below w.heap.size w wc := below_callC (by repeat (first | with_reducible exact Below.refl _ _ | with_reducible refine below_new ?_ _ | with_reducible refine Below.drew ?_ | with_reducible refine below_dN ?_ _)) hbc)
            | (go_at_call 181; refine (hwo _).mono ?_; rintro e wd ⟨h2, l2, rfl, wh2, wl2, E2, hbd⟩; replace k0 := ((bcell hbd).2 _ _ (lt_new d0)).trans k0; replace k1 := ((bcell hbd).2 _ _ (lt_new d1)).trans k1; replace c0 := cell_on hbd c0; replace d0 := cell_on hbd d0; replace d1 := cell_on hbd d1; have sz0 := lt_new d0; have sz7 := lt_new c0; have Ld := below_callC Lc hbd; obtain ⟨rfl, rfl, Zb⟩ := Z h2 l2 wh2 wl2 E2.out; clear E2)
            | (go_at_call 182; refine (hlen _ _ wh2 wl2 _).mono ?_; rintro e we ⟨rfl, rfl⟩))
          go_step3
          exact ⟨rfl, _, _, _, _, _, _, _, _, _, _, _, _, _, _, _, _, _, _, _, _, _, _, _, _, _, _, _, _, _, _, _, _, _, _, _, rfl, below_new ((Ld.setCell (Nat.le_refl _) _).setCell (Nat.le_refl _) _) _⟩
      · simp only [if_true]
        by_cases r : V ≤ 2147483648
        · rw [decide_eq_true (show -2147483648 ≤ -V ∧ -V ≤ 2147483647 by omega)]
          simp only [if_true]
          have r1 : -2147483648 ≤ -V := by omega
          have r2 : -V ≤ 2147483647 := by omega
          go_enter Tryz.func116, Tryz.ntmps116
          go_wp2_with fail
          refine wp_scope_jumps (rest := restOf Tryz.f116) 0 (fun _ _ => False) (fun _ _ => 0) (by kernel_rfl) ?_ (fun a w' hJ => hJ.elim)
          go_wp2_with (first
            | (go_at_call 180; refine (hsp _).mono ?_; rintro e w1 ⟨rfl, o1, o2, o3, o4, o5, o6, n, rfl⟩)
            | (go_at_call 73; refine (hfi _).mono ?_; rintro e wc ⟨rfl, hbc⟩; have c0 : wc.cell? ⟨w.heap.size + 1 + 1 + 1 + 1 + 1 + 1 + 1, 0, none⟩ = some (.bool true) := cell_on hbc (by simp [go_sem]); have c1 : wc.cell? ⟨w.heap.size + 1 + 1 + 1 + 1 + 1 + 1 + 1, 1, none⟩ = some (.int .u64 u) := cell_on hbc (by simp [go_sem]); have c2 : wc.cell? ⟨w.heap.size + 1 + 1 + 1 + 1 + 1 + 1 + 1, 2, none⟩ = some (.int .i64 p) := cell_on hbc (by simp [go_sem]); have d0 : wc.cell? ⟨w.heap.size, 0, none⟩ = some (.int .u64 0) := cell_on hbc (by simp [go_sem]); have d1 : wc.cell? ⟨w.heap.size, 1, none⟩ = some (.int .u64 0) := cell_on hbc (by simp [go_sem]); have k0 : wc.frozen? ⟨w.heap.size, 0, none⟩ = false := ((bcell hbc).2 _ _ (by simp; omega)).trans (by simp [go_sem]); have k1 : wc.frozen? ⟨w.heap.size, 1, none⟩ = false := ((bcell hbc).2 _ _ (by simp; omega)).trans (by simp [go_sem]); have Lc : Below w.heap.size w wc := below_callC (by repeat (first | with_reducible exact Below.refl _ _ | with_reducible refine below_new ?_ _ | with_reducible refine Below.drew ?_ | with_reducible refine below_dN ?_ _)) hbc)
            | (go_at_call 181; refine (hwo _).mono ?_; rintro e wd ⟨h2, l2, rfl, wh2, wl2, E2, hbd⟩; replace k0 := ((bcell hbd).2 _ _ (lt_new d0)).trans k0; replace k1 := ((bcell hbd).2 _ _ (lt_new d1)).trans k1; replace c0 := cell_on hbd c0; replace d0 := cell_on hbd d0; replace d1 := cell_on hbd d1; have sz0 := lt_new d0; have sz7 := lt_new c0; have Ld := below_callC Lc hbd; obtain ⟨rfl, rfl, Zb⟩ := Z h2 l2 wh2 wl2 E2.out; clear E2)
            | (go_at_call 182; refine (hlen _ _ wh2 wl2 _).mono ?_; rintro e we ⟨rfl, rfl⟩))
          refine jump_ret (bodyPost_ret (v := .tuple #[.int .i64 (-l2), .bool true]) (by simp [results, Tryz.results116, go_sem]) rfl ?_)
          exact ⟨rfl, below_new ((Ld.setCell (Nat.le_refl _) _).setCell (Nat.le_refl _) _) _⟩
        · rw [decide_eq_false (show ¬ (-2147483648 ≤ -V ∧ -V ≤ 2147483647) by omega)]
          simp only [Bool.false_eq_true, if_false]
          have r' : -V < -2147483648 := by omega
          go_enter Tryz.func116, Tryz.ntmps116
          go_wp2_with fail
          refine wp_scope_jumps (rest := restOf Tryz.f116) 0 (TiJ w) (fun _ _ => 0) (by kernel_rfl) ?_ (fun a w' hJ => by rw [tiRest_eq]; exact wp_seq (wp_skip (ti_pass w _ (fun w' L => ⟨rfl, L⟩) a w' hJ)))
          go_wp2_with (first
            | (go_at_call 180; refine (hsp _).mono ?_; rintro e w1 ⟨rfl, o1, o2, o3, o4, o5, o6, n, rfl⟩)
            | (go_at_call 73; refine (hfi _).mono ?_; rintro e wc ⟨rfl, hbc⟩; have c0 : wc.cell? ⟨w.heap.size + 1 + 1 + 1 + 1 + 1 + 1 + 1, 0, none⟩ = some (.bool true) := cell_on hbc (by simp [go_sem]); have c1 : wc.cell? ⟨w.heap.size + 1 + 1 + 1 + 1 + 1 + 1 + 1, 1, none⟩ = some (.int .u64 u) := cell_on hbc (by simp [go_sem]); have c2 : wc.cell? ⟨w.heap.size + 1 + 1 + 1 + 1 + 1 + 1 + 1, 2, none⟩ = some (.int .i64 p) := cell_on hbc (by simp [go_sem]); have d0 : wc.cell? ⟨w.heap.size, 0, none⟩ = some (.int .u64 0) := cell_on hbc (by simp [go_sem]); have d1 : wc.cell? ⟨w.heap.size, 1, none⟩ = some (.int .u64 0) := cell_on hbc (by simp [go_sem]); have k0 : wc.frozen? ⟨w.heap.size, 0, none⟩ = false := ((bcell hbc).2 _ _ (by simp; omega)).trans (by simp [go_sem]); have k1 : wc.frozen? ⟨w.heap.size, 1, none⟩ = false := ((bcell hbc).2 _ _ (by simp; omega)).trans (by simp [go_sem]); have Lc : Below w.heap.size w wc := below_callC (by repeat (first | with_reducible exact Below.refl _ _ | with_reducible refine below_new ?_ _ | with_reducible refine Below.drew ?_ | with_reducible refine below_dN ?_ _)) hbc)
            | (go_at_call 181; refine (hwo _).mono ?_; rintro e wd ⟨h2, l2, rfl, wh2, wl2, E2, hbd⟩; replace k0 := ((bcell hbd).2 _ _ (lt_new d0)).trans k0; replace k1 := ((bcell hbd).2 _ _ (lt_new d1)).trans k1; replace c0 := cell_on hbd c0; replace d0 := cell_on hbd d0; replace d1 := cell_on hbd d1; have sz0 := lt_new d0; have sz7 := lt_new c0; have Ld := below_callC Lc hbd; obtain ⟨rfl, rfl, Zb⟩ := Z h2 l2 wh2 wl2 E2.out; clear E2)
            | (go_at_call 182; refine (hlen _ _ wh2 wl2 _).mono ?_; rintro e we ⟨rfl, rfl⟩))
          go_step3
          exact ⟨rfl, _, _, _, _, _, _, _, _, _, _, _, _, _, _, _, _, _, _, _, _, _, _, _, _, _, _, _, _, _, _, _, _, _, _, _, rfl, below_new ((Ld.setCell (Nat.le_refl _) _).setCell (Nat.le_refl _) _) _⟩
end Go.Proofs.YtgdknlnpfnifiaaGreat


namespace Go.Proofs.YtgdknlnpfnifiaaGreat
open Go.RowKit
set_option linter.unusedVariables false
set_option linter.unusedSimpArgs false
end Go.Proofs.YtgdknlnpfnifiaaGreat


namespace Go.Proofs.YtgdknlnpfnifiaaGreat
open Go.RowKit
set_option linter.unusedVariables false
set_option linter.unusedSimpArgs false
theorem bk_fin (s b : Bool) (y : Nat) (h : (y : Int) < fI s) : (cls s (sgnd s b y) == 0 || cls s (sgnd s b y) == 5) = false ∧ (cls s (sgnd s b y) == 4) = false := by
  have l := fI_lt s
  refine ⟨num_made s b y (by omega) (by omega), ?_⟩
  rw [cls_made s b y (by omega) (by omega)]
  have n1 : ¬ fI s < (y : Int) := by omega
  have n2 : ¬ (y : Int) = fI s := by omega
  rw [if_neg n1, if_neg n2]
  split
  · rfl
  · split <;> rfl
theorem bk_inf (s b : Bool) : (cls s (sgnd s b (fI s)) == 0 || cls s (sgnd s b (fI s)) == 5) = false ∧ (cls s (sgnd s b (fI s)) == 4) = true ∧ sgn s (sgnd s b (fI s)) = b := by
  have l := fI_lt s
  have p : 0 ≤ fI s := by cases s <;> decide
  refine ⟨num_made s b _ p (by omega), ?_, (made s b _ p l).2.2.2⟩
  rw [cls_made s b _ p l, if_neg (by omega), if_pos rfl]
  rfl
theorem bk_cfin (s t b : Bool) (m : Int) (y : Nat) (h : (y : Int) < fI s) : cvtF s t m (sgnd s b y) = rnd t m b (whl s (sgnd s b y)).toNat (pwr s (sgnd s b y)) := by
  obtain ⟨a, c⟩ := bk_fin s b y h
  have d := self_sgn s b y h
  unfold cvtF
  rw [a, c, d]
  rfl
theorem bk_back (b : Bool) (m m' : Int) (y : Nat) (h : (y : Int) < fI true) : cvtF false true m' (cvtF true false m (sgnd true b y)) = sgnd true b y := by
  rw [bk_cfin true false b m y h]
  obtain ⟨x, q, hy, q1, q2, e1, e2⟩ := size_parts true b y h
  rw [e1, e2]
  have fi : fI true = 2139095040 := rfl
  have fi2 : fI false = 9218868437227405312 := rfl
  have fl : fL true = -149 := rfl
  have fl2 : fL false = -1074 := rfl
  have p1 : (2 : Nat) ^ fP true = 8388608 := rfl
  have p2 : (2 : Nat) ^ (fP true + 1) = 16777216 := rfl
  have p3 : (2 : Nat) ^ fP false = 4503599627370496 := rfl
  have p4 : (2 : Nat) ^ (fP false + 1) = 9007199254740992 := rfl
  by_cases q0 : q = 0
  · subst q0
    have x0 : x = 0 := by
      rcases q2 with c | c
      · exact c
      · rw [p1] at c; omega
    subst x0
    have y0 : y = 0 := by rw [hy, Nat.zero_mul]
    subst y0
    rw [rnd_zero]
    have t := bk_cfin false true b m' 0 (by rw [fi2]; decide)
    have wz : (whl false (sgnd false b 0)).toNat = 0 := by cases b <;> decide +kernel
    rw [Int.natCast_zero] at t
    rw [t, wz, rnd_zero]
    rfl
  · obtain ⟨l1, l2⟩ := blen_le q0
    have l3 := lt_blen q
    have l4 : blen q ≤ 24 := blen_le_of (by rw [p2] at q1; exact q1)
    obtain ⟨j, hj⟩ : ∃ j, j = 53 - blen q := ⟨_, rfl⟩
    have hx : x ≤ 255 := by
      have h' := h
      rw [hy, p1] at h'
      rw [fi] at h'
      omega
    obtain ⟨x', hx'⟩ : ∃ x', x' + j = 925 + x := ⟨925 + x - j, by omega⟩
    have b1 : 2 ^ 52 ≤ q * 2 ^ j := by
      have : 2 ^ (blen q - 1) * 2 ^ j ≤ q * 2 ^ j := Nat.mul_le_mul_right _ l1
      rw [← Nat.pow_add] at this
      exact Nat.le_trans (Nat.pow_le_pow_right (by decide) (by omega)) this
    have b2 : q * 2 ^ j < 2 ^ 53 := by
      have : q * 2 ^ j < 2 ^ blen q * 2 ^ j := Nat.mul_lt_mul_of_pos_right l3 (Nat.two_pow_pos _)
      rw [← Nat.pow_add] at this
      exact Nat.lt_of_lt_of_le this (Nat.pow_le_pow_right (by decide) (by omega))
    have b2' : q * 2 ^ j < 9007199254740992 := b2
    have b1' : 4503599627370496 ≤ q * 2 ^ j := b1
    have hk : ((x' * 2 ^ fP false + q * 2 ^ j : Nat) : Int) < fI false := by
      rw [p3, fi2]
      have : x' ≤ 1200 := by omega
      generalize q * 2 ^ j = Q at *
      omega
    have ex := mag_exact false m b x' (q * 2 ^ j) (by omega) (by rw [p4]; exact b2) (Or.inr (by rw [p3]; exact b1)) hk
    have sc := mag_scale false m b q0 j (-149 + (x : Int))
    rw [show -149 + (x : Int) - (j : Int) = fL false + (x' : Int) by rw [fl2]; omega, ex] at sc
    have e3 : rnd false m b q (fL true + (x : Int)) = sgnd false b ((x' * 2 ^ fP false + q * 2 ^ j : Nat) : Int) := by
      unfold rnd
      rw [if_neg q0, fl, ← sc]
    rw [e3, bk_cfin false true b m' _ hk]
    obtain ⟨x2, r, hz, r1, r2, f1, f2⟩ := size_parts false b _ hk
    rw [f1, f2]
    have uq : x2 = x' ∧ r = q * 2 ^ j := by
      rw [p3] at hz r2
      rw [p4] at r1
      generalize q * 2 ^ j = Q at *
      omega
    rw [uq.1, uq.2]
    have rs := rnd_scale true m' b q j (-149 + (x : Int))
    rw [show -149 + (x : Int) - (j : Int) = fL false + (x' : Int) by rw [fl2]; omega] at rs
    rw [rs]
    have ex2 := mag_exact true m' b x q q0 q1 q2 (by rw [← hy]; exact h)
    rw [fl] at ex2
    unfold rnd
    rw [if_neg q0, ex2, ← hy]
theorem bk_word (s t : Bool) (m a : Int) : Word (cvtF s t m a) := by
  unfold cvtF
  split
  · cases t <;> exact ⟨by decide, by decide⟩
  · split
    · have l := fI_lt t
      exact (made t _ (fI t) (by cases t <;> decide) l).1
    · obtain ⟨z, e, h0, h1⟩ := rnd_made t m (sgn s a) (whl s a).toNat (pwr s a)
      rw [e]
      have l := fI_lt t
      exact (made t _ z h0 (by omega)).1
end Go.Proofs.YtgdknlnpfnifiaaGreat


namespace Go.Proofs.YtgdknlnpfnifiaaGreat
set_option linter.unusedVariables false
set_option linter.unusedSimpArgs false
def cv (s t : Bool) (r : Int) : Int := rk t (vl s r) (fL s)
theorem cv_mono (s t : Bool) {r q : Int} (h : r ≤ q) : cv s t r ≤ cv s t q := rk_mono t (vl_mono s h) _
theorem cvt_res (s t : Bool) {r : Int} (h1 : -fI s < r) (h2 : r < fI s) : Res t (cvtF s t 0 (mk s r)) (cv s t r) := by
  obtain ⟨b, e, v, hb⟩ := mk_at s r
  have hz : ((r.natAbs : Nat) : Int) < fI s := by omega
  obtain ⟨i, pi, vi, _⟩ := parts_val s b r.natAbs hz
  rw [e, bk_cfin s t b 0 r.natAbs hz, pi]
  unfold cv
  rw [← v, vi]
  generalize (whl s (sgnd s b r.natAbs)).toNat = A
  have R := rnd_rk t b A (fL s + i)
  have S := rk_scale t (if b then -(A : Int) else A) i (fL s + i)
  rw [show fL s + (i : Int) - i = fL s by omega] at S
  rw [← S] at R
  rw [show sg b (A * 2 ^ i) = (if b then -(A : Int) else A) * 2 ^ i by unfold sg; cases b <;> simp [Int.neg_mul]]
  exact R
theorem cv_wide {r : Int} (h1 : -fI true < r) (h2 : r < fI true) : -fI false < cv true false r ∧ cv true false r < fI false := by
  have R := cvt_res true false h1 h2
  have lo := R.lo
  have hi := R.hi
  by_cases c : cv true false r = fI false ∨ cv true false r = -fI false
  · exfalso
    have i := R.inf
    have n := R.num
    rw [decide_eq_true c] at i
    obtain ⟨b, e, v, hb⟩ := mk_at true r
    have bk := bk_back b 0 0 r.natAbs (by omega)
    rw [← e] at bk
    have k := (res_mk (s := true) h1 h2).inf
    rw [decide_eq_false (by omega)] at k
    generalize cvtF true false 0 (mk true r) = X at *
    have u : cvtF false true 0 X = sgnd true (sgn false X) (fI true) := by
      unfold cvtF
      rw [n, i]
      rfl
    rw [u] at bk
    have j := (bk_inf true (sgn false X)).2.1
    rw [bk, k] at j
    cases j
  · omega
theorem fi_res (s : Bool) (n : Int) : Res s (rnd s 0 (decide (n < 0)) n.natAbs 0) (rk s n 0) := by
  have R := rnd_rk s (decide (n < 0)) n.natAbs 0
  rw [show (if decide (n < 0) = true then -((n.natAbs : Nat) : Int) else ((n.natAbs : Nat) : Int)) = n by by_cases c : n < 0 <;> simp [c] <;> omega] at R
  exact R
theorem fi_fin (s : Bool) {n : Int} (h1 : -2147483648 ≤ n) (h2 : n ≤ 2147483647) : -fI s < rk s n 0 ∧ rk s n 0 < fI s := by
  have a := rk_mono s h1 0
  have b := rk_mono s h2 0
  have c : -fI s < rk s (-2147483648) 0 := by cases s <;> decide +kernel
  have d : rk s 2147483647 0 < fI s := by cases s <;> decide +kernel
  omega
def kL (s : Bool) : Nat := if s then 149 else 1074
theorem kL_eq (s : Bool) : fL s = -(kL s : Int) := by cases s <;> rfl
def trn (s : Bool) (r : Int) : Int := if r < 0 then -((val s r.natAbs / 2 ^ kL s : Nat) : Int) else ((val s r.natAbs / 2 ^ kL s : Nat) : Int)
theorem trn_mono (s : Bool) {r q : Int} (h : r ≤ q) : trn s r ≤ trn s q := by
  have v := vl_mono s h
  unfold vl at v
  unfold trn
  generalize val s r.natAbs = A at *
  generalize val s q.natAbs = B at *
  generalize 2 ^ kL s = K
  by_cases c1 : r < 0
  · by_cases c2 : q < 0
    · rw [if_pos c1, if_pos c2] at v
      rw [if_pos c1, if_pos c2]
      have := Nat.div_le_div_right (c := K) (show B ≤ A by omega)
      omega
    · rw [if_pos c1, if_neg c2]
      generalize A / K = P
      generalize B / K = Q
      omega
  · rw [if_neg c1, if_neg (show ¬ q < 0 by omega)] at v
    rw [if_neg c1, if_neg (show ¬ q < 0 by omega)]
    have := Nat.div_le_div_right (c := K) (show A ≤ B by omega)
    omega
theorem wpl_tr (s b : Bool) (z : Nat) (h : (z : Int) < fI s) : wpl (whl s (sgnd s b z)) (pwr s (sgnd s b z)) = ((val s z / 2 ^ kL s : Nat) : Int) ∨ (2147483648 < wpl (whl s (sgnd s b z)) (pwr s (sgnd s b z)) ∧ (2147483648 : Int) < ((val s z / 2 ^ kL s : Nat) : Int)) := by
  obtain ⟨x, q, e, q1, q2, w, p⟩ := size_parts s b z h
  have k := made_fin s b z h
  have F := (fin_of s _ (sgnd_word s b z (by omega) (by omega)) k.1 k.2).1
  have wn : whl s (sgnd s b z) = (q : Int) := by have := F.1; omega
  have v : val s z = q * 2 ^ x := by rw [e]; exact val_at s x q (by omega) q2
  rw [wn, p, v, kL_eq]
  clear wn p v w F k e q1 h
  generalize hK : kL s = K
  unfold wpl
  rcases (show x ≤ K ∨ K < x by omega) with c | c
  · left
    obtain ⟨d, rfl⟩ : ∃ d, K = x + d := ⟨K - x, by omega⟩
    rw [show (min (-((x + d : Nat) : Int) + x) 64).toNat = 0 by omega, show (-(-((x + d : Nat) : Int) + x)).toNat = d by omega, Int.pow_zero, Int.mul_one, Nat.pow_add, Nat.mul_comm (2 ^ x), Nat.mul_div_mul_right _ _ (Nat.two_pow_pos x)]
    rw [Int.natCast_ediv, Int.natCast_pow]
    rfl
  · obtain ⟨d, rfl⟩ : ∃ d, x = K + d := ⟨x - K, by omega⟩
    have v2 : q * 2 ^ (K + d) / 2 ^ K = q * 2 ^ d := by
      rw [Nat.pow_add, Nat.mul_comm (2 ^ K), ← Nat.mul_assoc, Nat.mul_div_cancel _ (Nat.two_pow_pos K)]
    rw [v2, show (-(-(K : Int) + ((K + d : Nat) : Int))).toNat = 0 by omega, Int.pow_zero, Int.ediv_one]
    rcases (show d ≤ 64 ∨ 64 < d by omega) with c2 | c2
    · left
      rw [show (min (-(K : Int) + ((K + d : Nat) : Int)) 64).toNat = d by omega, Int.natCast_mul, Int.natCast_pow]
      rfl
    · right
      rw [show (min (-(K : Int) + ((K + d : Nat) : Int)) 64).toNat = 64 by omega]
      have q3 : 2 ^ 23 ≤ q := by
        rcases q2 with q2 | q2
        · omega
        · exact Nat.le_trans (Nat.pow_le_pow_right (by decide) (by cases s <;> decide)) q2
      have q4 : (8388608 : Int) ≤ q := by
        have : (2 : Nat) ^ 23 = 8388608 := by decide
        omega
      have q5 : 2 ^ 64 ≤ 2 ^ d := Nat.pow_le_pow_right (by decide) (by omega)
      have q6 : q * 2 ^ 64 ≤ q * 2 ^ d := Nat.mul_le_mul_left _ q5
      have q7 : (2 : Nat) ^ 64 = 18446744073709551616 := by decide
      have q8 : (2 : Int) ^ 64 = 18446744073709551616 := by decide
      rw [q7] at q6
      rw [q8]
      constructor <;> omega
theorem toI_mk {s : Bool} {r : Int} (h1 : -fI s < r) (h2 : r < fI s) : inI s (mk s r) = decide (-2147483648 ≤ trn s r ∧ trn s r ≤ 2147483647) ∧ (inI s (mk s r) = true → toI s (mk s r) = trn s r) := by
  have f := fin_mk (s := s) (r := r) (by omega) (by omega)
  rw [decide_eq_true ⟨h1, h2⟩] at f
  obtain ⟨b, e, _, hb⟩ := mk_at s r
  have T := wpl_tr s b r.natAbs (by omega)
  have g := self_sgn s b r.natAbs (by omega)
  have i : toI s (mk s r) = if r < 0 then -wpl (whl s (sgnd s b r.natAbs)) (pwr s (sgnd s b r.natAbs)) else wpl (whl s (sgnd s b r.natAbs)) (pwr s (sgnd s b r.natAbs)) := by
    unfold toI
    rw [e, g, hb]
    simp
  have j : inI s (mk s r) = decide (-2147483648 ≤ toI s (mk s r) ∧ toI s (mk s r) ≤ 2147483647) := by
    unfold inI
    rw [f, Bool.true_and]
  rw [j, i]
  unfold trn
  generalize wpl (whl s (sgnd s b r.natAbs)) (pwr s (sgnd s b r.natAbs)) = W at *
  generalize ((val s r.natAbs / 2 ^ kL s : Nat) : Int) = N at *
  by_cases c : r < 0
  · simp only [if_pos c]
    rcases T with T | T
    · subst T
      exact ⟨rfl, fun _ => rfl⟩
    · rw [decide_eq_false (show ¬ (-2147483648 ≤ -W ∧ -W ≤ 2147483647) by omega), decide_eq_false (show ¬ (-2147483648 ≤ -N ∧ -N ≤ 2147483647) by omega)]
      exact ⟨rfl, fun h => by cases h⟩
  · simp only [if_neg c]
    rcases T with T | T
    · subst T
      exact ⟨rfl, fun _ => rfl⟩
    · rw [decide_eq_false (show ¬ (-2147483648 ≤ W ∧ W ≤ 2147483647) by omega), decide_eq_false (show ¬ (-2147483648 ≤ N ∧ N ≤ 2147483647) by omega)]
      exact ⟨rfl, fun h => by cases h⟩
theorem trn_sign (s : Bool) (r : Int) : (r < 0 → trn s r ≤ 0) ∧ (¬ r < 0 → 0 ≤ trn s r) := by
  unfold trn
  generalize val s r.natAbs / 2 ^ kL s = P
  constructor
  · intro c; rw [if_pos c]; omega
  · intro c; rw [if_neg c]; omega
def wpF (s : Bool) (x : Int) : Int := if inI s x then toI s x else if (cmpF s x 0).1 < 0 then -2147483649 else 2147483648
theorem wp_mk {s : Bool} {r : Int} (h1 : -fI s < r) (h2 : r < fI s) : wpF s (mk s r) = max (-2147483649) (min 2147483648 (trn s r)) := by
  have t := fI_two s
  obtain ⟨i, j⟩ := toI_mk h1 h2
  have g := trn_sign s r
  have c : (cmpF s (mk s r) 0).1 = cmpI r 0 := by
    have := cmp_mk (s := s) (r := r) (q := 0) (by omega) (by omega) (by omega) (by omega)
    rw [mk_zero] at this
    rw [this]
  unfold wpF
  rw [c]
  by_cases k : -2147483648 ≤ trn s r ∧ trn s r ≤ 2147483647
  · rw [decide_eq_true k] at i
    rw [if_pos i, j i]
    omega
  · rw [decide_eq_false k] at i
    rw [i]
    simp only [Bool.false_eq_true, if_false]
    have n := neg_cmp r 0
    by_cases z : r < 0
    · rw [if_pos (n.2 z)]
      have := g.1 z
      omega
    · rw [if_neg (fun q => z (n.1 q))]
      have := g.2 z
      omega
end Go.Proofs.YtgdknlnpfnifiaaGreat


