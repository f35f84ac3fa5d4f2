/- conv.ToInt. -/
import Derived.Test.YtfdinlomlcnjnaaConvB
import Derived.Test.YtfdinlomlcnjnaaWideE
import Derived.Test.YtfdinlomlcnjnaaSoftO
namespace Go.Proofs.Ytfdinlomlcnjnaa
open Go.RowKit
set_option linter.unusedVariables false
set_option linter.unusedSimpArgs false
/-- A float's size without its places. -/
def wpl (u p : Int) : Int := u * 2 ^ (min p 64).toNat / 2 ^ (-p).toNat
theorem wpl_lt (u p : Int) (h0 : 0 ≤ u) (hu : u < 9007199254740992) : 0 ≤ u * 2 ^ (min p 64).toNat ∧ u * 2 ^ (min p 64).toNat < 340282366920938463463374607431768211456 := by
  have k : (min p 64).toNat ≤ 64 := by omega
  have p1 : (2 : Int) ^ (min p 64).toNat ≤ 2 ^ 64 := by
    have := Nat.pow_le_pow_right (by decide : 0 < 2) k
    exact_mod_cast this
  have p0 : (0 : Int) < 2 ^ (min p 64).toNat := by
    have := Nat.two_pow_pos (min p 64).toNat
    exact_mod_cast this
  generalize (2 : Int) ^ (min p 64).toNat = P at *
  refine ⟨Int.mul_nonneg h0 (by omega), ?_⟩
  have : u * P ≤ 9007199254740992 * P := Int.mul_le_mul_of_nonneg_right (by omega) (by omega)
  have e : (2 : Int) ^ 64 = 18446744073709551616 := by decide
  omega
set_option maxHeartbeats 1600000 in
theorem wout_any (b : Bool) (u p : Int) (hu : Word u) (hu2 : u < 9007199254740992) (hp1 : -1074 ≤ p) (hp2 : p ≤ 2000) (w : World) :
    Calls Try.prog 42 #[.agg #[.bool b, .int .u64 u, .int .i64 p]] w fun e w' => ∃ h l : Int, e = .returned (.agg #[.int .u64 h, .int .u64 l]) ∧ Word h ∧ Word l ∧ Hid (num h l = wpl u p) ∧ Below w.heap.size w w' := by
  have hl := shl_any 0 u (min p 64) word_zero hu (by omega) (by omega)
  have lt := wpl_lt u p hu.1 hu2
  have LT : Hid _ := lt
  clear lt
  go_enter Try.func42, Try.ntmps42
  have nz : num 0 u = u := by unfold num; omega
  have hr := fun (h l : Int) (wh : Word h) (wl : Word l) => shr_any h l (-p) wh wl (by omega) (by omega)
  go_wp2_with (first
    | (go_at_call 48; refine (hl _).mono ?_; rintro e w1 ⟨h1, l1, rfl, wh1, wl1, E1, b1⟩; have c0 : w1.cell? ⟨w.heap.size, 2, none⟩ = some (.int .i64 p) := cell_on b1 (by simp [go_sem]); have sz : w.heap.size < w1.heap.size := (by have := b1.size; simp at this; omega); have sz1 : w.heap.size + 1 < w1.heap.size := (by have := b1.size; simp at this; omega); have e0 : w1.cell? ⟨w.heap.size + 1, 0, none⟩ = some (.int .u64 0) := cell_on b1 (by simp [go_sem]); have e1 : w1.cell? ⟨w.heap.size + 1, 1, none⟩ = some (.int .u64 0) := cell_on b1 (by simp [go_sem]); have g0 : w1.frozen? ⟨w.heap.size + 1, 0, none⟩ = false := ((bcell b1).2 _ _ (by simp)).trans (by simp [go_sem]); have g1 : w1.frozen? ⟨w.heap.size + 1, 1, none⟩ = false := ((bcell b1).2 _ _ (by simp)).trans (by simp [go_sem]))
    | (go_at_call 64; refine (hr _ _ wh1 wl1 _).mono ?_; rintro e w2 ⟨h2, l2, c2, rfl, wh2, wl2, E2, E3, b2⟩; clear E3; have k2 : w2.frozen? ⟨w1.heap.size, 0, none⟩ = false := ((bcell b2).2 _ _ (by simp)).trans (by simp [go_sem]); have k3 : w2.frozen? ⟨w1.heap.size, 1, none⟩ = false := ((bcell b2).2 _ _ (by simp)).trans (by simp [go_sem]); have d2 : w2.cell? ⟨w1.heap.size, 0, none⟩ = some (.int .u64 h1) := cell_on b2 (by simp [go_sem]); have d3 : w2.cell? ⟨w1.heap.size, 1, none⟩ = some (.int .u64 l1) := cell_on b2 (by simp [go_sem]); have e2 : w2.cell? ⟨w.heap.size + 1, 0, none⟩ = some (.int .u64 0) := cell_on b2 (cell_past e0 _); have e3 : w2.cell? ⟨w.heap.size + 1, 1, none⟩ = some (.int .u64 0) := cell_on b2 (cell_past e1 _); have g2 : w2.frozen? ⟨w.heap.size + 1, 0, none⟩ = false := ((bcell b2).2 _ _ (by simp; omega)).trans (by simp [go_sem, *]); have g3 : w2.frozen? ⟨w.heap.size + 1, 1, none⟩ = false := ((bcell b2).2 _ _ (by simp; omega)).trans (by simp [go_sem, *]); have ne : ¬ w1.heap.size = w.heap.size + 1 := by omega))
  refine bodyPost_ret (v := .agg #[.int .u64 h2, .int .u64 l2]) (by simp [results, Try.results42, go_sem, *]) rfl ?_
  refine ⟨_, _, rfl, wh2, wl2, ?_, ?_⟩
  · show num h2 l2 = wpl u p
    rw [E2.out, E1.out, nz, Int.emod_eq_of_lt LT.out.1 LT.out.2]
    rfl
  · have L1 : Below w.heap.size w w1 := below_callC (below_two w _ _) b1
    have L2 := below_callC (below_new L1 _) b2
    repeat' (first | exact L2 | (with_reducible refine Below.setCell ?_ ?_ _))
    all_goals (first | exact L2 | (simp; done) | (simp; omega) | omega)
/-- A float without its places, with its sign. -/
def toI (s : Bool) (a : Int) : Int := if sgn s a then - wpl (whl s a) (pwr s a) else wpl (whl s a) (pwr s a)
/-- Is that an int of 32 bits? -/
def inI (s : Bool) (a : Int) : Bool := finF s a && decide (-2147483648 ≤ toI s a ∧ toI s a ≤ 2147483647)
def TiJ (w : World) (a' : Act) (w' : World) : Prop := ∃ (u0 u1 u2 u3 u4 u5 u6 u7 u8 u9 u10 u11 u12 u13 u14 u15 u16 u17 u18 u19 u20 u21 u22 u23 u24 u25 u26 u27 u28 u29 u30 u31 u32 u33 u34 : Value), a' = { tmps := #[u0, u1, u2, u3, u4, u5, u6, u7, u8, u9, u10, u11, u12, u13, u14, u15, u16, u17, u18, u19, u20, u21, u22, u23, u24, u25, u26, u27, u28, u29, u30, u31, u32, u33, u34], defers := [] } ∧ Below w.heap.size w w'
theorem tiRest_eq : restOf Try.f13 = .seq .skip (bodyOf Try.f13) := by kernel_rfl
set_option maxRecDepth 1000000 in
set_option maxHeartbeats 1600000 in
theorem ti_pass (w : World) (Q : Ending → World → Prop) (hQ : ∀ w', Below w.heap.size w w' → Q (.returned (.tuple #[.int .i64 0, .bool false])) w') (a : Act) (w' : World) (hJ : TiJ w a w') :
    Code.wp Try.prog (bodyOf Try.f13) (Exit.jump 0 (fun a' w'' => TiJ w a' w'' ∧ (0 : Nat) < 0) (bodyPost Try.prog Try.f13 Q)) a w' := by
  conv => arg 2; whnf
  obtain ⟨u0, u1, u2, u3, u4, u5, u6, u7, u8, u9, u10, u11, u12, u13, u14, u15, u16, u17, u18, u19, u20, u21, u22, u23, u24, u25, u26, u27, u28, u29, u30, u31, u32, u33, u34, rfl, L⟩ := hJ
  have HQ : Hid _ := hQ
  clear hQ
  go_wp2_with fail
  exact HQ.out _ L
set_option maxRecDepth 1000000 in
set_option maxHeartbeats 6400000 in
theorem toInt_any (f a : Int) (h : Word a) (w : World) :
    Calls Try.prog 13 #[.int .i64 f, .int .u64 a] w fun e w' => e = .returned (.tuple #[.int .i64 (if inI (f == 1) a then toI (f == 1) a else 0), .bool (inI (f == 1) a)]) ∧ Below w.heap.size w w' := by
  have hsp := csplit_ex f a h
  have hfi := finite_fl f a h
  have hfin := fin_of (f == 1) a h
  have hlen := fun (h l : Int) (wh : Word h) (wl : Word l) => len_ex h l wh wl
  have hF : finF (f == 1) a = true → (cls (f == 1) a == 0 || cls (f == 1) a == 5) = false ∧ (cls (f == 1) a == 4) = false := fun t => by
    unfold finF at t
    generalize cls (f == 1) a = k at *
    simp at t
    rcases t with (rfl | rfl) | rfl <;> decide
  unfold cprtV at hsp
  unfold inI toI
  generalize hb : sgn (f == 1) a = b at *
  cases c : finF (f == 1) a
  · rw [c] at hfi
    clear hF hfin
    generalize whl (f == 1) a = u at *
    generalize pwr (f == 1) a = p at *
    simp only [Bool.false_and, Bool.false_eq_true, if_false]
    go_enter Try.func13, Try.ntmps13
    go_wp2_with fail
    refine wp_scope_jumps (rest := restOf Try.f13) 0 (TiJ w) (fun _ _ => 0) (by kernel_rfl) ?_ (fun a w' hJ => by rw [tiRest_eq]; exact wp_seq (wp_skip (ti_pass w _ (fun w' L => ⟨rfl, L⟩) a w' hJ)))
    go_wp2_with (first
      | (go_at_call 40; refine (hsp _).mono ?_; rintro e w1 ⟨rfl, o1, o2, o3, o4, o5, o6, n, rfl⟩)
      | (go_at_call 41; refine (hfi _).mono ?_; rintro e wc ⟨rfl, hb⟩))
    have Lc : Below w.heap.size w wc := below_callC (by repeat (first | with_reducible exact Below.refl _ _ | with_reducible refine below_new ?_ _ | with_reducible refine Below.drew ?_ | with_reducible refine below_dN ?_ _)) hb
    go_step3
    exact ⟨rfl, _, _, _, _, _, _, _, _, _, _, _, _, _, _, _, _, _, _, _, _, _, _, _, _, _, _, _, _, _, _, _, _, _, _, _, rfl, Lc⟩
  · obtain ⟨F1, F2⟩ := hF c
    obtain ⟨G1, _⟩ := hfin F1 F2
    obtain ⟨w1', w2', w3', w4'⟩ := fin_wordC G1
    rw [c] at hfi
    have hwo := wout_any b (whl (f == 1) a) (pwr (f == 1) a) w1' w2' w3' w4'
    simp only [Bool.true_and]
    have V0 : 0 ≤ wpl (whl (f == 1) a) (pwr (f == 1) a) := by
      unfold wpl
      exact Int.ediv_nonneg (wpl_lt _ _ w1'.1 w2').1 (by have := Nat.two_pow_pos (-(pwr (f == 1) a)).toNat; exact_mod_cast Nat.le_of_lt this)
    clear hF hfin F1 F2 G1 w2' w3' w4'
    generalize whl (f == 1) a = u at *
    generalize pwr (f == 1) a = p at *
    generalize wpl u p = V at *
    by_cases big : 4294967296 ≤ V
    · have z : decide (-2147483648 ≤ (if b = true then -V else V) ∧ (if b = true then -V else V) ≤ 2147483647) = false := by
        rw [decide_eq_false_iff_not]
        cases b
        · simp only [Bool.false_eq_true, if_false]; omega
        · simp only [if_true]; omega
      rw [z]
      simp only [Bool.false_eq_true, if_false]
      have Z : ∀ h l : Int, Word h → Word l → num h l = V → (32 : Int) < ((blen (nn h l) : Nat) : Int) := fun h l wh wl e => by
        have t : ¬ blen (nn h l) ≤ 32 := fun le => by
          have := lt_blen (nn h l)
          have := Nat.lt_of_lt_of_le this (Nat.pow_le_pow_right (by decide) le)
          unfold nn at this
          rw [e] at this
          omega
        omega
      clear z V0
      go_enter Try.func13, Try.ntmps13
      go_wp2_with fail
      refine wp_scope_jumps (rest := restOf Try.f13) 0 (TiJ w) (fun _ _ => 0) (by kernel_rfl) ?_ (fun a w' hJ => by rw [tiRest_eq]; exact wp_seq (wp_skip (ti_pass w _ (fun w' L => ⟨rfl, L⟩) a w' hJ)))
      go_wp2_with (first
        | (go_at_call 40; refine (hsp _).mono ?_; rintro e w1 ⟨rfl, o1, o2, o3, o4, o5, o6, n, rfl⟩)
        | (go_at_call 41; refine (hfi _).mono ?_; rintro e wc ⟨rfl, hbc⟩; have c0 : wc.cell? ⟨w.heap.size + 1 + 1 + 1 + 1 + 1 + 1 + 1, 0, none⟩ = some (.bool b) := cell_on hbc (by simp [go_sem]); have c1 : wc.cell? ⟨w.heap.size + 1 + 1 + 1 + 1 + 1 + 1 + 1, 1, none⟩ = some (.int .u64 u) := cell_on hbc (by simp [go_sem]); have c2 : wc.cell? ⟨w.heap.size + 1 + 1 + 1 + 1 + 1 + 1 + 1, 2, none⟩ = some (.int .i64 p) := cell_on hbc (by simp [go_sem]); have d0 : wc.cell? ⟨w.heap.size, 0, none⟩ = some (.int .u64 0) := cell_on hbc (by simp [go_sem]); have d1 : wc.cell? ⟨w.heap.size, 1, none⟩ = some (.int .u64 0) := cell_on hbc (by simp [go_sem]); have k0 : wc.frozen? ⟨w.heap.size, 0, none⟩ = false := ((bcell hbc).2 _ _ (by simp; omega)).trans (by simp [go_sem]); have k1 : wc.frozen? ⟨w.heap.size, 1, none⟩ = false := ((bcell hbc).2 _ _ (by simp; omega)).trans (by simp [go_sem]); have Lc : Below w.heap.size w wc := below_callC (by repeat (first | with_reducible exact Below.refl _ _ | with_reducible refine below_new ?_ _ | with_reducible refine Below.drew ?_ | with_reducible refine below_dN ?_ _)) hbc)
        | (go_at_call 42; refine (hwo _).mono ?_; rintro e wd ⟨h2, l2, rfl, wh2, wl2, E2, hbd⟩; replace k0 := ((bcell hbd).2 _ _ (lt_new d0)).trans k0; replace k1 := ((bcell hbd).2 _ _ (lt_new d1)).trans k1; replace c0 := cell_on hbd c0; replace d0 := cell_on hbd d0; replace d1 := cell_on hbd d1; have sz0 := lt_new d0; have sz7 := lt_new c0; have Ld := below_callC Lc hbd; have Zb := Z h2 l2 wh2 wl2 E2.out)
        | (go_at_call 43; refine (hlen _ _ wh2 wl2 _).mono ?_; rintro e we ⟨rfl, rfl⟩))
      go_step3
      exact ⟨rfl, _, _, _, _, _, _, _, _, _, _, _, _, _, _, _, _, _, _, _, _, _, _, _, _, _, _, _, _, _, _, _, _, _, _, _, rfl, below_new ((Ld.setCell (Nat.le_refl _) _).setCell (Nat.le_refl _) _) _⟩
    · have hV : V < 4294967296 := by omega
      have Z : ∀ h l : Int, Word h → Word l → num h l = V → h = 0 ∧ l = V ∧ ¬ (32 : Int) < ((blen (nn h l) : Nat) : Int) := fun h l wh wl e => by
        have e2 := e
        have := wh.1; have := wl.1; have := wl.2
        unfold num at e
        refine ⟨by omega, by omega, ?_⟩
        have t : blen (nn h l) ≤ 32 := blen_le_of (by unfold nn; rw [e2]; omega)
        omega
      clear big
      have wV : Word V := ⟨V0, by omega⟩
      cases b
      · simp only [Bool.false_eq_true, if_false]
        by_cases r : V ≤ 2147483647
        · rw [decide_eq_true (show -2147483648 ≤ V ∧ V ≤ 2147483647 by omega)]
          simp only [if_true]
          go_enter Try.func13, Try.ntmps13
          go_wp2_with fail
          refine wp_scope_jumps (rest := restOf Try.f13) 0 (fun _ _ => False) (fun _ _ => 0) (by kernel_rfl) ?_ (fun a w' hJ => hJ.elim)
          go_wp2_with (first
            | (go_at_call 40; refine (hsp _).mono ?_; rintro e w1 ⟨rfl, o1, o2, o3, o4, o5, o6, n, rfl⟩)
            | (go_at_call 41; refine (hfi _).mono ?_; rintro e wc ⟨rfl, hbc⟩; have c0 : wc.cell? ⟨w.heap.size + 1 + 1 + 1 + 1 + 1 + 1 + 1, 0, none⟩ = some (.bool false) := cell_on hbc (by simp [go_sem]); have c1 : wc.cell? ⟨w.heap.size + 1 + 1 + 1 + 1 + 1 + 1 + 1, 1, none⟩ = some (.int .u64 u) := cell_on hbc (by simp [go_sem]); have c2 : wc.cell? ⟨w.heap.size + 1 + 1 + 1 + 1 + 1 + 1 + 1, 2, none⟩ = some (.int .i64 p) := cell_on hbc (by simp [go_sem]); have d0 : wc.cell? ⟨w.heap.size, 0, none⟩ = some (.int .u64 0) := cell_on hbc (by simp [go_sem]); have d1 : wc.cell? ⟨w.heap.size, 1, none⟩ = some (.int .u64 0) := cell_on hbc (by simp [go_sem]); have k0 : wc.frozen? ⟨w.heap.size, 0, none⟩ = false := ((bcell hbc).2 _ _ (by simp; omega)).trans (by simp [go_sem]); have k1 : wc.frozen? ⟨w.heap.size, 1, none⟩ = false := ((bcell hbc).2 _ _ (by simp; omega)).trans (by simp [go_sem]); have Lc : Below w.heap.size w wc := below_callC (by repeat (first | with_reducible exact Below.refl _ _ | with_reducible refine below_new ?_ _ | with_reducible refine Below.drew ?_ | with_reducible refine below_dN ?_ _)) hbc)
            | (go_at_call 42; refine (hwo _).mono ?_; rintro e wd ⟨h2, l2, rfl, wh2, wl2, E2, hbd⟩; replace k0 := ((bcell hbd).2 _ _ (lt_new d0)).trans k0; replace k1 := ((bcell hbd).2 _ _ (lt_new d1)).trans k1; replace c0 := cell_on hbd c0; replace d0 := cell_on hbd d0; replace d1 := cell_on hbd d1; have sz0 := lt_new d0; have sz7 := lt_new c0; have Ld := below_callC Lc hbd; obtain ⟨rfl, rfl, Zb⟩ := Z h2 l2 wh2 wl2 E2.out; clear E2)
            | (go_at_call 43; refine (hlen _ _ wh2 wl2 _).mono ?_; rintro e we ⟨rfl, rfl⟩))
          refine jump_ret (bodyPost_ret (v := .tuple #[.int .i64 l2, .bool true]) (by simp [results, Try.results13, go_sem]) rfl ?_)
          exact ⟨rfl, below_new ((Ld.setCell (Nat.le_refl _) _).setCell (Nat.le_refl _) _) _⟩
        · rw [decide_eq_false (show ¬ (-2147483648 ≤ V ∧ V ≤ 2147483647) by omega)]
          simp only [Bool.false_eq_true, if_false]
          have r' : 2147483647 < V := by omega
          go_enter Try.func13, Try.ntmps13
          go_wp2_with fail
          refine wp_scope_jumps (rest := restOf Try.f13) 0 (TiJ w) (fun _ _ => 0) (by kernel_rfl) ?_ (fun a w' hJ => by rw [tiRest_eq]; exact wp_seq (wp_skip (ti_pass w _ (fun w' L => ⟨rfl, L⟩) a w' hJ)))
          go_wp2_with (first
            | (go_at_call 40; refine (hsp _).mono ?_; rintro e w1 ⟨rfl, o1, o2, o3, o4, o5, o6, n, rfl⟩)
            | (go_at_call 41; refine (hfi _).mono ?_; rintro e wc ⟨rfl, hbc⟩; have c0 : wc.cell? ⟨w.heap.size + 1 + 1 + 1 + 1 + 1 + 1 + 1, 0, none⟩ = some (.bool false) := cell_on hbc (by simp [go_sem]); have c1 : wc.cell? ⟨w.heap.size + 1 + 1 + 1 + 1 + 1 + 1 + 1, 1, none⟩ = some (.int .u64 u) := cell_on hbc (by simp [go_sem]); have c2 : wc.cell? ⟨w.heap.size + 1 + 1 + 1 + 1 + 1 + 1 + 1, 2, none⟩ = some (.int .i64 p) := cell_on hbc (by simp [go_sem]); have d0 : wc.cell? ⟨w.heap.size, 0, none⟩ = some (.int .u64 0) := cell_on hbc (by simp [go_sem]); have d1 : wc.cell? ⟨w.heap.size, 1, none⟩ = some (.int .u64 0) := cell_on hbc (by simp [go_sem]); have k0 : wc.frozen? ⟨w.heap.size, 0, none⟩ = false := ((bcell hbc).2 _ _ (by simp; omega)).trans (by simp [go_sem]); have k1 : wc.frozen? ⟨w.heap.size, 1, none⟩ = false := ((bcell hbc).2 _ _ (by simp; omega)).trans (by simp [go_sem]); have Lc : Below w.heap.size w wc := below_callC (by repeat (first | with_reducible exact Below.refl _ _ | with_reducible refine below_new ?_ _ | with_reducible refine Below.drew ?_ | with_reducible refine below_dN ?_ _)) hbc)
            | (go_at_call 42; refine (hwo _).mono ?_; rintro e wd ⟨h2, l2, rfl, wh2, wl2, E2, hbd⟩; replace k0 := ((bcell hbd).2 _ _ (lt_new d0)).trans k0; replace k1 := ((bcell hbd).2 _ _ (lt_new d1)).trans k1; replace c0 := cell_on hbd c0; replace d0 := cell_on hbd d0; replace d1 := cell_on hbd d1; have sz0 := lt_new d0; have sz7 := lt_new c0; have Ld := below_callC Lc hbd; obtain ⟨rfl, rfl, Zb⟩ := Z h2 l2 wh2 wl2 E2.out; clear E2)
            | (go_at_call 43; refine (hlen _ _ wh2 wl2 _).mono ?_; rintro e we ⟨rfl, rfl⟩))
          go_step3
          exact ⟨rfl, _, _, _, _, _, _, _, _, _, _, _, _, _, _, _, _, _, _, _, _, _, _, _, _, _, _, _, _, _, _, _, _, _, _, _, rfl, below_new ((Ld.setCell (Nat.le_refl _) _).setCell (Nat.le_refl _) _) _⟩
      · simp only [if_true]
        by_cases r : V ≤ 2147483648
        · rw [decide_eq_true (show -2147483648 ≤ -V ∧ -V ≤ 2147483647 by omega)]
          simp only [if_true]
          have r1 : -2147483648 ≤ -V := by omega
          have r2 : -V ≤ 2147483647 := by omega
          go_enter Try.func13, Try.ntmps13
          go_wp2_with fail
          refine wp_scope_jumps (rest := restOf Try.f13) 0 (fun _ _ => False) (fun _ _ => 0) (by kernel_rfl) ?_ (fun a w' hJ => hJ.elim)
          go_wp2_with (first
            | (go_at_call 40; refine (hsp _).mono ?_; rintro e w1 ⟨rfl, o1, o2, o3, o4, o5, o6, n, rfl⟩)
            | (go_at_call 41; refine (hfi _).mono ?_; rintro e wc ⟨rfl, hbc⟩; have c0 : wc.cell? ⟨w.heap.size + 1 + 1 + 1 + 1 + 1 + 1 + 1, 0, none⟩ = some (.bool true) := cell_on hbc (by simp [go_sem]); have c1 : wc.cell? ⟨w.heap.size + 1 + 1 + 1 + 1 + 1 + 1 + 1, 1, none⟩ = some (.int .u64 u) := cell_on hbc (by simp [go_sem]); have c2 : wc.cell? ⟨w.heap.size + 1 + 1 + 1 + 1 + 1 + 1 + 1, 2, none⟩ = some (.int .i64 p) := cell_on hbc (by simp [go_sem]); have d0 : wc.cell? ⟨w.heap.size, 0, none⟩ = some (.int .u64 0) := cell_on hbc (by simp [go_sem]); have d1 : wc.cell? ⟨w.heap.size, 1, none⟩ = some (.int .u64 0) := cell_on hbc (by simp [go_sem]); have k0 : wc.frozen? ⟨w.heap.size, 0, none⟩ = false := ((bcell hbc).2 _ _ (by simp; omega)).trans (by simp [go_sem]); have k1 : wc.frozen? ⟨w.heap.size, 1, none⟩ = false := ((bcell hbc).2 _ _ (by simp; omega)).trans (by simp [go_sem]); have Lc : Below w.heap.size w wc := below_callC (by repeat (first | with_reducible exact Below.refl _ _ | with_reducible refine below_new ?_ _ | with_reducible refine Below.drew ?_ | with_reducible refine below_dN ?_ _)) hbc)
            | (go_at_call 42; refine (hwo _).mono ?_; rintro e wd ⟨h2, l2, rfl, wh2, wl2, E2, hbd⟩; replace k0 := ((bcell hbd).2 _ _ (lt_new d0)).trans k0; replace k1 := ((bcell hbd).2 _ _ (lt_new d1)).trans k1; replace c0 := cell_on hbd c0; replace d0 := cell_on hbd d0; replace d1 := cell_on hbd d1; have sz0 := lt_new d0; have sz7 := lt_new c0; have Ld := below_callC Lc hbd; obtain ⟨rfl, rfl, Zb⟩ := Z h2 l2 wh2 wl2 E2.out; clear E2)
            | (go_at_call 43; refine (hlen _ _ wh2 wl2 _).mono ?_; rintro e we ⟨rfl, rfl⟩))
          refine jump_ret (bodyPost_ret (v := .tuple #[.int .i64 (-l2), .bool true]) (by simp [results, Try.results13, go_sem]) rfl ?_)
          exact ⟨rfl, below_new ((Ld.setCell (Nat.le_refl _) _).setCell (Nat.le_refl _) _) _⟩
        · rw [decide_eq_false (show ¬ (-2147483648 ≤ -V ∧ -V ≤ 2147483647) by omega)]
          simp only [Bool.false_eq_true, if_false]
          have r' : -V < -2147483648 := by omega
          go_enter Try.func13, Try.ntmps13
          go_wp2_with fail
          refine wp_scope_jumps (rest := restOf Try.f13) 0 (TiJ w) (fun _ _ => 0) (by kernel_rfl) ?_ (fun a w' hJ => by rw [tiRest_eq]; exact wp_seq (wp_skip (ti_pass w _ (fun w' L => ⟨rfl, L⟩) a w' hJ)))
          go_wp2_with (first
            | (go_at_call 40; refine (hsp _).mono ?_; rintro e w1 ⟨rfl, o1, o2, o3, o4, o5, o6, n, rfl⟩)
            | (go_at_call 41; refine (hfi _).mono ?_; rintro e wc ⟨rfl, hbc⟩; have c0 : wc.cell? ⟨w.heap.size + 1 + 1 + 1 + 1 + 1 + 1 + 1, 0, none⟩ = some (.bool true) := cell_on hbc (by simp [go_sem]); have c1 : wc.cell? ⟨w.heap.size + 1 + 1 + 1 + 1 + 1 + 1 + 1, 1, none⟩ = some (.int .u64 u) := cell_on hbc (by simp [go_sem]); have c2 : wc.cell? ⟨w.heap.size + 1 + 1 + 1 + 1 + 1 + 1 + 1, 2, none⟩ = some (.int .i64 p) := cell_on hbc (by simp [go_sem]); have d0 : wc.cell? ⟨w.heap.size, 0, none⟩ = some (.int .u64 0) := cell_on hbc (by simp [go_sem]); have d1 : wc.cell? ⟨w.heap.size, 1, none⟩ = some (.int .u64 0) := cell_on hbc (by simp [go_sem]); have k0 : wc.frozen? ⟨w.heap.size, 0, none⟩ = false := ((bcell hbc).2 _ _ (by simp; omega)).trans (by simp [go_sem]); have k1 : wc.frozen? ⟨w.heap.size, 1, none⟩ = false := ((bcell hbc).2 _ _ (by simp; omega)).trans (by simp [go_sem]); have Lc : Below w.heap.size w wc := below_callC (by repeat (first | with_reducible exact Below.refl _ _ | with_reducible refine below_new ?_ _ | with_reducible refine Below.drew ?_ | with_reducible refine below_dN ?_ _)) hbc)
            | (go_at_call 42; refine (hwo _).mono ?_; rintro e wd ⟨h2, l2, rfl, wh2, wl2, E2, hbd⟩; replace k0 := ((bcell hbd).2 _ _ (lt_new d0)).trans k0; replace k1 := ((bcell hbd).2 _ _ (lt_new d1)).trans k1; replace c0 := cell_on hbd c0; replace d0 := cell_on hbd d0; replace d1 := cell_on hbd d1; have sz0 := lt_new d0; have sz7 := lt_new c0; have Ld := below_callC Lc hbd; obtain ⟨rfl, rfl, Zb⟩ := Z h2 l2 wh2 wl2 E2.out; clear E2)
            | (go_at_call 43; refine (hlen _ _ wh2 wl2 _).mono ?_; rintro e we ⟨rfl, rfl⟩))
          go_step3
          exact ⟨rfl, _, _, _, _, _, _, _, _, _, _, _, _, _, _, _, _, _, _, _, _, _, _, _, _, _, _, _, _, _, _, _, _, _, _, _, rfl, below_new ((Ld.setCell (Nat.le_refl _) _).setCell (Nat.le_refl _) _) _⟩
end Go.Proofs.Ytfdinlomlcnjnaa

