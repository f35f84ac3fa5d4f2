/- The reference's Sqrt. -/
import Derived.Test.YtmfmjinplieehaaSRefU
import Derived.Test.YtmfmjinplieehaaRefH
import Derived.Test.YtmfmjinplieehaaSoftQ
import Derived.Deep.AppendLies
import Derived.Deep.RegionHeld3
namespace Go.Proofs.Ytmfmjinplieehaa
open Go.RowKit
set_option linter.unusedVariables false
set_option linter.unusedSimpArgs false
theorem kindsR (k : Int) : ((k == 0 || k == 5) = true ∧ (k == 4) = false ∧ (k == 1) = false) ∨ ((k == 0 || k == 5) = false ∧ (k == 4) = true ∧ (k == 1) = false) ∨ ((k == 0 || k == 5) = false ∧ (k == 4) = false ∧ (k == 1) = true) ∨ ((k == 0 || k == 5) = false ∧ (k == 4) = false ∧ (k == 1) = false) := by
  by_cases c1 : k = 0
  · subst c1; decide
  · by_cases c2 : k = 5
    · subst c2; decide
    · by_cases c3 : k = 4
      · subst c3; decide
      · by_cases c4 : k = 1
        · subst c4; decide
        · simp [c1, c2, c3, c4]
theorem wide_notR {s : Bool} {a : Int} (h : (cls s a == 0 || cls s a == 5) = false) : wideB s a = false := by
  cases c : wideB s a
  · rfl
  · exfalso
    have : cls s a = 0 := by unfold cls; rw [c]; rfl
    rw [this] at h
    exact absurd h (by decide)
theorem fin_wordR {s : Bool} {u p : Int} (h : Fin s u p) : Word u ∧ u < 9007199254740992 ∧ -1074 ≤ p ∧ p ≤ 2000 := by
  obtain ⟨a, b, c, d, e⟩ := h
  cases s
  · have b' : u < 9007199254740992 := b
    have c' : -1074 ≤ p := c
    exact ⟨⟨a, by omega⟩, b', c', d⟩
  · have b' : u < 16777216 := b
    have c' : -149 ≤ p := c
    exact ⟨⟨a, by omega⟩, by omega, by omega, d⟩
theorem len_at {n : Int} {h l : Int} {U k : Nat} (U0 : U ≠ 0) (hk : blen U + k ≤ 128) (hn : IsLen n (num h l)) (e : num h l = ((U * 2 ^ k : Nat) : Int)) : n = ((blen U + k : Nat) : Int) := by
  refine isLen_uniq hn ?_
  obtain ⟨b1, b2⟩ := blen_le U0
  have b3 := lt_blen U
  have p := Nat.two_pow_pos k
  have l1 : U * 2 ^ k < 2 ^ (blen U + k) := by rw [Nat.pow_add]; exact Nat.mul_lt_mul_of_pos_right b3 p
  have l2 : 2 ^ (blen U + k) ≤ 2 * (U * 2 ^ k) := by
    have t : 2 ^ (blen U - 1) * 2 ^ k ≤ U * 2 ^ k := Nat.mul_le_mul_right _ b1
    have e : 2 ^ (blen U + k) = 2 * (2 ^ (blen U - 1) * 2 ^ k) := by
      rw [← Nat.pow_add, ← Nat.pow_succ']
      congr 1
      omega
    omega
  have ez : U * 2 ^ k ≠ 0 := Nat.mul_ne_zero U0 (by omega)
  rw [e]
  unfold IsLen
  rw [Int.toNat_natCast, show (2 : Int) ^ (blen U + k) = ((2 ^ (blen U + k) : Nat) : Int) by simp]
  generalize U * 2 ^ k = X at *
  generalize 2 ^ (blen U + k) = Y at *
  refine ⟨by omega, by omega, by omega, Or.inr (by omega), fun z => by omega⟩
theorem num_up {h l h' l' : Int} {U k : Nat} (e : num h l = ((U * 2 ^ k : Nat) : Int)) (hk : U * 2 ^ k < 2 ^ 127) (S : num h' l' = num h l * 2 ^ Int.toNat 1 % 340282366920938463463374607431768211456) : num h' l' = ((U * 2 ^ (k + 1) : Nat) : Int) := by
  have e2 : (2 : Int) ^ Int.toNat 1 = 2 := rfl
  rw [e2, e] at S
  rw [S, Nat.pow_succ, ← Nat.mul_assoc]
  generalize U * 2 ^ k = X at *
  omega
theorem own_rowR {w : World} {base n A q cap : Nat} (h : w.ownsRow base 4 1 (.slice (some ⟨q, 0, none⟩) n cap) n (Bl n A)) : q < w.heap.size ∧ RowB w q n (fun i => A.testBit i) := by
  refine ⟨?_, fun i hi => by rw [h.cellAt i (by omega), Bl_get _ _ _ hi]⟩
  rcases h.2 with ⟨hn, _⟩ | ⟨g, cap', cur, e, _, hg, _⟩
  · exact absurd hn (by simp)
  · have : q = g := by simp at e; exact e.1
    rw [this]
    exact lt_of_block hg
theorem own_someR {w : World} {base n size : Nat} {e : TypeId} {v : Value} {xs : List Value} (h : w.ownsRow base e size v n xs) (hn : 0 < n) : ∃ g cap, v = .slice (some ⟨g, 0, none⟩) n cap := by
  rcases h.2 with ⟨_, h0⟩ | ⟨g, cap, _, hv, _⟩
  · omega
  · exact ⟨g, cap, hv⟩
theorem below_callR {w W w1 : World} (h : Below w.heap.size w W) (hb : Below W.heap.size W w1) : Below w.heap.size w w1 := h.trans (hb.mono h.size)
/-- What the reference's root is, in plain numbers. -/
theorem root_ref {s : Bool} {m p y : Int} {U k k0 bl R : Nat} {h l lh ll : Int} (hbl : blen U = bl) (ke : k = 126 - bl) (odd : k0 = 0 ∧ p - (k : Int) = 2 * y ∨ k0 = 1 ∧ p - (k : Int) = 2 * y + 1)
    (X : num h l = ((U * 2 ^ (k + k0) : Nat) : Int)) (wlh : Word lh) (wll : Word ll) (R1 : (R : Int) * R + num lh ll = num h l) (R2 : num lh ll ≤ 2 * (R : Int)) :
    rnd s m false (2 * R + (decide (num lh ll ≠ 0)).toNat) (y - 1) = sqrtT s m U p := by
  obtain ⟨L, hL⟩ := Int.eq_ofNat_of_zero_le (num_lo wlh wll)
  rw [hL] at R1 R2 ⊢
  have e1 : R * R + L = U * 2 ^ (k + k0) := by
    have : ((R * R + L : Nat) : Int) = ((U * 2 ^ (k + k0) : Nat) : Int) := by rw [← X, ← R1]; simp
    omega
  have e2 : R = isq (U * 2 ^ (k + k0)) := isq_uniq (by omega) (by rw [← e1, Nat.add_mul, Nat.mul_add, Nat.mul_one, Nat.one_mul]; omega)
  have ru : rootUp U p = k + k0 := by
    unfold rootUp
    rw [hbl]
    rcases odd with ⟨h0, h1⟩ | ⟨h0, h1⟩
    · rw [if_pos (by omega)]; omega
    · rw [if_neg (by omega)]; omega
  unfold sqrtT
  rw [ru, ← e2]
  have e3 : U * 2 ^ (k + k0) - R * R = L := by omega
  have e4 : (p - ((k + k0 : Nat) : Int)) / 2 = y := by omega
  have e5 : decide ((L : Int) ≠ 0) = decide (L ≠ 0) := by rw [decide_eq_decide]; omega
  rw [e3, e4, e5]
theorem num_zero_iff {h l : Int} (a : Word h) (b : Word l) : (num h l = 0) ↔ (h = 0 ∧ l = 0) := by
  have := a.1; have := a.2; have := b.1; have := b.2
  unfold num
  omega
set_option maxRecDepth 20000 in
set_option maxHeartbeats 6400000 in
theorem rsqrtF_any (s : Bool) (m a : Int) (h1 : Word a) (w : World) :
    Calls Try.prog 23 #[.int .i64 (fb s), .int .i64 m, .int .u64 a] w fun r w' => r = .returned (.int .u64 (sqrtF s m a)) ∧ Below w.heap.size w w' := by
  obtain ⟨i0, hi, hz0, hz1, hz2⟩ := info_parts Try.infoB
  have hb1 := rbelow_any s a
  have hc1 := rclass_any s a h1
  have hn1 := risNan_any s a h1
  have hi1 := risInf_any s a h1
  have hnan := rnan_any s
  have hrd := fun (v : Value) (n A : Nat) => rounded_any s m false v n A
  have hv1 := fun h => rvalue_any s a h1 (wide_notR h)
  have f1 := fin_of s a h1
  have K1 := kindsR (cls s a)
  unfold sqrtF
  generalize hN1 : (cls s a == 0 || cls s a == 5) = N1 at *
  generalize hI1 : (cls s a == 4) = I1 at *
  generalize hZ1 : (cls s a == 1) = Z1 at *
  generalize cls s a = c1 at *
  clear hN1 hI1
  generalize fb s = f at *
  generalize sgn s a = g1 at *
  generalize fNan s = Q at *
  rcases K1 with ⟨rfl, rfl, rfl⟩ | ⟨rfl, rfl, rfl⟩ | ⟨rfl, rfl, rfl⟩ | ⟨rfl, rfl, rfl⟩ <;> cases g1
  case inr.inr.inr.false =>
    have F1 := fin_wordR (f1 rfl rfl).1
    have z1 := (f1 rfl rfl).2 rfl
    have v1 := hv1 rfl
    clear hv1 f1 hnan
    simp only [Bool.false_eq_true, if_false]
    generalize whl s a = u1 at *
    generalize pwr s a = p at *
    obtain ⟨a1, a2, a3, a4⟩ := F1
    obtain ⟨U, rfl⟩ := Int.eq_ofNat_of_zero_le a1.1
    have U0 : U ≠ 0 := by omega
    have lU : blen U ≤ 53 := blen_le_of (by omega : U < 2 ^ 53)
    obtain ⟨b1, b2⟩ := blen_le U0
    have b3 := lt_blen U
    rw [Int.toNat_natCast]
    generalize hV : sqrtT s m U p = V at *
    have HV : Hid _ := hV
    have HU : Hid (U ≠ 0) := U0
    have HB1 : Hid _ := b1
    have HB3 : Hid _ := b3
    clear hV a2 z1 U0 b1 b3
    obtain ⟨bl, hbl⟩ : ∃ bl, blen U = bl := ⟨_, rfl⟩
    have HBL : Hid _ := hbl
    rw [hbl] at lU b2 HB1 HB3
    clear hbl
    have hbnd : Hid (∀ k, bl + k ≤ 126 → U * 2 ^ k < 2 ^ 127) := fun k hk => by
      have : U * 2 ^ k < 2 ^ bl * 2 ^ k := Nat.mul_lt_mul_of_pos_right HB3.out (Nat.two_pow_pos _)
      rw [← Nat.pow_add] at this
      exact Nat.lt_of_lt_of_le this (Nat.pow_le_pow_right (by decide) (by omega))
    have hda : ∀ (w : World) (n : Nat) (o : Obj), (w.drewN n).alloc o = (w.alloc o).drewN n := fun _ _ _ => rfl
    have hdb : ∀ (w : World) (o : Obj), w.drew.alloc o = (w.alloc o).drew := fun _ _ => rfl
    have hlen := fun (h l : Int) (wh : Word h) (wl : Word l) => rlen_any h l wh wl
    have hshl := fun (h l : Int) (wh : Word h) (wl : Word l) => rshl_any h l 1 wh wl (by decide) (by decide)
    go_enter Try.func23, Try.ntmps23
    go_wp2_with (first
         | (go_at_call 44; refine (hb1 _).mono ?_; rintro r w1 ⟨rfl, hw⟩; rw [hw]; clear hw w1)
         | (go_at_call 45; refine (hc1 _).mono ?_; rintro r w1 ⟨rfl, n1, rfl⟩)
         | (go_at_call 46; refine (hn1 _).mono ?_; rintro r w1 ⟨rfl, n3, rfl⟩)
         | (go_at_call 48; refine (hi1 _).mono ?_; rintro r w1 ⟨rfl, n5, rfl⟩)
         | (go_at_call 50; refine (v1 _).mono ?_; rintro r w1 ⟨rfl, rfl⟩))
    go_loopw [9] (fun e wr => ∃ (k : Nat) (h l : Int), bl + k ≤ 126 ∧ e = .int .i64 (p - k) ∧ Word h ∧ Word l ∧ Hid (num h l = ((U * 2 ^ k : Nat) : Int)) ∧ wr.cell? ⟨w.heap.size, 0, none⟩ = some (.int .u64 h) ∧ wr.cell? ⟨w.heap.size, 1, none⟩ = some (.int .u64 l) ∧ wr.frozen? ⟨w.heap.size, 0, none⟩ = false ∧ wr.frozen? ⟨w.heap.size, 1, none⟩ = false ∧ w.heap.size < wr.heap.size ∧ Below w.heap.size w wr) (fun e _ => (intOf e - (p - 126)).toNat)
    case atStart =>
      refine ⟨0, 0, U, by omega, by simp, word_zero, a1, ?_, ?_, ?_, ?_, ?_, ?_, ?_⟩
      · show num 0 (U : Int) = _
        unfold num; simp
      · simp [go_sem]
      · simp [go_sem]
      · simp [go_sem]
      · simp [go_sem]
      · simp
      · exact ((below_drewN (below_new (Below.refl _ _) _) _).setCell (Nat.le_refl _) _).setCell (Nat.le_refl _) _
    case round =>
      obtain ⟨k, h, l, hk, rfl, wh, wl, X, c0, c1', g0, g1, sz, L⟩ := hrel
      have kb : (k : Int) ≤ 126 := by omega
      by_cases hf : bl + k < 126
      · have hf' : ((bl + k : Nat) : Int) < 126 := by omega
        go_wp2_with (first
          | (go_at_call 64; refine (hlen _ _ wh wl _).mono ?_; rintro r w2 ⟨n, rfl, I, b2⟩; have en : n = ((blen U + k : Nat) : Int) := len_at HU.out (by rw [HBL.out]; omega) I X.out; rw [HBL.out] at en; subst en; clear I; replace c0 := cell_on b2 c0; replace c1' := cell_on b2 c1'; replace g0 := (bcell b2).2 _ _ sz |>.trans g0; replace g1 := (bcell b2).2 _ _ sz |>.trans g1; replace L := L.trans (b2.mono L.size); replace sz := Nat.lt_of_lt_of_le sz b2.size)
          | (go_at_call 65; refine (hshl _ _ wh wl _).mono ?_; rintro r w3 ⟨h', l', rfl, wh', wl', S, b3⟩; have X2 : Hid (num h' l' = ((U * 2 ^ (k + 1) : Nat) : Int)) := num_up X.out (hbnd.out k (by omega)) S.out; clear S; replace c0 := cell_on b3 c0; replace c1' := cell_on b3 c1'; replace g0 := (bcell b3).2 _ _ sz |>.trans g0; replace g1 := (bcell b3).2 _ _ sz |>.trans g1; replace L := L.trans (b3.mono L.size); replace sz := Nat.lt_of_lt_of_le sz b3.size))
        go_roundw
        case rel =>
          refine ⟨k + 1, h', l', by omega, by go_num, wh', wl', X2, by simp [go_sem, c0], by simp [go_sem, c1'], by simp [go_sem, g0], by simp [go_sem, g1], by simpa using sz, (L.setCell (Nat.le_refl _) _).setCell (Nat.le_refl _) _⟩
        case measure => simp [intOf]; omega
      · have hf' : ¬ ((bl + k : Nat) : Int) < 126 := by omega
        have ke : k = 126 - bl := by omega
        have par : ∃ (k0 : Nat) (y : Int), k0 ≤ 1 ∧ (k0 = 0 ∧ p - (k : Int) = 2 * y ∨ k0 = 1 ∧ p - (k : Int) = 2 * y + 1) := by
          by_cases t : (p - (k : Int)) % 2 = 0
          · exact ⟨0, (p - (k : Int)) / 2, by omega, Or.inl ⟨rfl, by omega⟩⟩
          · exact ⟨1, (p - (k : Int)) / 2, by omega, Or.inr ⟨rfl, by omega⟩⟩
        obtain ⟨k0, y, hk0, odd⟩ := par
        have KE : Hid _ := ke
        clear ke
        have OD : Hid _ := odd
        have yb : -2000 ≤ y ∧ y ≤ 2000 := by omega
        obtain ⟨y1, y2⟩ := yb
        go_upto_if 57 with (first
          | (go_at_call 64; refine (hlen _ _ wh wl _).mono ?_; rintro r w2 ⟨n, rfl, I, b2⟩; have en : n = ((blen U + k : Nat) : Int) := len_at HU.out (by rw [HBL.out]; omega) I X.out; rw [HBL.out] at en; subst en; clear I; replace c0 := cell_on b2 c0; replace c1' := cell_on b2 c1'; replace g0 := (bcell b2).2 _ _ sz |>.trans g0; replace g1 := (bcell b2).2 _ _ sz |>.trans g1; replace L := L.trans (b2.mono L.size); replace sz := Nat.lt_of_lt_of_le sz b2.size))
        go_cut [9] from 48 to 61 (fun e wx => ∃ h l : Int, e = .int .i64 (2 * y) ∧ Word h ∧ Word l ∧ Hid (num h l = ((U * 2 ^ (k + k0) : Nat) : Int)) ∧ wx.cell? ⟨w.heap.size, 0, none⟩ = some (.int .u64 h) ∧ wx.cell? ⟨w.heap.size, 1, none⟩ = some (.int .u64 l) ∧ w.heap.size < wx.heap.size ∧ Below w.heap.size w wx)
        case first =>
          rcases odd with ⟨rfl, h0⟩ | ⟨rfl, h0⟩
          · have t0 : (Int.tmod (p - (k : Int)) 2 != 0) = false := by
              rw [h0]
              have : Int.tmod (2 * y) 2 = 0 := Int.mul_tmod_right 2 y
              rw [this]; rfl
            have H0 : Hid _ := h0
            clear h0
            go_wp2_with fail
            go_meet
            case rel => exact ⟨h, l, by rw [H0.out], wh, wl, X, c0, c1', sz, L⟩
          · have t0 : (Int.tmod (p - (k : Int)) 2 != 0) = true := by
              have : ¬ Int.tmod (p - (k : Int)) 2 = 0 := by
                intro z
                have d := Int.dvd_of_tmod_eq_zero z
                omega
              simp [this]
            have H0 : Hid _ := h0
            clear h0
            go_wp2_with (go_at_call 65; refine (hshl _ _ wh wl _).mono ?_; rintro r w3 ⟨h', l', rfl, wh', wl', S, b3⟩; have X2 : Hid (num h' l' = ((U * 2 ^ (k + 1) : Nat) : Int)) := num_up X.out (hbnd.out k (by omega)) S.out; clear S; replace c0 := cell_on b3 c0; replace c1' := cell_on b3 c1'; replace g0 := (bcell b3).2 _ _ sz |>.trans g0; replace g1 := (bcell b3).2 _ _ sz |>.trans g1; replace L := L.trans (b3.mono L.size); replace sz := Nat.lt_of_lt_of_le sz b3.size)
            go_meet
            case rel => exact ⟨h', l', by rw [H0.out]; go_num, wh', wl', X2, by simp [go_sem, c0], by simp [go_sem, c1'], by simpa using sz, (L.setCell (Nat.le_refl _) _).setCell (Nat.le_refl _) _⟩
        case rest =>
          clear X c0 c1' g0 g1 sz L wh wl odd
          obtain ⟨h, l, rfl, wh, wl, X, c0, c1', sz, L⟩ := hcut
          have hsq := rsqrt_any h l wh wl
          have ey : Int.tdiv (2 * y) 2 = y := Int.mul_tdiv_cancel_left y (by decide)
          have ew1 : IntKind.i64.wrap y = y := wrap_id y (by omega) (by omega)
          have ew2 : IntKind.i64.wrap (y - 1) = y - 1 := wrap_id (y - 1) (by omega) (by omega)
          have ew3 : IntKind.i64.wrap (2 * y) = 2 * y := wrap_id (2 * y) (by omega) (by omega)
          go_upto_region 15 with (go_at_call 66; refine (hsq _).mono ?_; rintro r w5 ⟨r, lh, ll, rfl, wr', wlh, wll, R1, R2, b5⟩; replace L := L.trans (b5.mono L.size); clear c0 c1' sz)
          obtain ⟨R, rfl⟩ := Int.eq_ofNat_of_zero_le wr'.1
          have FV : Hid _ := root_ref (s := s) (m := m) HBL.out KE.out OD.out X.out wlh wll R1.out R2.out
          rw [HV.out] at FV
          have hbt := rbits_any R (by have := wr'.2; omega)
          have lt5 := lt_blen R
          have l65 : blen R ≤ 64 := blen_le_of (by have := wr'.2; omega)
          have lR : 1 ≤ blen R := by
            have R0 : R ≠ 0 := by
              intro z
              have x1 := X.out
              have x2 := R1.out
              have x3 := R2.out
              have x4 := num_lo wlh wll
              have x5 : U * 2 ^ (k + k0) ≠ 0 := Nat.mul_ne_zero HU.out (Nat.ne_of_gt (Nat.two_pow_pos _))
              generalize U * 2 ^ (k + k0) = XX at *
              subst z
              simp at x2 x3
              omega
            exact (blen_le R0).2
          generalize blen R = nl at *
          have LT5 : Hid _ := lt5
          clear lt5 X R1 R2
          have n0 := num_zero_iff wlh wll
          have lenH : (Bl nl R).length = nl * 1 := by rw [Bl_len, Nat.mul_one]
          have l1H : 1 + nl ≤ maxLen := by unfold maxLen; omega
          have l2H : (1 + nl) * 1 ≤ 140737488355328 := by omega
          by_cases hz : num lh ll = 0
          · obtain ⟨rfl, rfl⟩ := n0.1 hz
            have d0 : decide (num 0 0 ≠ 0) = false := by rw [hz]; rfl
            rw [d0] at FV
            clear n0 hz d0
            have hcons : ∀ n A : Nat, #[Value.bool false].toList ++ Bl n A = Bl (1 + n) (2 * A + false.toNat) := fun n A => by rw [Nat.add_comm 1 n, ← Bl_cons]; rfl
            have HC : Hid _ := hcons
            clear hcons
            have hlt : 2 * R + false.toNat < 2 ^ (1 + nl) := by have := LT5.out; rw [Nat.pow_add]; simp; omega
            have HLT : Hid _ := hlt
            clear hlt
            have l3H : 1 + nl ≤ 100000 := by omega
            have l4H : -100000 ≤ y - 1 := by omega
            have l5H : y - 1 ≤ 100000 := by omega
            have e0 : ((w5.alloc (.cells #[.int .u64 0, .int .u64 0] 28))).cell? ⟨w5.heap.size, 0, none⟩ = some (.int .u64 0) := by simp [go_sem]
            have e1 : ((w5.alloc (.cells #[.int .u64 0, .int .u64 0] 28))).cell? ⟨w5.heap.size, 1, none⟩ = some (.int .u64 0) := by simp [go_sem]
            have L5 := below_new L (.cells #[.int .u64 0, .int .u64 0] 28)
            go_region_held3 (fun w' => w'.cell? ⟨w5.heap.size, 0, none⟩ = some (.int .u64 0) ∧ w'.cell? ⟨w5.heap.size, 1, none⟩ = some (.int .u64 0))
              (first | exact ⟨e0, e1⟩ | exact ⟨cell_past e0 _, cell_past e1 _⟩)
              (first
                | (go_at_call 55; refine (hbt _).mono ?_; rintro r w6 ⟨v6, rfl, own6, b6⟩; obtain ⟨q6, cap6, rfl⟩ := own_someR own6 lR; obtain ⟨hq6, row6⟩ := own_rowR own6; have ownl := own_below (World.ownsRow.drew (World.ownsRow_lit (e := 4) (size := 1) (base := w.heap.size) (w5.alloc (.cells #[.int .u64 0, .int .u64 0] 28)) #[.bool false] 1 L5.size (by decide) rfl)) b6; simp only [World.size_alloc] at ownl; replace e0 := cell_on b6 (cell_dr (cell_past e0 _)); replace e1 := cell_on b6 (cell_dr (cell_past e1 _)); replace L5 := below_callR (below_new L5 _).drew b6)
                | (go_at_call 55; refine (hbt _).mono ?_; rintro r w6 ⟨v6, rfl, own6, b6⟩; obtain ⟨q6, cap6, rfl⟩ := own_someR own6 lR; obtain ⟨hq6, row6⟩ := own_rowR own6; replace e0 := cell_on b6 (cell_dr e0); replace e1 := cell_on b6 (cell_dr e1); replace L5 := below_callR L5.drew b6)
                | (go_at_call 37; refine hR.mono ?_; rintro r w8 ⟨rfl, kk, rfl⟩)
                | (refine step_append_lies _ (by rfl) _ _ _ (by rfl) w.heap.size 4 i0 (.bool false) 1 1 Try.underlying66 hi hz0 hz1 hz2 rfl (by decide) _ _ _ (by rfl) ownl ⟨q6, 0, none⟩ nl cap6 (Bl nl R) (by rfl) lenH (row_bl row6) (Bl_one _ _) lR l1H l2H L5.size _ rfl ?_; intro g cap w7 own7 grow7 at7 lt7; have L7 := L5.grown grow7 L5.size (own_block ownl); have own8 := own7; rw [HC.out] at own8; have bv := own_bits own8 HLT.out; clear own8; have hR := hrd _ _ _ l3H (y - 1) l4H l5H w7 bv; rw [FV.out] at hR; replace e0 := (grow7.cell_far _ (lt_new e0) (by simp [Value.ownBlock])).trans e0; replace e1 := (grow7.cell_far _ (lt_new e1) (by simp [Value.ownBlock])).trans e1)
                | (refine step_append_lies _ (by rfl) _ _ _ (by rfl) w.heap.size 4 i0 (.bool false) 1 1 Try.underlying66 hi hz0 hz1 hz2 rfl (by decide) _ _ _ (by rfl) (World.ownsRow_lit (e := 4) (size := 1) (base := w.heap.size) w6 #[.bool false] 1 L5.size (by decide) rfl) ⟨q6, 0, none⟩ nl cap6 (Bl nl R) (by rfl) lenH (row_bl (row6.below (below_new (Below.refl w6.heap.size w6) _) hq6)) (Bl_one _ _) lR l1H l2H (below_new L5 _).size _ rfl ?_; intro g cap w7 own7 grow7 at7 lt7; have L7 := (below_new L5 _).grown grow7 (below_new L5 _).size (own_block (World.ownsRow_lit (e := 4) (size := 1) (base := w.heap.size) w6 #[.bool false] 1 L5.size (by decide) rfl)); have own8 := own7; rw [HC.out] at own8; have bv := own_bits own8 HLT.out; clear own8; have hR := hrd _ _ _ l3H (y - 1) l4H l5H w7 bv; rw [FV.out] at hR; have ne6 := lt_new e0; replace e0 := (grow7.cell_far _ (lt_new (cell_past e0 _)) (by simp [Value.ownBlock]; omega)).trans (cell_past e0 _); replace e1 := (grow7.cell_far _ (lt_new (cell_past e1 _)) (by simp [Value.ownBlock]; omega)).trans (cell_past e1 _))
                | fail)
            all_goals go_wp2_with fail
            all_goals go_ret
            all_goals exact ⟨rfl, by apply below_drewN; assumption⟩
          · have d0 : decide (num lh ll ≠ 0) = true := by simp [hz]
            have ways : (lh = 0 ∧ ¬ ll = 0) ∨ ¬ lh = 0 := by
              by_cases q : lh = 0
              · left
                exact ⟨q, fun q2 => hz (n0.2 ⟨q, q2⟩)⟩
              · right
                exact q
            rw [d0] at FV
            clear n0 hz d0
            rcases ways with ⟨rfl, ww⟩ | ww
            · have hcons : ∀ n A : Nat, #[Value.bool true].toList ++ Bl n A = Bl (1 + n) (2 * A + true.toNat) := fun n A => by rw [Nat.add_comm 1 n, ← Bl_cons]; rfl
              have HC : Hid _ := hcons
              clear hcons
              have hlt : 2 * R + true.toNat < 2 ^ (1 + nl) := by have := LT5.out; rw [Nat.pow_add]; simp; omega
              have HLT : Hid _ := hlt
              clear hlt
              have l3H : 1 + nl ≤ 100000 := by omega
              have l4H : -100000 ≤ y - 1 := by omega
              have l5H : y - 1 ≤ 100000 := by omega
              have e0 : ((w5.alloc (.cells #[.int .u64 0, .int .u64 ll] 28))).cell? ⟨w5.heap.size, 0, none⟩ = some (.int .u64 0) := by simp [go_sem]
              have e1 : ((w5.alloc (.cells #[.int .u64 0, .int .u64 ll] 28))).cell? ⟨w5.heap.size, 1, none⟩ = some (.int .u64 ll) := by simp [go_sem]
              have L5 := below_new L (.cells #[.int .u64 0, .int .u64 ll] 28)
              go_region_held3 (fun w' => w'.cell? ⟨w5.heap.size, 0, none⟩ = some (.int .u64 0) ∧ w'.cell? ⟨w5.heap.size, 1, none⟩ = some (.int .u64 ll))
                (first | exact ⟨e0, e1⟩ | exact ⟨cell_past e0 _, cell_past e1 _⟩)
                (first
                  | (go_at_call 55; refine (hbt _).mono ?_; rintro r w6 ⟨v6, rfl, own6, b6⟩; obtain ⟨q6, cap6, rfl⟩ := own_someR own6 lR; obtain ⟨hq6, row6⟩ := own_rowR own6; have ownl := own_below (World.ownsRow.drew (World.ownsRow_lit (e := 4) (size := 1) (base := w.heap.size) (w5.alloc (.cells #[.int .u64 0, .int .u64 ll] 28)) #[.bool true] 1 L5.size (by decide) rfl)) b6; simp only [World.size_alloc] at ownl; replace e0 := cell_on b6 (cell_dr (cell_past e0 _)); replace e1 := cell_on b6 (cell_dr (cell_past e1 _)); replace L5 := below_callR (below_new L5 _).drew b6)
                  | (go_at_call 55; refine (hbt _).mono ?_; rintro r w6 ⟨v6, rfl, own6, b6⟩; obtain ⟨q6, cap6, rfl⟩ := own_someR own6 lR; obtain ⟨hq6, row6⟩ := own_rowR own6; replace e0 := cell_on b6 (cell_dr e0); replace e1 := cell_on b6 (cell_dr e1); replace L5 := below_callR L5.drew b6)
                  | (go_at_call 37; refine hR.mono ?_; rintro r w8 ⟨rfl, kk, rfl⟩)
                  | (refine step_append_lies _ (by rfl) _ _ _ (by rfl) w.heap.size 4 i0 (.bool false) 1 1 Try.underlying66 hi hz0 hz1 hz2 rfl (by decide) _ _ _ (by rfl) ownl ⟨q6, 0, none⟩ nl cap6 (Bl nl R) (by rfl) lenH (row_bl row6) (Bl_one _ _) lR l1H l2H L5.size _ rfl ?_; intro g cap w7 own7 grow7 at7 lt7; have L7 := L5.grown grow7 L5.size (own_block ownl); have own8 := own7; rw [HC.out] at own8; have bv := own_bits own8 HLT.out; clear own8; have hR := hrd _ _ _ l3H (y - 1) l4H l5H w7 bv; rw [FV.out] at hR; replace e0 := (grow7.cell_far _ (lt_new e0) (by simp [Value.ownBlock])).trans e0; replace e1 := (grow7.cell_far _ (lt_new e1) (by simp [Value.ownBlock])).trans e1)
                  | (refine step_append_lies _ (by rfl) _ _ _ (by rfl) w.heap.size 4 i0 (.bool false) 1 1 Try.underlying66 hi hz0 hz1 hz2 rfl (by decide) _ _ _ (by rfl) (World.ownsRow_lit (e := 4) (size := 1) (base := w.heap.size) w6 #[.bool true] 1 L5.size (by decide) rfl) ⟨q6, 0, none⟩ nl cap6 (Bl nl R) (by rfl) lenH (row_bl (row6.below (below_new (Below.refl w6.heap.size w6) _) hq6)) (Bl_one _ _) lR l1H l2H (below_new L5 _).size _ rfl ?_; intro g cap w7 own7 grow7 at7 lt7; have L7 := (below_new L5 _).grown grow7 (below_new L5 _).size (own_block (World.ownsRow_lit (e := 4) (size := 1) (base := w.heap.size) w6 #[.bool true] 1 L5.size (by decide) rfl)); have own8 := own7; rw [HC.out] at own8; have bv := own_bits own8 HLT.out; clear own8; have hR := hrd _ _ _ l3H (y - 1) l4H l5H w7 bv; rw [FV.out] at hR; have ne6 := lt_new e0; replace e0 := (grow7.cell_far _ (lt_new (cell_past e0 _)) (by simp [Value.ownBlock]; omega)).trans (cell_past e0 _); replace e1 := (grow7.cell_far _ (lt_new (cell_past e1 _)) (by simp [Value.ownBlock]; omega)).trans (cell_past e1 _))
                  | fail)
              all_goals go_wp2_with fail
              all_goals go_ret
              all_goals exact ⟨rfl, by apply below_drewN; assumption⟩
            · have hcons : ∀ n A : Nat, #[Value.bool true].toList ++ Bl n A = Bl (1 + n) (2 * A + true.toNat) := fun n A => by rw [Nat.add_comm 1 n, ← Bl_cons]; rfl
              have HC : Hid _ := hcons
              clear hcons
              have hlt : 2 * R + true.toNat < 2 ^ (1 + nl) := by have := LT5.out; rw [Nat.pow_add]; simp; omega
              have HLT : Hid _ := hlt
              clear hlt
              have l3H : 1 + nl ≤ 100000 := by omega
              have l4H : -100000 ≤ y - 1 := by omega
              have l5H : y - 1 ≤ 100000 := by omega
              have e0 : ((w5.alloc (.cells #[.int .u64 lh, .int .u64 ll] 28))).cell? ⟨w5.heap.size, 0, none⟩ = some (.int .u64 lh) := by simp [go_sem]
              have e1 : ((w5.alloc (.cells #[.int .u64 lh, .int .u64 ll] 28))).cell? ⟨w5.heap.size, 1, none⟩ = some (.int .u64 ll) := by simp [go_sem]
              have L5 := below_new L (.cells #[.int .u64 lh, .int .u64 ll] 28)
              go_region_held3 (fun w' => w'.cell? ⟨w5.heap.size, 0, none⟩ = some (.int .u64 lh) ∧ w'.cell? ⟨w5.heap.size, 1, none⟩ = some (.int .u64 ll))
                (first | exact ⟨e0, e1⟩ | exact ⟨cell_past e0 _, cell_past e1 _⟩)
                (first
                  | (go_at_call 55; refine (hbt _).mono ?_; rintro r w6 ⟨v6, rfl, own6, b6⟩; obtain ⟨q6, cap6, rfl⟩ := own_someR own6 lR; obtain ⟨hq6, row6⟩ := own_rowR own6; have ownl := own_below (World.ownsRow.drew (World.ownsRow_lit (e := 4) (size := 1) (base := w.heap.size) (w5.alloc (.cells #[.int .u64 lh, .int .u64 ll] 28)) #[.bool true] 1 L5.size (by decide) rfl)) b6; simp only [World.size_alloc] at ownl; replace e0 := cell_on b6 (cell_dr (cell_past e0 _)); replace e1 := cell_on b6 (cell_dr (cell_past e1 _)); replace L5 := below_callR (below_new L5 _).drew b6)
                  | (go_at_call 55; refine (hbt _).mono ?_; rintro r w6 ⟨v6, rfl, own6, b6⟩; obtain ⟨q6, cap6, rfl⟩ := own_someR own6 lR; obtain ⟨hq6, row6⟩ := own_rowR own6; replace e0 := cell_on b6 (cell_dr e0); replace e1 := cell_on b6 (cell_dr e1); replace L5 := below_callR L5.drew b6)
                  | (go_at_call 37; refine hR.mono ?_; rintro r w8 ⟨rfl, kk, rfl⟩)
                  | (refine step_append_lies _ (by rfl) _ _ _ (by rfl) w.heap.size 4 i0 (.bool false) 1 1 Try.underlying66 hi hz0 hz1 hz2 rfl (by decide) _ _ _ (by rfl) ownl ⟨q6, 0, none⟩ nl cap6 (Bl nl R) (by rfl) lenH (row_bl row6) (Bl_one _ _) lR l1H l2H L5.size _ rfl ?_; intro g cap w7 own7 grow7 at7 lt7; have L7 := L5.grown grow7 L5.size (own_block ownl); have own8 := own7; rw [HC.out] at own8; have bv := own_bits own8 HLT.out; clear own8; have hR := hrd _ _ _ l3H (y - 1) l4H l5H w7 bv; rw [FV.out] at hR; replace e0 := (grow7.cell_far _ (lt_new e0) (by simp [Value.ownBlock])).trans e0; replace e1 := (grow7.cell_far _ (lt_new e1) (by simp [Value.ownBlock])).trans e1)
                  | (refine step_append_lies _ (by rfl) _ _ _ (by rfl) w.heap.size 4 i0 (.bool false) 1 1 Try.underlying66 hi hz0 hz1 hz2 rfl (by decide) _ _ _ (by rfl) (World.ownsRow_lit (e := 4) (size := 1) (base := w.heap.size) w6 #[.bool true] 1 L5.size (by decide) rfl) ⟨q6, 0, none⟩ nl cap6 (Bl nl R) (by rfl) lenH (row_bl (row6.below (below_new (Below.refl w6.heap.size w6) _) hq6)) (Bl_one _ _) lR l1H l2H (below_new L5 _).size _ rfl ?_; intro g cap w7 own7 grow7 at7 lt7; have L7 := (below_new L5 _).grown grow7 (below_new L5 _).size (own_block (World.ownsRow_lit (e := 4) (size := 1) (base := w.heap.size) w6 #[.bool true] 1 L5.size (by decide) rfl)); have own8 := own7; rw [HC.out] at own8; have bv := own_bits own8 HLT.out; clear own8; have hR := hrd _ _ _ l3H (y - 1) l4H l5H w7 bv; rw [FV.out] at hR; have ne6 := lt_new e0; replace e0 := (grow7.cell_far _ (lt_new (cell_past e0 _)) (by simp [Value.ownBlock]; omega)).trans (cell_past e0 _); replace e1 := (grow7.cell_far _ (lt_new (cell_past e1 _)) (by simp [Value.ownBlock]; omega)).trans (cell_past e1 _))
                  | fail)
              all_goals go_wp2_with fail
              all_goals go_ret
              all_goals exact ⟨rfl, by apply below_drewN; assumption⟩
  all_goals
    clear hrd hv1 f1
    go_enter Try.func23, Try.ntmps23
    go_wp2_with (first
         | (go_at_call 44; refine (hb1 _).mono ?_; rintro r w1 ⟨rfl, hw⟩; rw [hw]; clear hw w1)
         | (go_at_call 45; refine (hc1 _).mono ?_; rintro r w1 ⟨rfl, n1, rfl⟩)
         | (go_at_call 46; refine (hn1 _).mono ?_; rintro r w1 ⟨rfl, n3, rfl⟩)
         | (go_at_call 48; refine (hi1 _).mono ?_; rintro r w1 ⟨rfl, n5, rfl⟩)
         | (go_at_call 47; refine (hnan _).mono ?_; rintro r w1 ⟨rfl, rfl⟩))
    go_ret
    exact ⟨rfl, below_drewN (Below.refl _ _) _⟩
end Go.Proofs.Ytmfmjinplieehaa

