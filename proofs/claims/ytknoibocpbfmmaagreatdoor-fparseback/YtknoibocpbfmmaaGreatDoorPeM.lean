/- Two programs behind one another: the mathematics of FparseJoins. -/
import Derived.Test.YtknoibocpbfmmaaGreatDoorPeL
namespace Go.Proofs.YtknoibocpbfmmaaGreatDoor
set_option linter.unusedVariables false
set_option linter.unusedSimpArgs false
theorem pgP_up {n m : Nat} {ts : List Tk} {R : Rs Pg} (h : pgP n ts = R) (hR : R ≠ .more) (hm : n ≤ m) : pgP m ts = R := by
  unfold pgP at h ⊢
  cases h1 : dsP n ts 0 with
  | more => rw [h1] at h; exact absurd h.symm hR
  | bad a => rw [dsP_up h1 (by simp) hm]; rw [h1] at h; exact h
  | ok l us d =>
    rw [dsP_up h1 (by simp) hm]
    rw [h1] at h
    simp only [Rs.thn] at h ⊢
    cases h2 : ssP n us d with
    | more => rw [h2] at h; exact absurd h.symm hR
    | bad a => rw [ssP_up h2 (by simp) hm]; rw [h2] at h; exact h
    | ok b vs e => rw [ssP_up h2 (by simp) hm]; rw [h2] at h; exact h
theorem pgP_any {n m : Nat} {ts : List Tk} (hn : pgP n ts ≠ .more) (hm : pgP m ts ≠ .more) : pgP n ts = pgP m ts := by
  rcases Nat.le_total n m with k | k
  · exact (pgP_up rfl hn k).symm
  · exact pgP_up rfl hm k
theorem isN_el : isN tEl.toList = false := by decide +kernel
/-- A program doesn't begin with else. -/
theorem no_else {N : Nat} {tb : List Tk} {e : Nat} {q : Pg} {vs : List Tk} {d : Int} (h : pgP N (tb ++ [eT e]) = .ok q vs d) (hn : ∀ x ∈ tb, x.1 = 1 → isN x.2.1.toList = true) (hk : Kd tb) : isTx (tb ++ [eT e]) tEl = false := by
  cases tb with
  | nil => exact decide_eq_false (show ¬ (tx0 : ByteArray) = tEl by decide)
  | cons x r =>
    by_cases c : x.2.1 = tEl
    · exfalso
      have x1 : x.1 ≠ 1 := fun h1 => by
        have := hn x (by simp) h1
        rw [c, isN_el] at this
        cases this
      have x0 := hk x (by simp)
      obtain ⟨us, k, h1, h2⟩ := pg_parts h
      cases N with
      | zero => cases h1
      | succ n =>
        rw [dsP, if_neg (by show ¬ tyOf x.2.1 ≠ 0; rw [c]; decide)] at h1
        injection h1 with g1 g2 g3
        rw [← g2] at h2
        clear g1 g2 g3
        rw [ssP, if_neg (show ¬ (hd (x :: r ++ [eT e])).1 = 0 from x0)] at h2
        cases n with
        | zero => cases h2
        | succ n =>
          rw [stP, if_neg (by show ¬ decide (x.2.1 = tRd) = true; rw [c]; decide), if_neg (by show ¬ decide (x.2.1 = tIf) = true; rw [c]; decide), if_neg (by show ¬ decide (x.2.1 = tWh) = true; rw [c]; decide)] at h2
          unfold asgP nameP at h2
          rw [if_neg (show ¬ (hd (x :: r ++ [eT e])).1 = 1 from x1)] at h2
          cases h2
    · exact decide_eq_false c
theorem toL_add (a b : ByteArray) : (a ++ b).toList = a.toList ++ b.toList := by rw [toL, toL, toL]; simp
theorem ext_eq {s s' : ByteArray} {a b a' b' : Nat} (h : (s.toList.take b).drop a = (s'.toList.take b').drop a') : s.extract a b = s'.extract a' b' := by
  apply ByteArray.ext
  apply Array.ext'
  have e : ∀ (x : ByteArray) (a b : Nat), (x.extract a b).data.toList = (x.toList.take b).drop a := fun x a b => by rw [← toL, toL_cut]
  rw [e, e, h]
theorem par_ok {ts : List Tk} {r : Rs Pg} {p : Pg} (h : parT ts r = .ok p) : ∃ vs d, r = .ok p vs d ∧ d ≤ 24 ∧ (ruP p).isSome = true := by
  cases r with
  | ok x vs d =>
    have h' : (if (decide (d ≤ 24) && (ruP x).isSome) = true then Except.ok x else Except.error (5, 0)) = Except.ok p := h
    split at h'
    · rename_i c
      simp only [Bool.and_eq_true, decide_eq_true_eq] at c
      cases h'
      exact ⟨vs, d, rfl, c.1, c.2⟩
    · cases h'
  | bad a => cases h
  | more => cases h
theorem tks_names {s : ByteArray} {t : List (Nat × Nat × Nat)} (h : scanL s.toList = .ok t) : ∀ x ∈ t.map (fun x => (x.1, s.extract x.2.1 (x.2.1 + x.2.2), x.2.1)), x.1 = 1 → isN x.2.1.toList = true := by
  intro x hx x1
  obtain ⟨y, hy, rfl⟩ := List.mem_map.1 hx
  have := scanL_names h y hy x1
  show isN (s.extract y.2.1 (y.2.1 + y.2.2)).toList = true
  rw [toL_cut, List.drop_take, show y.2.1 + y.2.2 - y.2.1 = y.2.2 by omega]
  exact this
theorem tks_kd {s : ByteArray} {t : List (Nat × Nat × Nat)} (h : scanL s.toList = .ok t) : Kd (t.map (fun x => (x.1, s.extract x.2.1 (x.2.1 + x.2.2), x.2.1))) := fun x hx => by
  obtain ⟨y, hy, rfl⟩ := List.mem_map.1 hx
  exact (scanL_kinds h y hy).1
/-- A program behind another. -/
theorem prs_join {a b : ByteArray} {p q : Pg} (ha : prsL a = .ok p) (hb : prsL b = .ok q) (hc : q.1 = [] ∨ p.2 = .nil) :
    (∃ x, prsL (a ++ ⟨#[32]⟩ ++ b) = .error (5, x)) ∨ prsL (a ++ ⟨#[32]⟩ ++ b) = .ok (p.1 ++ q.1, p.2.app q.2) := by
  obtain ⟨J, hJ⟩ : ∃ J, a ++ (⟨#[32]⟩ : ByteArray) ++ b = J := ⟨_, rfl⟩
  have eJ : J.toList = a.toList ++ 32 :: b.toList := by
    rw [← hJ, toL_add, toL_add, List.append_assoc]
    rw [show (⟨#[32]⟩ : ByteArray).toList = [32] by rw [toL]]
    rfl
  rw [hJ]
  obtain ⟨t, ht⟩ := prs_scan ha
  obtain ⟨u, hu⟩ := prs_scan hb
  have sj := scanL_app ht hu
  rw [← eJ] at sj
  rcases sj with sj | ⟨x, sj⟩
  · unfold prsL at ha hb ⊢
    rw [ht] at ha
    rw [hu] at hb
    rw [sj]
    simp only at ha hb ⊢
    obtain ⟨va, d1, pa, ra, _⟩ := par_ok ha
    obtain ⟨vb, d2, pb, rb, _⟩ := par_ok hb
    have ka := scanL_kinds ht
    have kb := scanL_kinds hu
    rw [toL_len] at ka kb sj
    have eT' : tks J (t ++ u.map fun x => (x.1, x.2.1 + (a.size + 1), x.2.2)) = t.map (fun x => (x.1, a.extract x.2.1 (x.2.1 + x.2.2), x.2.1)) ++ ((u.map (fun x => (x.1, b.extract x.2.1 (x.2.1 + x.2.2), x.2.1))).map (sh (a.size + 1)) ++ [eT J.size]) := by
      unfold tks
      rw [List.map_append, List.append_assoc]
      congr 1
      · apply List.map_congr_left
        intro x hx
        have := (ka x hx).2
        have e : J.extract x.2.1 (x.2.1 + x.2.2) = a.extract x.2.1 (x.2.1 + x.2.2) := ext_eq (by rw [eJ, List.take_append_of_le_length (by rw [toL_len]; exact this)])
        rw [e]
      · congr 1
        rw [List.map_map, List.map_map]
        apply List.map_congr_left
        intro x hx
        have e : J.extract (x.2.1 + (a.size + 1)) (x.2.1 + (a.size + 1) + x.2.2) = b.extract x.2.1 (x.2.1 + x.2.2) := ext_eq (by
          rw [List.drop_take, List.drop_take, eJ]
          rw [show x.2.1 + (a.size + 1) + x.2.2 - (x.2.1 + (a.size + 1)) = x.2.1 + x.2.2 - x.2.1 by omega]
          congr 1
          rw [show x.2.1 + (a.size + 1) = a.toList.length + (1 + x.2.1) by rw [toL_len]; omega, List.drop_append, Nat.add_comm 1 x.2.1, List.drop_eq_nil_of_le (by omega), Nat.add_sub_cancel_left]
          rfl)
        show (x.1, J.extract (x.2.1 + (a.size + 1)) (x.2.1 + (a.size + 1) + x.2.2), x.2.1 + (a.size + 1)) = (x.1, b.extract x.2.1 (x.2.1 + x.2.2), x.2.1 + (a.size + 1))
        rw [e]
    rw [toL_len]
    have pb' := pb
    have pa' := pa
    unfold tks at pb' pa'
    obtain ⟨M, hM⟩ := jn_pg a.size b.size J.size (a.size + 1) (tks_kd ht) (tks_kd hu) pa' pb' (no_else pb' (tks_names hu) (tks_kd hu)) hc
    have nm := tks_nm (s := J) (scanL_len sj)
    rw [eT'] at nm ⊢
    rw [pgP_any nm (by rw [hM]; simp), hM]
    unfold parT
    simp only
    split
    · exact Or.inr rfl
    · exact Or.inl ⟨0, rfl⟩
  · exact Or.inl ⟨x, by unfold prsL; rw [sj]⟩
/-- The points of statements. -/
def So.pts : So → Nat
  | .nil => 0
  | .cons _ _ _ _ _ _ t e r => t.pts + e.pts + r.pts + 1
theorem So.pts_app : ∀ f g : So, (f.app g).pts = f.pts + g.pts
  | .nil, g => by rw [So.app, So.pts, Nat.zero_add]
  | .cons a b c d e f t l r, g => by rw [So.app, So.pts, So.pts, So.pts_app r g]; omega
theorem So.len_app : ∀ f g : So, (f.app g).len = f.len + g.len
  | .nil, g => by rw [So.app, So.len, Nat.zero_add]
  | .cons a b c d e f t l r, g => by rw [So.app, So.len, So.len, So.len_app r g]; omega
theorem ruS_pts : ∀ (f : So) (deep : Nat) (c c' : Nat × Nat), ruS deep f c = some c' → c'.1 = c.1 + f.pts
  | .nil, _, c, c', q => by
    have q' : some c = some c' := q
    cases q'
    rfl
  | .cons d nm ix v l h t e r, deep, c, c', q => by
    rw [ruS] at q
    obtain ⟨pc, q⟩ := oi' q
    obtain ⟨c2, q, qr⟩ := ob' q
    have r1 := ruS_pts r _ _ _ qr
    have main : c2.1 = c.1 + 1 + t.pts + e.pts := by
      by_cases d1 : d = 1
      · rw [if_pos d1] at q
        obtain ⟨a, q⟩ := oi' q
        obtain ⟨x, q1, q⟩ := ob' q
        obtain ⟨y, q2, q⟩ := ob' q
        obtain ⟨b, q⟩ := oi' q
        obtain ⟨_, _, _, _, _, b3, b4⟩ := bare_all b
        injection q with q
        rw [← q, so_len0 b3, so_len0 b4]
        rfl
      rw [if_neg d1] at q
      by_cases d2 : d = 2
      · rw [if_pos d2] at q
        obtain ⟨a, q⟩ := oi' q
        obtain ⟨x, q1, q⟩ := ob' q
        obtain ⟨y, q2, q⟩ := ob' q
        obtain ⟨b, q⟩ := oi' q
        obtain ⟨_, _, _, _, _, b3, b4⟩ := bare_all b
        injection q with q
        rw [← q, so_len0 b3, so_len0 b4]
        rfl
      rw [if_neg d2] at q
      by_cases d3 : d = 3
      · rw [if_pos d3] at q
        obtain ⟨x, q1, q⟩ := ob' q
        obtain ⟨a, q⟩ := oi' q
        obtain ⟨y, q2, q⟩ := ob' q
        obtain ⟨z, q3, q⟩ := ob' q
        obtain ⟨b, q⟩ := oi' q
        have e1 := ruS_pts t _ _ _ q2
        have e2 := ruS_pts e _ _ _ q3
        cases q
        rw [e2, e1]
      rw [if_neg d3] at q
      by_cases d4 : d = 4
      · rw [if_pos d4] at q
        obtain ⟨x, q1, q⟩ := ob' q
        obtain ⟨a, q⟩ := oi' q
        obtain ⟨y, q2, q⟩ := ob' q
        obtain ⟨b, q⟩ := oi' q
        obtain ⟨_, _, _, _, _, _, b4⟩ := bare_all b
        have e1 := ruS_pts t _ _ _ q2
        injection q with q
        rw [← q, e1, so_len0 b4]
        rfl
      · rw [if_neg d4] at q
        cases q
    rw [r1, main, So.pts]
    omega
theorem prs_ru {s : ByteArray} {p : Pg} (h : prsL s = .ok p) : (ruP p).isSome = true := by
  obtain ⟨t, ht⟩ := prs_scan h
  unfold prsL at h
  rw [ht] at h
  obtain ⟨_, _, _, _, r⟩ := par_ok h
  exact r
/-- The points of a program that a text is. -/
theorem ms_pts {s : ByteArray} {p : Pg} (h : prsL s = .ok p) : (msP (p.1, p.2)).1 = (p.2.pts : Nat) ∧ p.2.pts ≤ 256 := by
  have r := prs_ru h
  unfold msP
  rw [show (p.1, p.2) = p from rfl]
  cases hr : ruP p with
  | none => rw [hr] at r; cases r
  | some c =>
    simp only
    unfold ruP at hr
    obtain ⟨_, hr⟩ := oi' hr
    unfold ruK at hr
    obtain ⟨_, hr⟩ := oi' hr
    have e := ruS_pts _ _ _ _ hr
    have b := (ruS_wt _ _ _ _ hr).2.1 (by show 0 ≤ 256; omega)
    have e' : c.1 = p.2.pts := by rw [e]; exact Nat.zero_add _
    rw [← e']
    exact ⟨rfl, b⟩
end Go.Proofs.YtknoibocpbfmmaaGreatDoor

