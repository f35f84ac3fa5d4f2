/- Two programs' tokens, one behind the other: declarations, statements, programs. -/
import Derived.Test.YtknoibocpbfmmaaGreatDoorPcF
namespace Go.Proofs.YtknoibocpbfmmaaGreatDoor
set_option linter.unusedVariables false
theorem jn_dc {C : Prop} {e k : Nat} {v : List Tk} {m : Int} {u : List Tk} (hu : Kd u) (d : Int) : Jn C e k v m (dcP (u ++ [eT e]) d) (dcP (u.map (sh k) ++ v) (max d m)) := by
  cases u with
  | nil => exact Jn.nv (end_dc e d).nv
  | cons b u =>
    unfold dcP
    by_cases c : b.1 = 2
    · rw [if_pos (show (hd (b :: u ++ [eT e])).1 = 2 from c), if_pos (show (hd ((b :: u).map (sh k) ++ v)).1 = 2 from c)]
      refine Jn.name (u := u) (f := fun x us => if isTx us tLb then if (hd us.tail).1 = 3 then want tRb us.tail.tail fun vs => want tSe vs fun vs => .ok (x, tyOf b.2.1, celN (hd us.tail).2.1) vs d else .bad (hd us.tail).2.2 else want tSe us fun us => .ok (x, tyOf b.2.1, 0) us d)
        (f' := fun x us => if isTx us tLb then if (hd us.tail).1 = 3 then want tRb us.tail.tail fun vs => want tSe vs fun vs => .ok (x, tyOf b.2.1, celN (hd us.tail).2.1) vs (max d m) else .bad (hd us.tail).2.2 else want tSe us fun us => .ok (x, tyOf b.2.1, 0) us (max d m)) hu.tl (fun x w hw => ?_)
      cases w with
      | nil => exact Jn.nv (Nv.ite tLb_ne e (end_want tSe_ne e _).nv)
      | cons a w =>
        refine Jn.iteC (f := fun us => if (hd us).1 = 3 then want tRb us.tail fun vs => want tSe vs fun vs => .ok (x, tyOf b.2.1, celN (hd us).2.1) vs d else .bad (hd us).2.2) (f' := fun us => if (hd us).1 = 3 then want tRb us.tail fun vs => want tSe vs fun vs => .ok (x, tyOf b.2.1, celN (hd us).2.1) vs (max d m) else .bad (hd us).2.2)
          (g := fun us => want tSe us fun us => .ok (x, tyOf b.2.1, 0) us d) (g' := fun us => want tSe us fun us => .ok (x, tyOf b.2.1, 0) us (max d m)) hw (fun w hw => ?_) ?_
        · exact Jn.kind (j := 3) (f := fun y us => want tRb us fun vs => want tSe vs fun vs => .ok (x, tyOf b.2.1, celN y) vs d) (f' := fun y us => want tRb us fun vs => want tSe vs fun vs => .ok (x, tyOf b.2.1, celN y) vs (max d m)) (g := fun us => .bad (hd us).2.2) (g' := fun us => .bad (hd us).2.2) (by decide) hw (fun y w hw => Jn.want tRb_ne hw (fun w hw => Jn.want tSe_ne hw (fun w hw => Jn.ok _ hw d))) (fun _ => rfl)
        · exact Jn.want tSe_ne hw (fun w hw => Jn.ok _ hw d)
    · rw [if_neg (show ¬ (hd (b :: u ++ [eT e])).1 = 2 from c)]
      exact Jn.bad
/-- Declarations up to what is none; with others behind them, the others' too. -/
theorem jn_ds (e k : Nat) (v : List Tk) (m : Int) : ∀ (n n' : Nat) u d, Kd u → n ≤ n' → ∀ x vs d', dsP n (u ++ [eT e]) d = .ok x vs d' → ∃ w, Kd w ∧ vs = w ++ [eT e] ∧ (w ≠ [] → dsP n' (u.map (sh k) ++ v) (max d m) = .ok x (w.map (sh k) ++ v) (max d' m)) ∧
    (w = [] → ∃ j, j ≤ u.length ∧ dsP (n' + j) (u.map (sh k) ++ v) (max d m) = (dsP n' v (max d' m)).thn fun l ts d => .ok (x ++ l) ts d)
  | 0, _, u, d, hu, _ => fun x vs d' q => by cases q
  | n + 1, 0, u, d, hu, h => absurd h (by omega)
  | n + 1, n' + 1, u, d, hu, h => by
    intro x vs d' q
    rw [dsP] at q
    cases u with
    | nil =>
      rw [List.nil_append, if_neg (show ¬ tyOf (hd [eT e]).2.1 ≠ 0 from fun h => h rfl)] at q
      cases q
      refine ⟨[], hu, rfl, fun a => absurd rfl a, fun _ => ⟨0, Nat.le_refl _, ?_⟩⟩
      rw [List.map_nil, List.nil_append, Nat.add_zero]
      cases dsP (n' + 1) v (max d m) <;> rfl
    | cons b u =>
      by_cases c : tyOf b.2.1 ≠ 0
      · rw [if_pos (show tyOf (hd (b :: u ++ [eT e])).2.1 ≠ 0 from c)] at q
        cases hr : dcP (b :: u ++ [eT e]) d with
        | bad p => rw [hr] at q; cases q
        | more => rw [hr] at q; cases q
        | ok y us k1 =>
          obtain ⟨w, hw, rfl, e2⟩ := jn_dc (C := True) (k := k) (v := v) (m := m) hu d y us k1 hr
          have e3 := e2 (Or.inr trivial)
          rw [hr] at q
          simp only [Rs.thn] at q
          cases hr2 : dsP n (w ++ [eT e]) k1 with
          | bad p => rw [hr2] at q; cases q
          | more => rw [hr2] at q; cases q
          | ok l ws k2 =>
            rw [hr2] at q
            cases q
            obtain ⟨z, hz, rfl, h1, h2⟩ := jn_ds e k v m n n' w k1 hw (by omega) l _ d' hr2
            refine ⟨z, hz, rfl, fun a => ?_, fun a => ?_⟩
            · rw [dsP, if_pos (show tyOf (hd ((b :: u).map (sh k) ++ v)).2.1 ≠ 0 from c), e3]
              simp only [Rs.thn]
              rw [h1 a]
            · obtain ⟨w3, _, e9, g1, g2⟩ := jn_ds e k v m n (n' + 1) w k1 hw (by omega) l _ d' hr2
              obtain ⟨j, hj, h3⟩ := g2 (by subst a; exact (List.append_cancel_right e9).symm)
              have hl : w.length ≤ u.length := by
                have := dcP_sat (b :: u ++ [eT e]) d False ⟨_, _, rfl⟩
                rw [hr] at this
                have := this.2
                simp at this
                omega
              refine ⟨j + 1, by simp; omega, ?_⟩
              rw [show n' + 1 + (j + 1) = (n' + 1 + j) + 1 by omega, dsP, if_pos (show tyOf (hd ((b :: u).map (sh k) ++ v)).2.1 ≠ 0 from c), e3]
              simp only [Rs.thn]
              rw [h3]
              cases dsP (n' + 1) v (max d' m) <;> rfl
      · rw [if_neg (show ¬ tyOf (hd (b :: u ++ [eT e])).2.1 ≠ 0 from c)] at q
        cases q
        refine ⟨b :: u, hu, rfl, fun _ => ?_, fun a => by cases a⟩
        rw [dsP, if_neg (show ¬ tyOf (hd ((b :: u).map (sh k) ++ v)).2.1 ≠ 0 from c)]
/-- Statements up to the end; with others behind them, the others' too. -/
theorem jn_ss (e k : Nat) (v : List Tk) (hv : isTx v tEl = false) (m : Int) : ∀ (n n' : Nat) u d, Kd u → n ≤ n' → ∀ x vs d', ssP n (u ++ [eT e]) d = .ok x vs d' → vs = [eT e] ∧ ∃ j, j ≤ u.length ∧ ssP (n' + j) (u.map (sh k) ++ v) (max d m) = (ssP n' v (max d' m)).thn fun l ts d => .ok (x.app l) ts d
  | 0, _, u, d, hu, _ => fun x vs d' q => by cases q
  | n + 1, 0, u, d, hu, h => absurd h (by omega)
  | n + 1, n' + 1, u, d, hu, h => by
    intro x vs d' q
    rw [ssP] at q
    cases u with
    | nil =>
      rw [List.nil_append, if_pos (show (hd [eT e]).1 = 0 from rfl)] at q
      cases q
      refine ⟨rfl, 0, Nat.le_refl _, ?_⟩
      rw [List.map_nil, List.nil_append, Nat.add_zero]
      cases ssP (n' + 1) v (max d m) <;> rfl
    | cons b u =>
      have c : ¬ b.1 = 0 := hu b (by simp)
      rw [if_neg (show ¬ (hd (b :: u ++ [eT e])).1 = 0 from c)] at q
      cases hr : stP n (b :: u ++ [eT e]) d with
      | bad p => rw [hr] at q; cases q
      | more => rw [hr] at q; cases q
      | ok y us k1 =>
        have e3 : ∀ N, n ≤ N → ∃ w, Kd w ∧ us = w ++ [eT e] ∧ stP N ((b :: u).map (sh k) ++ v) (max d m) = .ok y (w.map (sh k) ++ v) (max k1 m) := fun N hN => by
          obtain ⟨w, hw, e1, e2⟩ := (jn_st e k v m n N hN).1 (b :: u) d hu y us k1 hr
          exact ⟨w, hw, e1, e2 (Or.inr hv)⟩
        obtain ⟨w, hw, rfl, _⟩ := e3 n (Nat.le_refl _)
        rw [hr] at q
        simp only [Rs.thn] at q
        cases hr2 : ssP n (w ++ [eT e]) k1 with
        | bad p => rw [hr2] at q; cases q
        | more => rw [hr2] at q; cases q
        | ok l ws k2 =>
          rw [hr2] at q
          cases q
          obtain ⟨rfl, j, hj, h3⟩ := jn_ss e k v hv m n (n' + 1) w k1 hw (by omega) l _ d' hr2
          have hl : w.length ≤ u.length := by
            have := (st_sat n).1 (b :: u ++ [eT e]) d ⟨_, _, rfl⟩
            rw [hr] at this
            have := this.2
            simp at this
            omega
          refine ⟨rfl, j + 1, by simp; omega, ?_⟩
          obtain ⟨w2, _, e4, e5⟩ := e3 (n' + 1 + j) (by omega)
          have e6 : w2 = w := (List.append_cancel_right e4).symm
          subst e6
          rw [show n' + 1 + (j + 1) = (n' + 1 + j) + 1 by omega, ssP, if_neg (show ¬ (hd ((b :: u).map (sh k) ++ v)).1 = 0 from c), e5]
          simp only [Rs.thn]
          rw [h3]
          cases ssP (n' + 1) v (max d' m) <;> rfl
theorem So.app_nil : ∀ f : So, f.app .nil = f
  | .nil => rfl
  | .cons a b c d e f t l r => by rw [So.app, So.app_nil r]
theorem map_sh0 : ∀ u : List Tk, u.map (sh 0) = u
  | [] => rfl
  | (a, b, c) :: u => congrArg ((a, b, c) :: ·) (map_sh0 u)
theorem ds_ok_up {n n' : Nat} (h : n ≤ n') {ts : List Tk} {d : Int} {x : List Dc} {us : List Tk} {d' : Int} (e : dsP n ts d = .ok x us d') : dsP n' ts d = .ok x us d' := by
  obtain ⟨j, rfl⟩ := Nat.le.dest h
  rw [← e]
  exact mo_upto (fun n => mo_ds n ts d) n j (by show dsP n ts d ≠ _; rw [e]; simp)
theorem ss_ok_up {n n' : Nat} (h : n ≤ n') {ts : List Tk} {d : Int} {x : So} {us : List Tk} {d' : Int} (e : ssP n ts d = .ok x us d') : ssP n' ts d = .ok x us d' := by
  obtain ⟨j, rfl⟩ := Nat.le.dest h
  rw [← e]
  exact mo_upto (fun n => mo_ss n ts d) n j (by show ssP n ts d ≠ _; rw [e]; simp)
theorem ss_end {n : Nat} {a : Nat} {d : Int} {x : So} {us : List Tk} {d' : Int} (e : ssP n [eT a] d = .ok x us d') : x = .nil ∧ us = [eT a] ∧ d' = d := by
  cases n with
  | zero => cases e
  | succ n => rw [ssP, if_pos (show (hd [eT a]).1 = 0 from rfl)] at e; cases e; exact ⟨rfl, rfl, rfl⟩
theorem ss_ends (n a : Nat) (d : Int) : ssP (n + 1) [eT a] d = .ok .nil [eT a] d := by rw [ssP, if_pos (show (hd [eT a]).1 = 0 from rfl)]
theorem ds_ends (n a : Nat) (d : Int) : dsP (n + 1) [eT a] d = .ok [] [eT a] d := by rw [dsP, if_neg (show ¬ tyOf (hd [eT a]).2.1 ≠ 0 from fun h => h rfl)]
theorem ds_none {n : Nat} {ts : List Tk} {d : Int} {us : List Tk} {d' : Int} (e : dsP n ts d = .ok [] us d') : us = ts ∧ d' = d := by
  cases n with
  | zero => cases e
  | succ n =>
    rw [dsP] at e
    split at e
    · cases h : dcP ts d with
      | bad p => rw [h] at e; cases e
      | more => rw [h] at e; cases e
      | ok x vs k =>
        rw [h] at e
        simp only [Rs.thn] at e
        cases h2 : dsP n vs k with
        | bad p => rw [h2] at e; cases e
        | more => rw [h2] at e; cases e
        | ok l ws j => rw [h2] at e; cases e
    · cases e; exact ⟨rfl, rfl⟩
theorem pg_parts {N : Nat} {ts : List Tk} {p : Pg} {vs : List Tk} {d : Int} (h : pgP N ts = .ok p vs d) : ∃ us k, dsP N ts 0 = .ok p.1 us k ∧ ssP N us k = .ok p.2 vs d := by
  unfold pgP at h
  cases hr : dsP N ts 0 with
  | bad p => rw [hr] at h; cases h
  | more => rw [hr] at h; cases h
  | ok l us k =>
    rw [hr] at h
    simp only [Rs.thn] at h
    cases hr2 : ssP N us k with
    | bad p => rw [hr2] at h; cases h
    | more => rw [hr2] at h; cases h
    | ok b ws j => rw [hr2] at h; cases h; exact ⟨us, k, rfl, hr2⟩
/-- A program's tokens further on, with another end, from a greater depth. -/
theorem sh_pg (e e' k : Nat) (m : Int) (m0 : 0 ≤ m) {N : Nat} {tb : List Tk} (hb : Kd tb) {q : Pg} {vs : List Tk} {d : Int} (h : pgP N (tb ++ [eT e]) = .ok q vs d) : ∃ f Z z, dsP f (tb.map (sh k) ++ [eT e']) m = .ok q.1 Z z ∧ ssP f Z z = .ok q.2 [eT e'] (max d m) := by
  obtain ⟨us, k1, h1, h2⟩ := pg_parts h
  obtain ⟨w, hw, rfl, g1, g2⟩ := jn_ds e k [eT e'] m N N tb 0 hb (Nat.le_refl _) q.1 us k1 h1
  rw [show max 0 m = m by omega] at g1 g2
  obtain ⟨_, j, _, h3⟩ := jn_ss e k [eT e'] (end_no tEl_ne e') m N (N + 1) w k1 hw (by omega) q.2 vs d h2
  rw [ss_ends] at h3
  simp only [Rs.thn, So.app_nil] at h3
  by_cases c : w = []
  · obtain ⟨i, _, h4⟩ := g2 c
    have N1 : ∃ N1, N = N1 + 1 := by
      cases N with
      | zero => cases h1
      | succ N => exact ⟨N, rfl⟩
    obtain ⟨N1, rfl⟩ := N1
    rw [ds_ends] at h4
    simp only [Rs.thn, List.append_nil] at h4
    subst c
    rw [List.map_nil, List.nil_append] at h3
    exact ⟨(N1 + 1 + i) + (N1 + 1 + 1 + j), _, _, ds_ok_up (by omega) h4, ss_ok_up (by omega) h3⟩
  · exact ⟨N + (N + 1 + j), _, _, ds_ok_up (by omega) (g1 c), ss_ok_up (by omega) h3⟩
theorem ds_ge (e : Nat) {N : Nat} {tb : List Tk} (hb : Kd tb) {x : List Dc} {vs : List Tk} {d d' : Int} (h : dsP N (tb ++ [eT e]) d = .ok x vs d') : d ≤ d' := by
  obtain ⟨w, hw, rfl, g1, g2⟩ := jn_ds e 0 [eT e] d N N tb d hb (Nat.le_refl _) x vs d' h
  rw [map_sh0, show max d d = d by omega] at g1 g2
  by_cases c : w = []
  · obtain ⟨j, _, h4⟩ := g2 c
    have N1 : ∃ N1, N = N1 + 1 := by
      cases N with
      | zero => cases h
      | succ N => exact ⟨N, rfl⟩
    obtain ⟨N1, rfl⟩ := N1
    rw [ds_ends, ds_ok_up (by omega) h] at h4
    simp only [Rs.thn] at h4
    have := (Rs.ok.inj h4).2.2
    omega
  · have := g1 c
    rw [h, map_sh0] at this
    have := (Rs.ok.inj this).2.2
    omega
theorem ss_ge (e : Nat) {N : Nat} {tb : List Tk} (hb : Kd tb) {x : So} {vs : List Tk} {d d' : Int} (h : ssP N (tb ++ [eT e]) d = .ok x vs d') : d ≤ d' := by
  obtain ⟨_, j, _, h3⟩ := jn_ss e 0 [eT e] (end_no tEl_ne e) d N (N + 1) tb d hb (by omega) x vs d' h
  rw [map_sh0, show max d d = d by omega, ss_ends, ss_ok_up (by omega) h] at h3
  simp only [Rs.thn] at h3
  have := (Rs.ok.inj h3).2.2
  omega
theorem ss_some {N : Nat} {w : List Tk} (hw : Kd w) (h0 : w ≠ []) {e : Nat} {d d' : Int} {x : So} {vs : List Tk} (h : ssP N (w ++ [eT e]) d = .ok x vs d') : x ≠ .nil := by
  cases N with
  | zero => cases h
  | succ N =>
    cases w with
    | nil => exact absurd rfl h0
    | cons b w =>
      rw [ssP, if_neg (show ¬ (hd (b :: w ++ [eT e])).1 = 0 from hw b (by simp))] at h
      cases hr : stP N (b :: w ++ [eT e]) d with
      | bad p => rw [hr] at h; cases h
      | more => rw [hr] at h; cases h
      | ok y us k =>
        rw [hr] at h
        simp only [Rs.thn] at h
        cases hr2 : ssP N us k with
        | bad p => rw [hr2] at h; cases h
        | more => rw [hr2] at h; cases h
        | ok l ws j => rw [hr2] at h; cases h; simp [St.row]
theorem isTx_sh (k : Nat) (e e' : Nat) (s : ByteArray) : ∀ tb : List Tk, isTx (tb.map (sh k) ++ [eT e']) s = isTx (tb ++ [eT e]) s
  | [] => rfl
  | b :: tb => rfl
/-- Two programs' tokens, one behind the other, are both: the second one has no declarations, or the first no statements. -/
theorem jn_pg (e e2 e3 k : Nat) {N : Nat} {ta tb : List Tk} (ha : Kd ta) (hb : Kd tb) {p q : Pg} {va vb : List Tk} {d1 d2 : Int} (h1 : pgP N (ta ++ [eT e]) = .ok p va d1) (h2 : pgP N (tb ++ [eT e2]) = .ok q vb d2) (hel : isTx (tb ++ [eT e2]) tEl = false) (hc : q.1 = [] ∨ p.2 = .nil) :
    ∃ M, pgP M (ta ++ (tb.map (sh k) ++ [eT e3])) = .ok (p.1 ++ q.1, p.2.app q.2) [eT e3] (max d2 d1) := by
  obtain ⟨us, k1, h3, h4⟩ := pg_parts h1
  obtain ⟨w, hw, rfl, g1, g2⟩ := jn_ds e 0 (tb.map (sh k) ++ [eT e3]) 0 N N ta 0 ha (Nat.le_refl _) p.1 us k1 h3
  have k0 := ds_ge e ha h3
  have d0 := ss_ge e hw h4
  rw [map_sh0, show max (0 : Int) 0 = 0 by rfl, show max k1 0 = k1 by omega] at g1 g2
  by_cases c : w = []
  · subst c
    obtain ⟨b1, -, b3⟩ := ss_end h4
    rw [b3]
    obtain ⟨f, Z, z, f1, f2⟩ := sh_pg e2 e3 k k1 (by omega) hb h2
    obtain ⟨w', _, e9, _, g4⟩ := jn_ds e 0 (tb.map (sh k) ++ [eT e3]) 0 N (N + f) ta 0 ha (by omega) p.1 _ k1 h3
    obtain ⟨j, _, h5⟩ := g4 ((List.append_cancel_right e9).symm)
    rw [map_sh0, show max (0 : Int) 0 = 0 by rfl, show max k1 0 = k1 by omega, ds_ok_up (by omega) f1] at h5
    simp only [Rs.thn] at h5
    refine ⟨(N + f + j) + f, ?_⟩
    unfold pgP
    rw [ds_ok_up (by omega) h5]
    simp only [Rs.thn]
    rw [ss_ok_up (by omega) f2, b1]
    rfl
  · have hq : q.1 = [] := hc.resolve_right (ss_some hw c h4)
    obtain ⟨f, Z, z, f1, f2⟩ := sh_pg e2 e3 k d1 (by omega) hb h2
    rw [hq] at f1
    obtain ⟨eZ, ez⟩ := ds_none f1
    rw [eZ, ez] at f2
    have hV : isTx (tb.map (sh k) ++ [eT e3]) tEl = false := by rw [isTx_sh k e2 e3]; exact hel
    obtain ⟨_, j, _, h5⟩ := jn_ss e 0 (tb.map (sh k) ++ [eT e3]) hV 0 N (N + f) w k1 hw (by omega) p.2 _ d1 h4
    rw [show max k1 0 = k1 by omega, show max d1 0 = d1 by omega, ss_ok_up (by omega) f2] at h5
    simp only [Rs.thn] at h5
    refine ⟨N + (N + f + j), ?_⟩
    unfold pgP
    rw [ds_ok_up (by omega) (g1 c)]
    simp only [Rs.thn]
    rw [ss_ok_up (by omega) h5, hq, List.append_nil]
end Go.Proofs.YtknoibocpbfmmaaGreatDoor
