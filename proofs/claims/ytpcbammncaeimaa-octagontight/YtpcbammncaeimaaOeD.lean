/- A deed on both: both tell the same. Plain numbers alone. -/
import Derived.Test.YtpcbammncaeimaaOeC
namespace Go.Proofs.Ytpcbammncaeimaa
set_option linter.unusedVariables false
set_option linter.unusedSimpArgs false
/-- A deed. -/
structure Dd where
  kd : Int
  i : Int
  k : Int
  ni : Bool
  nk : Bool
  c : Int
  ea : Bool
  lo : Int
  hh : Int
def Dd.v (d : Dd) : Value := .agg #[.int .i64 d.kd, .int .i64 d.i, .int .i64 d.k, .bool d.ni, .bool d.nk, .int .i64 d.c, .bool d.ea, .int .i64 d.lo, .int .i64 d.hh]
def StpR (n : Nat) (d : Dd) (e1 : Bool) (A : Mx) (e2 : Bool) (B : Mx) (er : Int) (e' : Bool) (T' : Mx) : Prop :=
  if d.kd = 0 then Act5 n (LimBad n d.i d.k d.c) (LimGo n d.i d.ni d.k d.nk d.c) e1 A er e' T'
  else if d.kd = 1 then Act5 n (SetBad n d.i d.ea d.lo d.hh) (SetGo n d.i d.ea d.lo d.hh) e1 A er e' T'
  else if d.kd = 2 then Act5 n (FgtBad n d.i) (FgtGo n d.i) e1 A er e' T'
  else if d.kd = 3 then Act5 n (CpyBad n d.i d.k d.c) (CpyGo n d.i d.k d.ni d.c) e1 A er e' T'
  else if d.kd = 4 then Act5 n (ShfBad n d.i d.c) (ShfGo n d.i d.ni d.c) e1 A er e' T'
  else if d.kd = 5 then er = 0 ∧ JoinR n e1 A e2 B e' T'
  else if d.kd = 6 then er = 0 ∧ MeetR n e1 A e2 B e' T'
  else er = 0 ∧ WidenR n e1 A e2 B e' T'
theorem agr_of {n : Nat} {A B : Mx} (h : Le n A B ∧ Le n B A) : Agr n A B := fun a b ha hb => by have := h.1 a b ha hb; have := h.2 a b ha hb; omega
/-- The same behind a deed. -/
def Sm (n : Nat) (e : Bool) (T : Mx) (e' : Bool) (T' : Mx) : Prop := e = e' ∧ (e = false → Agr n T T' ∧ Tt n T)
theorem Act5.one {n : Nat} {bad : Prop} {go : Mx → Bool → Mx → Prop} {e : Bool} {A A2 T T2 : Mx} {er er2 : Int} {e' e2' : Bool} (ag : e = false → Agr n A A2) (t : e = false → Tt n A) (h1 : Act5 n bad go e A er e' T) (h2 : Act5 n bad go e A2 er2 e2' T2)
    (hg : e = false → ¬ bad → go A e' T → go A2 e2' T2 → Sm n e' T e2' T2) : er = er2 ∧ Sm n e' T e2' T2 := by
  rcases h1 with ⟨b1, r1, q1, a1⟩ | ⟨b1, r1, q1⟩ <;> rcases h2 with ⟨b2, r2, q2, a2⟩ | ⟨b2, r2, q2⟩
  · refine ⟨by rw [r1, r2], by rw [q1, q2], fun he => ?_⟩
    rw [q1] at he
    have a1 := a1 he
    exact ⟨(a1.trans (ag he)).trans (a2 he).symm, (t he).to a1.symm⟩
  · exact absurd b1 b2
  · exact absurd b2 b1
  · refine ⟨by rw [r1, r2], ?_⟩
    rcases q1 with ⟨he, e1⟩ | ⟨he, g1⟩ <;> rcases q2 with ⟨he2, e2⟩ | ⟨he2, g2⟩
    · exact ⟨by rw [e1, e2], fun q => by rw [e1] at q; cases q⟩
    · rw [he] at he2; cases he2
    · rw [he] at he2; cases he2
    · exact hg he b1 g1 g2
theorem Res.sm {n : Nat} {S S' T T' : Mx} {e e' : Bool} (h : Res n S e T) (h' : Res n S' e' T') (a : Agr n S S') (tt : Bst n S T → Tt n T) : Sm n e T e' T' := by
  obtain ⟨h1, h2⟩ := h.one h' fun X _ => a.le_iff X
  refine ⟨h1, fun q => ⟨agr_of (h2 q), ?_⟩⟩
  rcases h with ⟨_, b⟩ | ⟨r, _⟩
  · exact tt b
  · rw [r] at q; cases q
theorem low_tt {n : Nat} {M S T : Mx} (t : Tt n M) (l : Le n S M) (sy : ∀ a b, a < 2 * n → b < 2 * n → S a b = S b a) (b : Bst n S T) : Tt n T :=
  b.tt sy (fun a ha => Int.le_trans (l a _ ha (ot_lt ha)) (Int.le_of_eq (t.opp a ha))) (fun a c ha hc => Int.le_trans (b.le a c ha hc) (Int.le_trans (l a c ha hc) (t.up a c ha hc)))
theorem isv_sd {n : Nat} {i : Int} (h : Isv n i) : 2 * i.toNat < 2 * n ∧ 2 * i.toNat + 1 < 2 * n := by unfold Isv at h; omega
theorem fgt_agr {n i : Nat} {A B : Mx} (h : Agr n A B) : Agr n (fgt i A) (fgt i B) := fun a b ha hb => by
  unfold fgt
  rw [h a b ha hb]
theorem mv_agr {n i : Nat} {g : Bool} {c : Int} {A B : Mx} (h : Agr n A B) : Agr n (clp (mv g i c A)) (clp (mv g i c B)) := fun a b ha hb => by
  unfold clp mv
  rw [h _ _ (fr_lt2 ha) (fr_lt2 hb)]
theorem gn_ot (i : Nat) (c : Int) (a : Nat) : gn i c (ot a) = - gn i c a := by
  unfold gn ot
  split <;> split <;> (try split) <;> (try split) <;> (try split) <;> omega
theorem fr_ot (g : Bool) (i a : Nat) : fr g i (ot a) = ot (fr g i a) := by
  unfold fr
  rw [ot_div]
  split
  · rfl
  · rfl
theorem shf_tt {n i : Nat} {g : Bool} {c : Int} {M T : Mx} (t : Tt n M) (b : Bst n (clp (mv g i c M)) T) : Tt n T :=
  b.tt (fun x y hx hy => by
    unfold clp mv
    rw [t.sym _ _ (fr_lt2 hx) (fr_lt2 hy)]
    omega) (fun a ha => by
    unfold clp mv
    have := t.opp _ (fr_lt2 (g := g) (i := i) ha)
    rw [fr_ot, gn_ot, this]
    omega) (fun x y hx hy => Int.le_trans (b.le x y hx hy) (by unfold clp; omega))
theorem mx_tt {n : Nat} {A B T : Mx} (a : Tt n A) (b : Tt n B) (h : Bst n (mxS A B) T) : Tt n T :=
  h.tt (fun x y hx hy => by unfold mxS; rw [a.sym x y hx hy, b.sym x y hx hy]) (fun x hx => by unfold mxS; rw [a.opp x hx, b.opp x hx]; simp) (fun x y hx hy => Int.le_trans (h.le x y hx hy) (by have := a.up x y hx hy; have := b.up x y hx hy; unfold mxS; split <;> omega))
theorem mn_tt {n : Nat} {A B T : Mx} (a : Tt n A) (b : Tt n B) (h : Bst n (mnS A B) T) : Tt n T :=
  h.tt (fun x y hx hy => by unfold mnS; rw [a.sym x y hx hy, b.sym x y hx hy]) (fun x hx => by unfold mnS; rw [a.opp x hx, b.opp x hx]; simp) (fun x y hx hy => Int.le_trans (h.le x y hx hy) (by have := a.up x y hx hy; have := b.up x y hx hy; unfold mnS; split <;> omega))
theorem wd_tt {n : Nat} {A B T : Mx} (a : Tt n A) (b : Tt n B) (h : Bst n (wdS A B) T) : Tt n T :=
  h.tt (fun x y hx hy => by unfold wdS; rw [a.sym x y hx hy, b.sym x y hx hy]) (fun x hx => by unfold wdS kep; rw [a.opp x hx, b.opp x hx]; simp) (fun x y hx hy => Int.le_trans (h.le x y hx hy) (by have := a.up x y hx hy; unfold wdS kep; split <;> omega))
theorem Bin.one {n : Nat} {go : Mx → Mx → Bool → Mx → Prop} {e1 e2 : Bool} {A A2 B B2 T T2 : Mx} {e' e2' : Bool} (aa : e1 = false → Agr n A A2) (ta : e1 = false → Tt n A) (ab : e2 = false → Agr n B B2) (tb : e2 = false → Tt n B) (h1 : Bin n go e1 A e2 B e' T) (h2 : Bin n go e1 A2 e2 B2 e2' T2)
    (hg : e1 = false → e2 = false → go A B e' T → go A2 B2 e2' T2 → Sm n e' T e2' T2) : Sm n e' T e2' T2 := by
  rcases h1 with ⟨p1, p2, p3⟩ | ⟨p1, p2, p3, p4⟩ | ⟨p1, p2, p3⟩ <;> rcases h2 with ⟨q1, q2, q3⟩ | ⟨q1, q2, q3, q4⟩ | ⟨q1, q2, q3⟩
  · refine ⟨by rw [p2, q2], fun he => ?_⟩
    rw [p2] at he
    exact ⟨((p3 he).trans (ab he)).trans (q3 he).symm, (tb he).to (p3 he).symm⟩
  · rw [p1] at q1; cases q1
  · rw [p1] at q1; cases q1
  · rw [p1] at q1; cases q1
  · exact ⟨by rw [p3, q3], fun _ => ⟨(p4.trans (aa p1)).trans q4.symm, (ta p1).to p4.symm⟩⟩
  · rw [p2] at q2; cases q2
  · rw [p1] at q1; cases q1
  · rw [p2] at q2; cases q2
  · exact hg p1 p2 p3 q3
theorem stp_one {n : Nat} {d : Dd} {e1 e2 : Bool} {A A2 B B2 T T2 : Mx} {er er2 : Int} {e' e2' : Bool} (aa : e1 = false → Agr n A A2) (ta : e1 = false → Tt n A) (ab : e2 = false → Agr n B B2) (tb : e2 = false → Tt n B) (h1 : StpR n d e1 A e2 B er e' T) (h2 : StpR n d e1 A2 e2 B2 er2 e2' T2) : er = er2 ∧ Sm n e' T e2' T2 := by
  unfold StpR at h1 h2
  by_cases k0 : d.kd = 0
  · rw [if_pos k0] at h1 h2
    refine h1.one aa ta h2 fun he nb g1 g2 => ?_
    have good := Classical.not_not.1 nb
    exact Res.sm g1 g2 ((aa he).low (sdn_lt good.1 _) (sdn_lt good.2.1 _) _) (low_tt (ta he) (fun a b _ _ => low_le _ _ _ _ _ _) (fun a b ha hb => low_sym (ta he).sym _ _ _ ha hb))
  · rw [if_neg k0] at h1 h2
    by_cases k1 : d.kd = 1
    · rw [if_pos k1] at h1 h2
      refine h1.one aa ta h2 fun he nb g1 g2 => ?_
      have good := Classical.not_not.1 nb
      have sd := isv_sd good.1
      rcases g1 with ⟨p1, p2⟩ | ⟨p1, p2⟩ <;> rcases g2 with ⟨q1, q2⟩ | ⟨q1, q2⟩
      · exact ⟨by rw [p2, q2], fun q => by rw [p2] at q; cases q⟩
      · rw [p1] at q1; cases q1
      · rw [p1] at q1; cases q1
      · exact Res.sm p2 q2 (((aa he).low sd.1 sd.1 _).low sd.2 sd.2 _) (low_tt (ta he) (fun a b _ _ => Int.le_trans (low_le _ _ _ _ _ _) (low_le _ _ _ _ _ _)) (fun a b ha hb => low_sym (fun a b ha hb => low_sym (ta he).sym _ _ _ ha hb) _ _ _ ha hb))
    · rw [if_neg k1] at h1 h2
      by_cases k2 : d.kd = 2
      · rw [if_pos k2] at h1 h2
        refine h1.one aa ta h2 fun he nb g1 g2 => ?_
        exact Res.sm (Or.inl g1) (Or.inl g2) (fgt_agr (aa he)) (fgt_tt (ta he))
      · rw [if_neg k2] at h1 h2
        by_cases k3 : d.kd = 3
        · rw [if_pos k3] at h1 h2
          refine h1.one aa ta h2 fun he nb g1 g2 => ?_
          obtain ⟨T1, b1, r1⟩ := g1
          obtain ⟨T3, b3, r3⟩ := g2
          have good : Isv n d.i ∧ Isv n d.k := by
            refine Classical.byContradiction fun q => nb (Or.inl fun r => q ⟨r.1, r.2.1⟩)
          have tt1 := fgt_tt (ta he) b1
          have a1 : Agr n T1 T3 := ((Res.sm (Or.inl ⟨rfl, b1⟩) (Or.inl ⟨rfl, b3⟩) (fgt_agr (aa he)) (fun _ => tt1)).2 rfl).1
          have x1 := sdn_lt good.1 false
          have y1 := sdn_lt good.2 d.ni
          exact Res.sm r1 r3 ((a1.low x1 (ot_lt y1) _).low (ot_lt x1) y1 _) (low_tt tt1 (fun a b _ _ => Int.le_trans (low_le _ _ _ _ _ _) (low_le _ _ _ _ _ _)) (fun a b ha hb => low_sym (fun a b ha hb => low_sym tt1.sym _ _ _ ha hb) _ _ _ ha hb))
        · rw [if_neg k3] at h1 h2
          by_cases k4 : d.kd = 4
          · rw [if_pos k4] at h1 h2
            refine h1.one aa ta h2 fun he nb g1 g2 => ?_
            exact Res.sm g1 g2 (mv_agr (aa he)) (shf_tt (ta he))
          · rw [if_neg k4] at h1 h2
            by_cases k5 : d.kd = 5
            · rw [if_pos k5] at h1 h2
              refine ⟨by rw [h1.1, h2.1], Bin.one aa ta ab tb h1.2 h2.2 fun p q g1 g2 => ?_⟩
              exact Res.sm (Or.inl g1) (Or.inl g2) (fun a b ha hb => by unfold mxS; rw [aa p a b ha hb, ab q a b ha hb]) (mx_tt (ta p) (tb q))
            · rw [if_neg k5] at h1 h2
              by_cases k6 : d.kd = 6
              · rw [if_pos k6] at h1 h2
                refine ⟨by rw [h1.1, h2.1], ?_⟩
                rcases h1.2 with ⟨p1, p2⟩ | ⟨p1, p2, p3⟩ <;> rcases h2.2 with ⟨q1, q2⟩ | ⟨q1, q2, q3⟩
                · exact ⟨by rw [p2, q2], fun q => by rw [p2] at q; cases q⟩
                · rw [q1, q2] at p1; simp at p1
                · rw [p1, p2] at q1; simp at q1
                · exact Res.sm p3 q3 (fun a b ha hb => by unfold mnS; rw [aa p1 a b ha hb, ab p2 a b ha hb]) (mn_tt (ta p1) (tb p2))
              · rw [if_neg k6] at h1 h2
                refine ⟨by rw [h1.1, h2.1], Bin.one aa ta ab tb h1.2 h2.2 fun p q g1 g2 => ?_⟩
                exact Res.sm g1 g2 (fun a b ha hb => by unfold wdS; rw [aa p a b ha hb, ab q a b ha hb]) (wd_tt (ta p) (tb q))
end Go.Proofs.Ytpcbammncaeimaa

