/- Texts of the proof, put together. -/
import Derived.Test.YtknoibocpbfmmaaGreatDoorWPgH
namespace Go.Proofs.YtknoibocpbfmmaaGreatDoor
set_option linter.unusedVariables false
set_option linter.unusedSimpArgs false
theorem re_of {e : Ex} {x y : Nat} (h : ruE 1 e x = some y) (hw : (e.row .nil).wt ≤ 549755813888) : ReX e := by
 have hc := ruF_cnt (e.row .nil) 1 x y h
 have n : e.row .nil ≠ .nil := by intro c; cases c
 have a := hc.1
 have b := hc.2.1 n
 have d := hc.2.2 n
 have c1 : (e.row .nil).cnt = e.ks.cnt + 1 + 0 := rfl
 have d1 : (e.row .nil).dep = max (e.ks.dep + 1) 0 := rfl
 exact ⟨ru_oks _ _ _ _ h, hw, by omega, by omega⟩
theorem rb_of {e : Ex} {x y : Nat} (h : ruB e x = some y) : RbX e := by
 unfold ruB at h
 obtain ⟨z, h1, h2⟩ := ob' h
 have hb := (oi' h2).1
 have ok := ru_oks _ _ _ _ h1
 obtain ⟨op, tx, ty, ks⟩ := e
 unfold isBd at hb
 simp only at hb
 by_cases c : op = 4
 ·subst c
  rw [if_pos rfl] at hb
  rcases ok_cases (show exOk 4 tx ty ks.len = true from ok.1) with ⟨h, _⟩ | ⟨h, _⟩ | ⟨h, _⟩ | ⟨h, _⟩ | ⟨_, rfl, rfl, hl1⟩ | ⟨h, _⟩
  ·exact absurd h (by decide)
  ·exact absurd h (by decide)
  ·exact absurd h (by decide)
  ·exact absurd h (by decide)
  ·obtain ⟨a, b, c, k, rfl⟩ := len1 hl1
   simp only [decide_eq_true_eq] at hb
   subst hb
   have ok2 : exOk 1 b c k.len = true := ok.2.1.1
   rcases ok_cases ok2 with ⟨_, hn, rfl, h0⟩ | ⟨h, _⟩ | ⟨h, _⟩ | ⟨h, _⟩ | ⟨h, _⟩ | ⟨h, _⟩
   ·obtain rfl := len0 h0
    exact ⟨show (4 : Int) ≠ 0 by decide, fun S pp qq w hT => rbound_4 b hn S pp qq w hT⟩
   ·exact absurd h (by decide)
   ·exact absurd h (by decide)
   ·exact absurd h (by decide)
   ·omega
   ·omega
  ·omega
 ·rw [if_neg c] at hb
  simp only [decide_eq_true_eq] at hb
  subst hb
  rcases ok_cases (show exOk 1 tx ty ks.len = true from ok.1) with ⟨_, hn, rfl, h0⟩ | ⟨h, _⟩ | ⟨h, _⟩ | ⟨h, _⟩ | ⟨h, _⟩ | ⟨h, _⟩
  ·obtain rfl := len0 h0
   exact ⟨show (1 : Int) ≠ 0 by decide, fun S pp qq w hT => rbound_1 tx hn pp qq w⟩
  ·exact absurd h (by decide)
  ·exact absurd h (by decide)
  ·exact absurd h (by decide)
  ·omega
  ·omega
theorem rs_of : ∀ (f : So) (deep : Nat) (c c' : Nat × Nat), ruS deep f c = some c' → f.wt ≤ 549755813888 → f.all RsT ∧ (deep ≤ 24 → Bdk f deep)
 | .nil, _, c, c', q, _ => ⟨trivial, fun _ => Or.inl rfl⟩
 | .cons d nm ix v l h t e r, deep, c, c', q, hw => by
  have w1 : nm.size + ix.wt + (v.row .nil).wt + (l.row .nil).wt + (h.row .nil).wt + t.wt + e.wt + r.wt + 1 ≤ 549755813888 := hw
  have lt := so_len_wt t
  have le := so_len_wt e
  rw [ruS] at q
  obtain ⟨pc, q⟩ := oi' q
  obtain ⟨c2, q, qr⟩ := ob' q
  obtain ⟨r1, r2⟩ := rs_of r _ _ _ qr (by omega)
  have fin : ∀ b : Nat, max t.bd e.bd = b → (deep ≤ 24 → deep + (b + 1) ≤ 25) → (deep ≤ 24 → Bdk (.cons d nm ix v l h t e r) deep) := fun b hb h1 hd => by
   refine Or.inr ?_
   show deep + max (max t.bd e.bd + 1) r.bd ≤ 25
   have := h1 hd
   rcases r2 hd with h2 | h2
   ·have : r.bd = 0 := by rw [h2]; rfl
    omega
   ·omega
  by_cases d1 : d = 1
  ·rw [if_pos d1] at q
   obtain ⟨a, q⟩ := oi' q
   obtain ⟨x, q1, q⟩ := ob' q
   obtain ⟨y, q2, q⟩ := ob' q
   obtain ⟨b, q⟩ := oi' q
   obtain ⟨_, _, _, rfl, rfl, b3, b4⟩ := bare_all b
   obtain rfl := so_len0 b3
   obtain rfl := so_len0 b4
   subst d1
   simp only [Bool.and_eq_true, decide_eq_true_eq] at a
   have hv := re_of q2 (by omega)
   refine ⟨⟨?_, r1⟩, fin 0 rfl (fun h => by omega)⟩
   by_cases i0 : ix.len = 0
   ·obtain rfl := len0 i0
    exact rs_a0 nm a.1 v hv
   ·obtain ⟨p1, p2, p3, p4, rfl⟩ := len1 (show ix.len = 1 by omega)
    have hi : ReX ⟨p1, p2, p3, p4⟩ := re_of q1 (by show (Fo.cons p1 p2 p3 p4 .nil).wt ≤ _; omega)
    exact rs_a1 nm a.1 ⟨p1, p2, p3, p4⟩ hi v hv
  rw [if_neg d1] at q
  by_cases d2 : d = 2
  ·rw [if_pos d2] at q
   obtain ⟨a, q⟩ := oi' q
   obtain ⟨x, q1, q⟩ := ob' q
   obtain ⟨y, q2, q⟩ := ob' q
   obtain ⟨b, q⟩ := oi' q
   obtain ⟨_, b0, rfl, _, _, b3, b4⟩ := bare_all b
   obtain rfl := len0 b0
   obtain rfl := so_len0 b3
   obtain rfl := so_len0 b4
   subst d2
   exact ⟨⟨rs_r nm a l h (rb_of q1) (rb_of q2), r1⟩, fin 0 rfl (fun h => by omega)⟩
  rw [if_neg d2] at q
  by_cases d3 : d = 3
  ·rw [if_pos d3] at q
   obtain ⟨x, q1, q⟩ := ob' q
   obtain ⟨a, q⟩ := oi' q
   obtain ⟨y, q2, q⟩ := ob' q
   obtain ⟨z, q3, q⟩ := ob' q
   obtain ⟨b, q⟩ := oi' q
   obtain ⟨rfl, b0, _, rfl, rfl, _, _⟩ := bare_all b
   obtain rfl := len0 b0
   subst d3
   obtain ⟨t1, t2⟩ := rs_of t _ _ _ q2 (by omega)
   obtain ⟨e1, e2⟩ := rs_of e _ _ _ q3 (by omega)
   refine ⟨⟨rs_i v (re_of q1 (by omega)) t t1 (by omega) e e1 (by omega), r1⟩, fin _ rfl (fun h => ?_)⟩
   have t3 := t2 a
   have e3 := e2 a
   have : t.bd + deep ≤ 24 := by
    rcases t3 with t3 | t3
    ·have : t.bd = 0 := by rw [t3]; rfl
     omega
    ·omega
   have : e.bd + deep ≤ 24 := by
    rcases e3 with e3 | e3
    ·have : e.bd = 0 := by rw [e3]; rfl
     omega
    ·omega
   omega
  rw [if_neg d3] at q
  by_cases d4 : d = 4
  ·rw [if_pos d4] at q
   obtain ⟨x, q1, q⟩ := ob' q
   obtain ⟨a, q⟩ := oi' q
   obtain ⟨y, q2, q⟩ := ob' q
   obtain ⟨b, q⟩ := oi' q
   obtain ⟨rfl, b0, _, rfl, rfl, _, b4⟩ := bare_all b
   obtain rfl := len0 b0
   obtain rfl := so_len0 b4
   subst d4
   obtain ⟨t1, t2⟩ := rs_of t _ _ _ q2 (by omega)
   refine ⟨⟨rs_w v (re_of q1 (by omega)) t t1 (by omega), r1⟩, fin _ rfl (fun h => ?_)⟩
   have : So.nil.bd = 0 := rfl
   have : t.bd + deep ≤ 24 := by
    rcases t2 a with t3 | t3
    ·have : t.bd = 0 := by rw [t3]; rfl
     omega
    ·omega
   omega
  ·rw [if_neg d4] at q
   cases q
end Go.Proofs.YtknoibocpbfmmaaGreatDoor



namespace Go.Proofs.YtknoibocpbfmmaaGreatDoor
set_option linter.unusedVariables false
set_option linter.unusedSimpArgs false
def Ex.nc (e : Ex) : Nat := if e.op = 0 then 0 else e.ks.cnt + 1
def So.ct : So → Nat
 | .nil => 0
 | .cons _ _ ix v l h t e r => ix.cnt + v.nc + l.nc + h.nc + (t.ct + e.ct) + r.ct
theorem So.row_ct (s : St) (r : So) : (s.row r).ct = s.index.cnt + s.value.nc + s.low.nc + s.high.nc + (s.thn.ct + s.els.ct) + r.ct := rfl
/-- An expression is none, or none that is. -/
def NoY (e : Ex) : Prop := e.op ≠ 0 ∨ e = exN
theorem NoY.nc {e : Ex} (h : NoY e) : e.ks.cnt ≤ e.nc := by
 unfold Ex.nc
 rcases h with h | rfl
 ·rw [if_neg h]; omega
 ·exact Nat.zero_le _
theorem ok_op {e : Ex} (h : (e.row .nil).oks) : e.op ≠ 0 := by
 rcases ok_cases (show exOk e.op e.tx e.ty e.ks.len = true from h.1) with ⟨h, _⟩ | ⟨h, _⟩ | ⟨h, _⟩ | ⟨h, _⟩ | ⟨h, _⟩ | ⟨h, _⟩ <;> omega
theorem ru_nc {deep x y : Nat} {e : Ex} (h : ruE deep e x = some y) : NoY e ∧ y = x + e.nc := by
 have n := ok_op (ru_oks _ _ _ _ h)
 have c := (ruF_cnt _ _ _ _ h).1
 have c1 : (e.row .nil).cnt = e.ks.cnt + 1 + 0 := rfl
 unfold Ex.nc
 rw [if_neg n]
 exact ⟨Or.inl n, by omega⟩
theorem rub_nc {x y : Nat} {e : Ex} (h : ruB e x = some y) : NoY e ∧ y = x + e.nc := by
 unfold ruB at h
 obtain ⟨z, h1, h2⟩ := ob' h
 obtain ⟨_, h2⟩ := oi' h2
 injection h2 with h2
 subst h2
 exact ru_nc h1
theorem exN_nc : exN.nc = 0 := rfl
def So.cts : So → Prop
 | .nil => True
 | .cons _ _ _ v l h t e r => (NoY v ∧ NoY l ∧ NoY h) ∧ t.cts ∧ e.cts ∧ r.cts
theorem ct_of : ∀ (f : So) (deep : Nat) (c c' : Nat × Nat), ruS deep f c = some c' → c'.2 = c.2 + f.ct ∧ f.cts
 | .nil, _, c, c', q => by
  have q' : some c = some c' := q
  cases q'
  exact ⟨rfl, trivial⟩
 | .cons d nm ix v l h t e r, deep, c, c', q => by
  rw [ruS] at q
  obtain ⟨pc, q⟩ := oi' q
  obtain ⟨c2, q, qr⟩ := ob' q
  have r1 := ct_of r _ _ _ qr
  have z : NoY exN := Or.inr rfl
  have main : c2.2 = c.2 + (ix.cnt + v.nc + l.nc + h.nc + (t.ct + e.ct)) ∧ (NoY v ∧ NoY l ∧ NoY h) ∧ t.cts ∧ e.cts := by
   by_cases d1 : d = 1
   ·rw [if_pos d1] at q
    obtain ⟨a, q⟩ := oi' q
    obtain ⟨x, q1, q⟩ := ob' q
    obtain ⟨y, q2, q⟩ := ob' q
    obtain ⟨b, q9⟩ := oi' q
    obtain ⟨_, _, _, rfl, rfl, b3, b4⟩ := bare_all b
    obtain rfl := so_len0 b3
    obtain rfl := so_len0 b4
    injection q9 with q9
    have i1 := (ruF_cnt _ _ _ _ q1).1
    obtain ⟨v1, v2⟩ := ru_nc q2
    rw [← q9, exN_nc]
    have : So.nil.ct = 0 := rfl
    exact ⟨by simp only; omega, ⟨v1, z, z⟩, trivial, trivial⟩
   rw [if_neg d1] at q
   by_cases d2 : d = 2
   ·rw [if_pos d2] at q
    obtain ⟨a, q⟩ := oi' q
    obtain ⟨x, q1, q⟩ := ob' q
    obtain ⟨y, q2, q⟩ := ob' q
    obtain ⟨b, q9⟩ := oi' q
    obtain ⟨_, b0, rfl, _, _, b3, b4⟩ := bare_all b
    obtain rfl := len0 b0
    obtain rfl := so_len0 b3
    obtain rfl := so_len0 b4
    injection q9 with q9
    obtain ⟨v1, v2⟩ := rub_nc q1
    obtain ⟨u1, u2⟩ := rub_nc q2
    rw [← q9, exN_nc]
    have : So.nil.ct = 0 := rfl
    have : Fo.nil.cnt = 0 := rfl
    exact ⟨by simp only; omega, ⟨z, v1, u1⟩, trivial, trivial⟩
   rw [if_neg d2] at q
   by_cases d3 : d = 3
   ·rw [if_pos d3] at q
    obtain ⟨x, q1, q⟩ := ob' q
    obtain ⟨a, q⟩ := oi' q
    obtain ⟨y, q2, q⟩ := ob' q
    obtain ⟨zz, q3, q⟩ := ob' q
    obtain ⟨b, q9⟩ := oi' q
    obtain ⟨_, b0, _, rfl, rfl, _, _⟩ := bare_all b
    obtain rfl := len0 b0
    obtain ⟨v1, v2⟩ := ru_nc q1
    obtain ⟨e1, k1⟩ := ct_of t _ _ _ q2
    obtain ⟨e2, k2⟩ := ct_of e _ _ _ q3
    have : Fo.nil.cnt = 0 := rfl
    simp only at e1
    injection q9 with q9
    rw [← q9, exN_nc]
    exact ⟨by omega, ⟨v1, z, z⟩, k1, k2⟩
   rw [if_neg d3] at q
   by_cases d4 : d = 4
   ·rw [if_pos d4] at q
    obtain ⟨x, q1, q⟩ := ob' q
    obtain ⟨a, q⟩ := oi' q
    obtain ⟨y, q2, q⟩ := ob' q
    obtain ⟨b, q9⟩ := oi' q
    obtain ⟨_, b0, _, rfl, rfl, _, b4⟩ := bare_all b
    obtain rfl := len0 b0
    obtain rfl := so_len0 b4
    obtain ⟨v1, v2⟩ := ru_nc q1
    obtain ⟨e1, k1⟩ := ct_of t _ _ _ q2
    have : Fo.nil.cnt = 0 := rfl
    have : So.nil.ct = 0 := rfl
    simp only at e1
    injection q9 with q9
    rw [← q9, exN_nc]
    exact ⟨by omega, ⟨v1, z, z⟩, k1, trivial⟩
   ·rw [if_neg d4] at q
    cases q
  have e := main.1
  refine ⟨?_, main.2.1, main.2.2.1, main.2.2.2, r1.2⟩
  rw [r1.1, e, So.ct]
  omega
theorem ac_le : ∀ f : So, f.cts → f.ac ≤ f.ct + 3 * f.pts
 | .nil, _ => Nat.le_refl _
 | .cons d nm ix v l h t e r, hA => by
  obtain ⟨⟨a, b, c⟩, ht, he, hr⟩ := hA
  have k := ac_le r hr
  have kt := ac_le t ht
  have ke := ac_le e he
  have a := NoY.nc a
  have b := NoY.nc b
  have c := NoY.nc c
  rw [So.ac, So.ct, So.pts]
  omega
end Go.Proofs.YtknoibocpbfmmaaGreatDoor



