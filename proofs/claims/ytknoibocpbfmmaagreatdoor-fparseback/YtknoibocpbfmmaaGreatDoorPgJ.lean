/- plumblineref05: how many expressions statements have, where none is none: plain. -/
import Derived.Test.YtknoibocpbfmmaaGreatDoorPgI
namespace Go.Proofs.YtknoibocpbfmmaaGreatDoor
set_option linter.unusedVariables false
set_option linter.unusedSimpArgs false
def Ex.nc (e : Ex) : Nat := if e.op = 0 then 0 else e.ks.cnt + 1
def So.ct : So → Nat
  | .nil => 0
  | .cons _ _ ix v l h t e r => ix.cnt + v.nc + l.nc + h.nc + (t.ct + e.ct) + r.ct
theorem So.row_ct (s : St) (r : So) : (s.row r).ct = s.index.cnt + s.value.nc + s.low.nc + s.high.nc + (s.thn.ct + s.els.ct) + r.ct := rfl
/-- An expression is none, or none that is. -/
def NoY (e : Ex) : Prop := e.op ≠ 0 ∨ e = exN
theorem NoY.nc {e : Ex} (h : NoY e) : e.ks.cnt ≤ e.nc := by
  unfold Ex.nc
  rcases h with h | rfl
  · rw [if_neg h]; omega
  · exact Nat.zero_le _
theorem ok_op {e : Ex} (h : (e.row .nil).oks) : e.op ≠ 0 := by
  rcases ok_cases (show exOk e.op e.tx e.ty e.ks.len = true from h.1) with ⟨h, _⟩ | ⟨h, _⟩ | ⟨h, _⟩ | ⟨h, _⟩ | ⟨h, _⟩ | ⟨h, _⟩ <;> omega
theorem ru_nc {deep x y : Nat} {e : Ex} (h : ruE deep e x = some y) : NoY e ∧ y = x + e.nc := by
  have n := ok_op (ru_oks _ _ _ _ h)
  have c := (ruF_cnt _ _ _ _ h).1
  have c1 : (e.row .nil).cnt = e.ks.cnt + 1 + 0 := rfl
  unfold Ex.nc
  rw [if_neg n]
  exact ⟨Or.inl n, by omega⟩
theorem rub_nc {x y : Nat} {e : Ex} (h : ruB e x = some y) : NoY e ∧ y = x + e.nc := by
  unfold ruB at h
  obtain ⟨z, h1, h2⟩ := ob' h
  obtain ⟨_, h2⟩ := oi' h2
  injection h2 with h2
  subst h2
  exact ru_nc h1
theorem exN_nc : exN.nc = 0 := rfl
def So.cts : So → Prop
  | .nil => True
  | .cons _ _ _ v l h t e r => (NoY v ∧ NoY l ∧ NoY h) ∧ t.cts ∧ e.cts ∧ r.cts
theorem ct_of : ∀ (f : So) (deep : Nat) (c c' : Nat × Nat), ruS deep f c = some c' → c'.2 = c.2 + f.ct ∧ f.cts
  | .nil, _, c, c', q => by
    have q' : some c = some c' := q
    cases q'
    exact ⟨rfl, trivial⟩
  | .cons d nm ix v l h t e r, deep, c, c', q => by
    rw [ruS] at q
    obtain ⟨pc, q⟩ := oi' q
    obtain ⟨c2, q, qr⟩ := ob' q
    have r1 := ct_of r _ _ _ qr
    have z : NoY exN := Or.inr rfl
    have main : c2.2 = c.2 + (ix.cnt + v.nc + l.nc + h.nc + (t.ct + e.ct)) ∧ (NoY v ∧ NoY l ∧ NoY h) ∧ t.cts ∧ e.cts := by
      by_cases d1 : d = 1
      · rw [if_pos d1] at q
        obtain ⟨a, q⟩ := oi' q
        obtain ⟨x, q1, q⟩ := ob' q
        obtain ⟨y, q2, q⟩ := ob' q
        obtain ⟨b, q9⟩ := oi' q
        obtain ⟨_, _, _, rfl, rfl, b3, b4⟩ := bare_all b
        obtain rfl := so_len0 b3
        obtain rfl := so_len0 b4
        injection q9 with q9
        have i1 := (ruF_cnt _ _ _ _ q1).1
        obtain ⟨v1, v2⟩ := ru_nc q2
        rw [← q9, exN_nc]
        have : So.nil.ct = 0 := rfl
        exact ⟨by simp only; omega, ⟨v1, z, z⟩, trivial, trivial⟩
      rw [if_neg d1] at q
      by_cases d2 : d = 2
      · rw [if_pos d2] at q
        obtain ⟨a, q⟩ := oi' q
        obtain ⟨x, q1, q⟩ := ob' q
        obtain ⟨y, q2, q⟩ := ob' q
        obtain ⟨b, q9⟩ := oi' q
        obtain ⟨_, b0, rfl, _, _, b3, b4⟩ := bare_all b
        obtain rfl := len0 b0
        obtain rfl := so_len0 b3
        obtain rfl := so_len0 b4
        injection q9 with q9
        obtain ⟨v1, v2⟩ := rub_nc q1
        obtain ⟨u1, u2⟩ := rub_nc q2
        rw [← q9, exN_nc]
        have : So.nil.ct = 0 := rfl
        have : Fo.nil.cnt = 0 := rfl
        exact ⟨by simp only; omega, ⟨z, v1, u1⟩, trivial, trivial⟩
      rw [if_neg d2] at q
      by_cases d3 : d = 3
      · rw [if_pos d3] at q
        obtain ⟨x, q1, q⟩ := ob' q
        obtain ⟨a, q⟩ := oi' q
        obtain ⟨y, q2, q⟩ := ob' q
        obtain ⟨zz, q3, q⟩ := ob' q
        obtain ⟨b, q9⟩ := oi' q
        obtain ⟨_, b0, _, rfl, rfl, _, _⟩ := bare_all b
        obtain rfl := len0 b0
        obtain ⟨v1, v2⟩ := ru_nc q1
        obtain ⟨e1, k1⟩ := ct_of t _ _ _ q2
        obtain ⟨e2, k2⟩ := ct_of e _ _ _ q3
        have : Fo.nil.cnt = 0 := rfl
        simp only at e1
        injection q9 with q9
        rw [← q9, exN_nc]
        exact ⟨by omega, ⟨v1, z, z⟩, k1, k2⟩
      rw [if_neg d3] at q
      by_cases d4 : d = 4
      · rw [if_pos d4] at q
        obtain ⟨x, q1, q⟩ := ob' q
        obtain ⟨a, q⟩ := oi' q
        obtain ⟨y, q2, q⟩ := ob' q
        obtain ⟨b, q9⟩ := oi' q
        obtain ⟨_, b0, _, rfl, rfl, _, b4⟩ := bare_all b
        obtain rfl := len0 b0
        obtain rfl := so_len0 b4
        obtain ⟨v1, v2⟩ := ru_nc q1
        obtain ⟨e1, k1⟩ := ct_of t _ _ _ q2
        have : Fo.nil.cnt = 0 := rfl
        have : So.nil.ct = 0 := rfl
        simp only at e1
        injection q9 with q9
        rw [← q9, exN_nc]
        exact ⟨by omega, ⟨v1, z, z⟩, k1, trivial⟩
      · rw [if_neg d4] at q
        cases q
    have e := main.1
    refine ⟨?_, main.2.1, main.2.2.1, main.2.2.2, r1.2⟩
    rw [r1.1, e, So.ct]
    omega
theorem ac_le : ∀ f : So, f.cts → f.ac ≤ f.ct + 3 * f.pts
  | .nil, _ => Nat.le_refl _
  | .cons d nm ix v l h t e r, hA => by
    obtain ⟨⟨a, b, c⟩, ht, he, hr⟩ := hA
    have k := ac_le r hr
    have kt := ac_le t ht
    have ke := ac_le e he
    have a := NoY.nc a
    have b := NoY.nc b
    have c := NoY.nc c
    rw [So.ac, So.ct, So.pts]
    omega
end Go.Proofs.YtknoibocpbfmmaaGreatDoor

