/- Texts of the proof, put together. -/
import Derived.Test.YtpcbammncaeimaaZG1
import Derived.Test.YtpcbammncaeimaaZG2
import Derived.Test.YtpcbammncaeimaaZG3
import Derived.Test.YtpcbammncaeimaaZG4
import Derived.Test.YtpcbammncaeimaaZG5
import Derived.Test.YtpcbammncaeimaaZSpWi
import Derived.Test.YtpcbammncaeimaaZG6
import Derived.Test.YtpcbammncaeimaaZG7
import Derived.Test.YtpcbammncaeimaaZG8
import Derived.Test.YtpcbammncaeimaaZG9
import Derived.Test.YtpcbammncaeimaaZOdV
import Derived.Test.YtpcbammncaeimaaZG10
import Derived.Test.YtpcbammncaeimaaZG11
import Derived.Test.YtpcbammncaeimaaZG12
import Derived.Test.YtpcbammncaeimaaZG13
import Derived.Test.YtpcbammncaeimaaZOeE
import Derived.Test.YtpcbammncaeimaaZG14
import Derived.Test.YtpcbammncaeimaaZG15
import Derived.Test.YtpcbammncaeimaaZG16
namespace Go.Proofs.Ytpcbammncaeimaa
open Go.RowKit
set_option linter.unusedVariables false
set_option linter.unusedSimpArgs false
def uR (T : Mx) (p : Nat) (h : Int) (a : Nat) : Int := min (min (T a (ot p) + h) (T a p - h)) (fh (T a a))
def mR (T : Mx) (p : Nat) (h : Int) : Mx := fun a b => min (T a b) (uR T p h a + uR T p h b)
theorem uR_via {n p : Nat} {T : Mx} {h : Int} (t : Tt n T) (hp : p < 2 * n) {a r : Nat} (ha : a < 2 * n) (hr : r < 2 * n) : uR T p h a ≤ T a r + uR T p h (ot r) := by
  have r' := ot_lt hr
  have p' := ot_lt hp
  have c1 := t.cl.clo r hr a p ha hp
  have c2 := t.cl.clo r hr a (ot p) ha p'
  have c3 := t.cl.clo r hr a a ha ha
  have c4 := t.cl.clo (ot r) r' (ot r) a r' ha
  rw [ot_ot] at c4
  have c5 := t.sym r a hr ha
  have e1 := t.even ha
  have e2 := t.even r'
  unfold uR
  omega
theorem uR_pos {n p : Nat} {T : Mx} {h : Int} (t : Tt n T) (hp : p < 2 * n) (h1 : 2 * h ≤ T p p) (h2 : -2 * h ≤ T (ot p) (ot p)) {a : Nat} (ha : a < 2 * n) : 0 ≤ uR T p h a + uR T p h (ot a) := by
  have a' := ot_lt ha
  have p' := ot_lt hp
  have o1 := t.opp p hp
  have e1 := t.even ha
  have e2 := t.even a'
  have z := t.cl.pos a ha
  have hl := t.cl.hal a (ot a) ha a'
  have s1 := t.sym p a hp ha
  have s2 := t.sym p (ot a) hp a'
  have s3 := t.sym (ot p) a p' ha
  have s4 := t.sym (ot p) (ot a) p' a'
  have c1 := t.cl.clo a ha p p hp hp
  have c2 := t.cl.clo a ha (ot p) (ot p) p' p'
  have c3 := t.cl.clo a ha p (ot p) hp p'
  have c4 := t.cl.clo (ot a) a' p (ot p) hp p'
  have c5 := t.cl.clo a ha a p ha hp
  have c6 := t.cl.clo a ha a (ot p) ha p'
  have c7 := t.cl.clo (ot a) a' (ot a) p a' hp
  have c8 := t.cl.clo (ot a) a' (ot a) (ot p) a' p'
  rw [ot_ot] at c4 c7 c8
  unfold uR
  omega
theorem mR_cl {n p : Nat} {T : Mx} {h : Int} (t : Tt n T) (hp : p < 2 * n) (h1 : 2 * h ≤ T p p) (h2 : -2 * h ≤ T (ot p) (ot p)) : Cl n (mR T p h) where
  clo := fun k hk a b ha hb => by
    have k' := ot_lt hk
    have c := t.cl.clo k hk a b ha hb
    have v1 := uR_via (h := h) t hp ha hk
    have v2 := uR_via (h := h) t hp hb k'
    rw [ot_ot] at v2
    have s := t.sym b (ot k) hb k'
    have z := uR_pos t hp h1 h2 hk
    show min (T a b) _ ≤ min (T a k) _ + min (T (ot k) b) _
    omega
  hal := fun a b ha hb => by
    have e1 := t.even ha
    have e2 := t.even hb
    have u1 : uR T p h a ≤ fh (T a a) := by unfold uR; omega
    have u2 : uR T p h b ≤ fh (T b b) := by unfold uR; omega
    show min (T a b) _ ≤ fh (min (T a a) _) + fh (min (T b b) _)
    unfold fh at *
    omega
  pos := fun a ha => by
    have z := uR_pos t hp h1 h2 ha
    have q := t.cl.pos a ha
    show 0 ≤ min (T a (ot a)) _
    omega
theorem reach {n k : Nat} {T : Mx} {h : Int} (t : Tt n T) (hk : k < n) (h1 : 2 * h ≤ T (2 * k) (2 * k)) (h2 : -2 * h ≤ T (2 * k + 1) (2 * k + 1)) : ¬ Non n (stS k h h T) := by
  have o1 : ot (2 * k) = 2 * k + 1 := by unfold ot; rw [if_pos (by omega)]
  have hp : 2 * k < 2 * n := by omega
  have hq : 2 * k + 1 < 2 * n := by omega
  intro no
  refine no _ (mR_cl t hp h1 (by rw [o1]; exact h2)) fun a b ha hb => ?_
  have op1 := t.opp (2 * k) hp
  rw [o1] at op1
  have op2 := t.sym (2 * k) (2 * k + 1) hp hq
  have b1 : mR T (2 * k) h a b ≤ T a b := by unfold mR; omega
  have b2 : mR T (2 * k) h (2 * k) (2 * k) ≤ 2 * h := by unfold mR uR; rw [o1]; omega
  have b3 : mR T (2 * k) h (2 * k + 1) (2 * k + 1) ≤ -2 * h := by unfold mR uR; rw [o1]; omega
  unfold stS
  rw [low_self, low_self, low_self]
  split
  · rename_i q
    obtain ⟨rfl, rfl⟩ := q
    rw [if_neg (by omega)]
    omega
  · split
    · rename_i q
      obtain ⟨rfl, rfl⟩ := q
      omega
    · exact b1
theorem rng_in {n k : Nat} {e : Bool} {T : Mx} {l h : Int} (t : e = false → Tt n T) (hk : k < n) (q : rngV n e T (k : Int) = (false, l, h)) : e = false ∧ (∀ x, (x = l ∨ x = h) → (-2147483648 ≤ x ∧ x ≤ 2147483647) ∧ 2 * x ≤ T (2 * k) (2 * k) ∧ -2 * x ≤ T (2 * k + 1) (2 * k + 1)) := by
  unfold rngV at q
  by_cases c : Isv n (k : Int) ∧ e = false
  · rw [if_pos c] at q
    refine ⟨c.2, ?_⟩
    have tt := t c.2
    have e1 := tt.even (a := 2 * k) (by omega)
    have e2 := tt.even (a := 2 * k + 1) (by omega)
    rw [Int.toNat_natCast] at q
    unfold rOfI at q
    split at q
    · rename_i g
      simp only [Prod.mk.injEq, true_and] at q
      obtain ⟨rfl, rfl⟩ := q
      simp [rI] at g
      intro x hx
      rcases hx with rfl | rfl <;> omega
    · simp at q
  · rw [if_neg c] at q
    simp at q
theorem set_one {n k : Nat} {T T' : Mx} {x er : Int} {e' : Bool} (t : Tt n T) (hk : k < n) (h : (-2147483648 ≤ x ∧ x ≤ 2147483647) ∧ 2 * x ≤ T (2 * k) (2 * k) ∧ -2 * x ≤ T (2 * k + 1) (2 * k + 1)) (a : Act5 n (SetBad n (k : Int) false x x) (SetGo n (k : Int) false x x) false T er e' T') : er = 0 ∧ e' = false := by
  have nb : ¬ SetBad n (k : Int) false x x := by
    unfold SetBad Isv
    simp [rI]
    omega
  rcases a with ⟨b, _⟩ | ⟨_, r, ⟨q, _⟩ | ⟨_, g⟩⟩
  · exact absurd b nb
  · cases q
  · refine ⟨r, ?_⟩
    unfold SetGo at g
    rw [Int.toNat_natCast] at g
    rcases g with ⟨q, _⟩ | ⟨_, g | g⟩
    · cases q
    · exact g.1
    · exact absurd g.2 (reach t hk h.2.1 h.2.2)
set_option maxRecDepth 100000 in
set_option maxHeartbeats 6400000 in
theorem law_reaches (nn : Int) (h0 : 0 ≤ nn) (h1 : nn ≤ 255) (sv : Value) (ds : List Dd) (ii : Int) (i0 : 0 ≤ ii) (i1 : ii ≤ 255) (w : World) (hs : SlDd w sv ds) :
    Calls Try.prog 7 #[.int .u8 nn, sv, .int .u8 ii] w fun r w' => r = .returned (.bool true) ∧ Below w.heap.size w w' := by
  obtain ⟨n, hn⟩ : ∃ n : Nat, (n : Int) = nn % 4 + 1 := ⟨(nn % 4 + 1).toNat, by omega⟩
  have kp := oplay nn h0 h1 sv ds w hs n hn
  have hn4 : n ≤ 4 := by omega
  have hn1 : 1 ≤ n := by omega
  have kl := olive
  have n0 : (n : Int) ≠ 0 := by omega
  have wi : IntKind.i64.wrap ii = ii := by rw [IntKind.wrap_i64]; omega
  obtain ⟨k, hk⟩ : ∃ k : Nat, ii.tmod n = (k : Int) := ⟨(ii.tmod n).toNat, by have := Int.tmod_nonneg (n : Int) i0; omega⟩
  have hkn : Hid (k < n) := by
    have := Int.tmod_lt_of_pos ii (b := (n : Int)) (by omega)
    exact (by omega : k < n)
  have wk : IntKind.i64.wrap (k : Int) = (k : Int) := by have := hkn.out; rw [IntKind.wrap_i64]; omega
  have hn' : Hid (n ≤ 4) := hn4
  clear h0 h1 hs hn hn4 i0 i1
  go_enter Try.func7, Try.ntmps7
  go_upto_region 4 with (first
    | (go_at_call 11; refine kp.mono ?_; rintro r w1 ⟨bo, R, ba, Ra, e, T, T2, f, U, U2, rfl, hB⟩)
    | (go_at_call 12; refine (kl _).mono ?_; rintro r w2 ⟨rfl, g2⟩)
    | fail)
  have hO := hB.o.on g2
  have cc : Hid (Below w.heap.size w w2) := sp_call hB.bl g2
  have tt : Hid (e = false → Tt n T) := fun q => (hB.s.2 q).2
  clear hB g2 kp kl
  have kv := ovars bo n e T w2 hO
  have kr := orangeZ bo n (by have := hn'.out; omega) e T tt.out (k : Int) w2 hO
  have hi := fun l h => rng_in (l := l) (h := h) tt.out hkn.out
  generalize rngV n e T (k : Int) = V at *
  obtain ⟨Ve, Vl, Vh⟩ := V
  dsimp only at kr
  go_upto_region 5 with (first
    | (go_at_call 22; refine kv.mono ?_; rintro r w3 ⟨rfl, hw3⟩; subst w3)
    | fail)
  clear kv
  go_upto_region 6 with (first
    | (go_at_call 25; refine kr.mono ?_; rintro r w3 ⟨rfl, g3⟩)
    | fail)
  generalize hW : w3.alloc _ = W4
  have gW : Below w3.heap.size w3 W4 := by rw [← hW]; exact (Below.refl _ _).alloc (Nat.le_refl _) _
  obtain ⟨b3, hb3⟩ : ∃ b3, w3.heap.size = b3 := ⟨_, rfl⟩
  have a0 : W4.cell? ⟨b3, 0, none⟩ = some (.bool Ve) := by rw [← hW, ← hb3]; simp [go_sem]
  have a1 : W4.cell? ⟨b3, 1, none⟩ = some (.int .i64 Vl) := by rw [← hW, ← hb3]; simp [go_sem]
  have a2 : W4.cell? ⟨b3, 2, none⟩ = some (.int .i64 Vh) := by rw [← hW, ← hb3]; simp [go_sem]
  have hb4 : Hid (b3 < W4.heap.size) := World.block_lt_of_cell? W4 _ a0
  replace hO := (hO.on g3).on gW
  replace cc : Hid (Below w.heap.size w W4) := sp_call (sp_call cc.out g3) gW
  rw [hb3]
  clear gW hW g3 kr hb3
  cases Ve
  case true =>
    clear hi
    go_wp2_with fail
    go_ret
    exact ⟨rfl, cc.out⟩
  case false =>
    obtain ⟨rfl, hx⟩ := hi Vl Vh rfl
    have x1 := hx Vl (Or.inl rfl)
    have x2 := hx Vh (Or.inr rfl)
    clear hi hx
    have hT := tt.out rfl
    have kf1 := ofork bo n false T W4 hO
    go_upto_region 8 with fail
    go_upto_region 9 with (first
      | (go_at_call 19; refine kf1.mono ?_; rintro r w5 ⟨rfl, hP, g5⟩; clear kf1; have kf2 := ofork bo n false T w5 (hO.on g5))
      | (go_at_call 19; refine kf2.mono ?_; rintro r w6 ⟨rfl, hS, g6⟩; clear kf2)
      | fail)
    obtain ⟨bp, hbp⟩ : ∃ bp, W4.heap.size = bp := ⟨_, rfl⟩
    obtain ⟨bs, hbs⟩ : ∃ bs, w5.heap.size = bs := ⟨_, rfl⟩
    have sz : Hid (b3 < bp ∧ bp < bs ∧ w.heap.size ≤ bp ∧ bs ≤ w6.heap.size) := by
      have z1 := hb4.out
      have z2 : W4.heap.size < w5.heap.size := World.block_lt_of_cell? w5 _ hP.hv
      have z3 := cc.out.size
      have z4 := g6.size
      exact ⟨by omega, by omega, by omega, by omega⟩
    replace a0 := sO g5 a0; replace a1 := sO g5 a1; replace a2 := sO g5 a2
    replace a0 := sO g6 a0; replace a1 := sO g6 a1; replace a2 := sO g6 a2
    replace cc : Hid (Below w.heap.size w w6) := sp_call (sp_call cc.out g5) g6
    replace hP := hP.on g6
    rw [hbp] at hP
    rw [hbs] at hS
    rw [hbp, hbs]
    clear g5 g6 hO hbp hbs hb4
    have ks1 := osetZ bp n (by have := hn'.out; omega) false T (k : Int) false Vl Vl (by omega) (by omega) (fun _ => hT) w6 hP
    have o1 := fun er e' T' q => set_one (T' := T') (er := er) (e' := e') hT hkn.out x1 q
    have o2 := fun er e' T' q => set_one (T' := T') (er := er) (e' := e') hT hkn.out x2 q
    go_upto_region 10 with (first
      | (go_at_call 26; refine ks1.mono ?_; rintro r w7 ⟨⟨er, e1, T1, rfl, hO1, q1⟩, g7⟩; obtain ⟨rfl, rfl⟩ := o1 _ _ _ q1; clear ks1 q1 o1)
      | fail)
    replace hS := hS.onl g7 (by have := sz.out; omega)
    replace a0 := g7.cell (by have := sz.out; omega) a0
    replace a1 := g7.cell (by have := sz.out; omega) a1
    replace a2 := g7.cell (by have := sz.out; omega) a2
    replace cc : Hid (Below w.heap.size w w7) := below_onl cc.out g7 (by have := sz.out; omega) (by have := sz.out; omega)
    replace sz : Hid (b3 < bp ∧ bp < bs ∧ w.heap.size ≤ bp ∧ bs ≤ w7.heap.size) := by have := sz.out; have := g7.size; exact ⟨by omega, by omega, by omega, by omega⟩
    clear g7 hP
    have ks2 := osetZ bs n (by have := hn'.out; omega) false T (k : Int) false Vh Vh (by omega) (by omega) (fun _ => hT) w7 hS
    go_upto_region 11 with (first
      | (go_at_call 26; refine ks2.mono ?_; rintro r w8 ⟨⟨er, e2, T3, rfl, hO2, q2⟩, g8⟩; obtain ⟨rfl, rfl⟩ := o2 _ _ _ q2; clear ks2 q2 o2)
      | fail)
    replace hO1 := hO1.onl g8 (by have := sz.out; omega)
    replace cc : Hid (Below w.heap.size w w8) := below_onl cc.out g8 (by have := sz.out; omega) (by have := sz.out; omega)
    have ke1 := oempty bp n false T1 w8 hO1
    have ke2 := oempty bs n false T3 w8 hO2
    go_wp2_with (first
      | (go_at_call 21; refine ke1.mono ?_; rintro r v2 ⟨rfl, hv2⟩; subst v2; clear ke1)
      | (go_at_call 21; refine ke2.mono ?_; rintro r v2 ⟨rfl, hv2⟩; subst v2; clear ke2)
      | fail)
    go_ret
    exact ⟨rfl, cc.out⟩
end Go.Proofs.Ytpcbammncaeimaa


