/- Texts of the proof, put together. -/
import Derived.Test.YtknoibocpbfmmaaGreatDoorWG18
import Derived.Test.YtknoibocpbfmmaaGreatDoorWG12
import Derived.Test.YtknoibocpbfmmaaGreatDoorWPbM
namespace Go.Proofs.YtknoibocpbfmmaaGreatDoor
set_option linter.unusedVariables false
set_option linter.unusedSimpArgs false
theorem stP_up {n m : Nat} {ts : List Tk} {d : Int} {R : Rs St} (h : stP n ts d = R) (hR : R ≠ .more) (hm : n ≤ m) : stP m ts d = R := by
 obtain ⟨j, rfl⟩ := Nat.exists_eq_add_of_le hm
 exact (mo_upto (F := fun n => stP n ts d) (fun n => (mo_st n).1 ts d) n j (by rw [h]; exact hR)).trans h
theorem bsP_up {n m : Nat} {ts : List Tk} {d : Int} {R : Rs So} (h : bsP n ts d = R) (hR : R ≠ .more) (hm : n ≤ m) : bsP m ts d = R := by
 obtain ⟨j, rfl⟩ := Nat.exists_eq_add_of_le hm
 exact (mo_upto (F := fun n => bsP n ts d) (fun n => (mo_st n).2.2 ts d) n j (by rw [h]; exact hR)).trans h
theorem ssP_up {n m : Nat} {ts : List Tk} {d : Int} {R : Rs So} (h : ssP n ts d = R) (hR : R ≠ .more) (hm : n ≤ m) : ssP m ts d = R := by
 obtain ⟨j, rfl⟩ := Nat.exists_eq_add_of_le hm
 exact (mo_upto (F := fun n => ssP n ts d) (fun n => mo_ss n ts d) n j (by rw [h]; exact hR)).trans h
theorem dsP_up {n m : Nat} {ts : List Tk} {d : Int} {R : Rs (List Dc)} (h : dsP n ts d = R) (hR : R ≠ .more) (hm : n ≤ m) : dsP m ts d = R := by
 obtain ⟨j, rfl⟩ := Nat.exists_eq_add_of_le hm
 exact (mo_upto (F := fun n => dsP n ts d) (fun n => mo_ds n ts d) n j (by rw [h]; exact hR)).trans h
/-- What a statement begins with. -/
def Bg (k : Nat) (s : ByteArray) : Prop := k = 1 ∧ isN s.data.toList = true ∨ k = 2 ∧ (s = tRd ∨ s = tIf ∨ s = tWh)
theorem Bg.no {k : Nat} {s : ByteArray} (h : Bg k s) {t : ByteArray} (ht : isN t.data.toList = false) (h1 : t ≠ tRd) (h2 : t ≠ tIf) (h3 : t ≠ tWh) : decide (s = t) = false := by
 rw [decide_eq_false_iff_not]
 rintro rfl
 rcases h with ⟨_, h⟩ | ⟨_, h⟩
 ·rw [ht] at h; cases h
 ·rcases h with h | h | h
  ·exact h1 h
  ·exact h2 h
  ·exact h3 h
theorem so_bg {d : Int} {nm : ByteArray} {ix : Fo} {v l h : Ex} {t e r : So} (ho : (So.cons d nm ix v l h t e r).oks) : ∃ k s q, soK (.cons d nm ix v l h t e r) = (k, s) :: q ∧ Bg k s := by
 unfold soK
 rcases ho.1 with ⟨rfl, h1, _⟩ | ⟨rfl, h1, _⟩ | ⟨rfl, _⟩ | ⟨rfl, _⟩
 ·rw [toL] at h1
  exact ⟨_, _, _, rfl, Or.inl ⟨rfl, h1⟩⟩
 ·exact ⟨_, _, _, rfl, Or.inr ⟨rfl, Or.inl rfl⟩⟩
 ·exact ⟨_, _, _, rfl, Or.inr ⟨rfl, Or.inr (Or.inl rfl)⟩⟩
 ·exact ⟨_, _, _, rfl, Or.inr ⟨rfl, Or.inr (Or.inr rfl)⟩⟩
theorem so_no {f : So} (ho : f.oks) {ts q : List Tk} (hk : ky ts = soK f) {t : ByteArray} (ht : isN t.data.toList = false) (h1 : t ≠ tRd) (h2 : t ≠ tIf) (h3 : t ≠ tWh) (hq : isTx q t = false) : isTx (ts ++ q) t = false := by
 cases f with
 | nil => rw [ky_nil hk]; exact hq
 | cons d nm ix v l h t' e r =>
  obtain ⟨k, s, u, e1, hb⟩ := so_bg ho
  rw [e1] at hk
  obtain ⟨a, ts', rfl, _⟩ := ky_cons hk
  rw [List.cons_append, isTx_hd]
  exact hb.no ht h1 h2 h3
theorem tyOf_bg {k : Nat} {s : ByteArray} (h : Bg k s) : tyOf s = 0 := by
 rcases h with ⟨_, h⟩ | ⟨_, h⟩
 ·exact name_ty h
 ·rcases h with rfl | rfl | rfl <;> decide
/-- A bound's tokens. -/
theorem bd_parse {e : Ex} (h : (e.row .nil).oks) (hb : isBd e = true) {ts r : List Tk} (hk : ky ts = exK e) (d : Int) : bdP (ts ++ r) d = .ok e r d := by
 obtain ⟨op, tx, ty, ks⟩ := e
 have num : ∀ {tx : ByteArray} {us : List Tk}, isNum tx = true → ky us = [((tok tx.data.toList).1, tx)] → numP (us ++ r) d = .ok ⟨1, tx, 0, .nil⟩ r d ∧ isTx (us ++ r) tMi = false := fun {tx us} hn hk => by
  obtain ⟨a, ts', rfl, hk1⟩ := ky_cons hk
  obtain rfl := ky_nil hk1
  refine ⟨?_, ?_⟩
  ·unfold numP
   rw [if_pos (by exact num_kind hn)]; rfl
  ·rw [List.cons_append, isTx_hd]
   exact decide_eq_false (num_ne hn (by decide))
 unfold isBd at hb
 split at hb
 ·rename_i e4
  have e4' : op = 4 := e4
  subst e4'
  rcases ok_cases h.1 with ⟨h1, _⟩ | ⟨h1, _⟩ | ⟨h1, _⟩ | ⟨h1, _⟩ | ⟨h1, h2, h3, h4⟩ | ⟨h1, _⟩
  ·omega
  ·omega
  ·omega
  ·omega
  ·obtain ⟨a, b, c, k, rfl⟩ := len1 h4
   have h2' : tx = tx0 := h2
   have h3' : ty = 0 := h3
   subst h2' h3'
   have ha : a = 1 := by simpa using hb
   subst ha
   rcases ok_cases h.2.1.1 with ⟨_, n1, n2, n3⟩ | ⟨q, _⟩ | ⟨q, _⟩ | ⟨q, _⟩ | ⟨q, _⟩ | ⟨q, _⟩
   ·obtain rfl := len0 n3
    subst n2
    have e5 : exK ⟨4, tx0, 0, .cons 1 b 0 .nil .nil⟩ = [(5, tMi), ((tok b.data.toList).1, b)] := rfl
    rw [e5] at hk
    obtain ⟨a, ts', rfl, hk1⟩ := ky_cons hk
    unfold bdP
    rw [List.cons_append, isTx_hd, if_pos (by decide), List.tail_cons, (num n1 hk1).1]; rfl
   all_goals omega
  ·omega
 ·have ha : op = 1 := by simpa using hb
  subst ha
  rcases ok_cases h.1 with ⟨_, n1, n2, n3⟩ | ⟨q, _⟩ | ⟨q, _⟩ | ⟨q, _⟩ | ⟨q, _⟩ | ⟨q, _⟩
  ·have n3' : ks.len = 0 := n3
   obtain rfl := len0 n3'
   have n2' : ty = 0 := n2
   subst n2'
   have n1' : isNum tx = true := n1
   obtain ⟨x, y⟩ := num n1' hk
   unfold bdP
   rw [y, x]; rfl
  all_goals (simp at q)
theorem thn_ok {α β : Type} (x : α) (ts : List Tk) (d : Int) (f : α → List Tk → Int → Rs β) : (Rs.ok x ts d).thn f = f x ts d := rfl
theorem want_hd {α : Type} (k : Nat) (s : ByteArray) (a : Nat) (r : List Tk) (f : List Tk → Rs α) : want s ((k, s, a) :: r) f = f r := by
 unfold want; rw [isTx_hd, if_pos (by simp)]; rfl
theorem nameP_hd {α : Type} (s : ByteArray) (a : Nat) (r : List Tk) (f : ByteArray → List Tk → Rs α) : nameP ((1, s, a) :: r) f = f s r := by
 unfold nameP; rw [if_pos (by rfl)]; rfl
theorem isTx_no {k : Nat} {s t : ByteArray} {a : Nat} {r : List Tk} (h : s ≠ t) : ¬ isTx ((k, s, a) :: r) t = true := by rw [isTx_hd]; exact dec_no h
theorem isTx_yes (k : Nat) (s : ByteArray) (a : Nat) (r : List Tk) : isTx ((k, s, a) :: r) s = true := by rw [isTx_hd]; simp
/-- An assignment. -/
theorem asg_parse {nm : ByteArray} {ix : Fo} {v : Ex} (h1 : isN nm.data.toList = true) (h2 : ix.len ≤ 1) (h3 : ix.oks) (h4 : (v.row .nil).oks) {ts q : List Tk} (hk : ky ts = (1, nm) :: ((match foKx ix with | x :: _ => (5, tLb) :: (x.1 ++ [(5, tRb)]) | [] => []) ++ (5, tEq) :: (exK v ++ [(5, tSe)]))) (d : Int) :
  ∃ n d', stP n (ts ++ q) d = .ok ⟨1, nm, ix, v, exN, exN, .nil, .nil⟩ q d' := by
 obtain ⟨a, ts1, rfl, k1⟩ := ky_cons hk
 obtain ⟨ti, ts2, rfl, ki, k2⟩ := ky_app k1
 obtain ⟨b, ts3, rfl, k3⟩ := ky_cons k2
 obtain ⟨tv, ts4, rfl, kv, k4⟩ := ky_app k3
 obtain ⟨c, ts5, rfl, k5⟩ := ky_cons k4
 obtain rfl := ky_nil k5
 have st : ∀ n d', asgP n ((1, nm, a) :: (ti ++ (5, tEq, b) :: (tv ++ (5, tSe, c) :: q))) d = .ok ⟨1, nm, ix, v, exN, exN, .nil, .nil⟩ q d' → stP (n + 1) ((1, nm, a) :: (ti ++ (5, tEq, b) :: (tv ++ [(5, tSe, c)])) ++ q) d = .ok ⟨1, nm, ix, v, exN, exN, .nil, .nil⟩ q d' := fun n d' h => by
  have e : (1, nm, a) :: (ti ++ (5, tEq, b) :: (tv ++ [(5, tSe, c)])) ++ q = (1, nm, a) :: (ti ++ (5, tEq, b) :: (tv ++ (5, tSe, c) :: q)) := by simp
  rw [e, stP, if_neg (isTx_no (name_ne h1 (by decide +kernel))), if_neg (isTx_no (name_ne h1 (by decide +kernel))), if_neg (isTx_no (name_ne h1 (by decide +kernel)))]
  exact h
 rcases (show ix.len = 0 ∨ ix.len = 1 by omega) with e | e
 ·obtain rfl := len0 e
  obtain rfl := ky_nil ki
  obtain ⟨n, d', hv⟩ := pz_ex h4 kv (r := (5, tSe, c) :: q) (by show (opOf tSe).1 = 0; decide) (by rw [isTx_hd]; decide) 0 d
  refine ⟨n + 1, d', st n d' ?_⟩
  unfold asgP
  rw [nameP_hd, List.nil_append, if_neg (isTx_no (by decide)), want_hd, hv, thn_ok, want_hd]
 ·obtain ⟨x1, x2, x3, x4, rfl⟩ := len1 e
  obtain ⟨a2, ts6, rfl, k6⟩ := ky_cons ki
  obtain ⟨tx, ts7, rfl, kx, k7⟩ := ky_app k6
  obtain ⟨c2, ts8, rfl, k8⟩ := ky_cons k7
  obtain rfl := ky_nil k8
  have hx : ((⟨x1, x2, x3, x4⟩ : Ex).row .nil).oks := h3
  obtain ⟨m, d1, hm⟩ := pz_ex hx kx (r := (5, tRb, c2) :: (5, tEq, b) :: (tv ++ (5, tSe, c) :: q)) (by show (opOf tRb).1 = 0; decide) (by rw [isTx_hd]; decide) 0 d
  obtain ⟨n, d', hv⟩ := pz_ex h4 kv (r := (5, tSe, c) :: q) (by show (opOf tSe).1 = 0; decide) (by rw [isTx_hd]; decide) 0 d1
  refine ⟨max m n + 1, d', st (max m n) d' ?_⟩
  unfold asgP
  have e : (5, tLb, a2) :: (tx ++ [(5, tRb, c2)]) ++ (5, tEq, b) :: (tv ++ (5, tSe, c) :: q) = (5, tLb, a2) :: (tx ++ (5, tRb, c2) :: (5, tEq, b) :: (tv ++ (5, tSe, c) :: q)) := by simp
  rw [nameP_hd, e, isTx_yes, if_pos rfl, List.tail_cons, eP_up hm ok_nm (Nat.le_max_left m n), thn_ok, want_hd, want_hd, eP_up hv ok_nm (Nat.le_max_right m n), thn_ok, want_hd]; rfl
theorem read_parse {nm : ByteArray} {l h : Ex} (h1 : isN nm.data.toList = true) (h2 : (l.row .nil).oks) (h3 : isBd l = true) (h4 : (h.row .nil).oks) (h5 : isBd h = true) {ts q : List Tk} (hk : ky ts = (2, tRd) :: (1, nm) :: (2, tIn) :: (5, tLb) :: (exK l ++ (5, tCo) :: (exK h ++ [(5, tRb), (5, tSe)]))) (d : Int) :
  ∃ n d', stP n (ts ++ q) d = .ok ⟨2, nm, .nil, exN, l, h, .nil, .nil⟩ q d' := by
 obtain ⟨a, ts1, rfl, k1⟩ := ky_cons hk
 obtain ⟨b, ts2, rfl, k2⟩ := ky_cons k1
 obtain ⟨c, ts3, rfl, k3⟩ := ky_cons k2
 obtain ⟨a1, ts4, rfl, k4⟩ := ky_cons k3
 obtain ⟨tl, ts5, rfl, kl, k5⟩ := ky_app k4
 obtain ⟨b1, ts6, rfl, k6⟩ := ky_cons k5
 obtain ⟨th, ts7, rfl, kh, k7⟩ := ky_app k6
 obtain ⟨c1, ts8, rfl, k8⟩ := ky_cons k7
 obtain ⟨c2, ts9, rfl, k9⟩ := ky_cons k8
 obtain rfl := ky_nil k9
 refine ⟨1, d, ?_⟩
 have e : (2, tRd, a) :: (1, nm, b) :: (2, tIn, c) :: (5, tLb, a1) :: (tl ++ (5, tCo, b1) :: (th ++ [(5, tRb, c1), (5, tSe, c2)])) ++ q = (2, tRd, a) :: (1, nm, b) :: (2, tIn, c) :: (5, tLb, a1) :: (tl ++ (5, tCo, b1) :: (th ++ (5, tRb, c1) :: (5, tSe, c2) :: q)) := by simp
 rw [e, stP, isTx_yes, if_pos rfl, List.tail_cons]
 unfold readP
 rw [nameP_hd, want_hd, want_hd, bd_parse h2 h3 kl, thn_ok, want_hd, bd_parse h4 h5 kh, thn_ok, want_hd, want_hd]
theorem ps_so : ∀ f : So, f.oks → (∀ (ts : List Tk) (b : Nat) (r : List Tk) (d : Int), ky ts = soK f → ∃ n d', bsP n (ts ++ (5, tRc, b) :: r) d = .ok f r d') ∧
  (∀ (ts : List Tk) (a : Nat) (d : Int), ky ts = soK f → ∃ n d', ssP n (ts ++ [eT a]) d = .ok f [eT a] d')
 | .nil, _ => by
  refine ⟨fun ts b r d hk => ?_, fun ts a d hk => ?_⟩
  ·rw [ky_nil hk]
   exact ⟨1, d, by rw [List.nil_append, bsP, isTx_yes, if_pos rfl]; rfl⟩
  ·rw [ky_nil hk]
   exact ⟨1, d, by rw [List.nil_append, ssP, if_pos (by rfl)]⟩
 | .cons d0 nm ix v l h t e r, ho => by
  obtain ⟨it, _⟩ := ps_so t ho.2.1
  obtain ⟨ie, _⟩ := ps_so e ho.2.2.1
  obtain ⟨ir, is⟩ := ps_so r ho.2.2.2
  have one : ∀ (ts q : List Tk) (d : Int) (ks : List Kt), soK (.cons d0 nm ix v l h t e r) = ks ++ soK r → ky ts = ks → isTx q tEl = false → ∃ n d', stP n (ts ++ q) d = .ok ⟨d0, nm, ix, v, l, h, t, e⟩ q d' := by
   intro ts q d ks hks hk hq
   rw [soK] at hks
   have hks := List.append_cancel_right hks
   subst hks
   rcases ho.1 with ⟨rfl, h1, h2, h3, h4, rfl, rfl, rfl, rfl⟩ | ⟨rfl, h1, rfl, rfl, h2, h3, h4, h5, rfl, rfl⟩ | ⟨rfl, rfl, rfl, h1, rfl, rfl⟩ | ⟨rfl, rfl, rfl, h1, rfl, rfl, rfl⟩
   ·rw [if_pos rfl] at hk
    rw [toL] at h1
    exact asg_parse h1 h2 h3 h4 hk d
   ·rw [if_neg (by decide), if_pos rfl] at hk
    rw [toL] at h1
    exact read_parse h1 h2 h3 h4 h5 hk d
   ·rw [if_neg (show ¬ (3 : Int) = 1 by decide), if_neg (show ¬ (3 : Int) = 2 by decide), if_pos (show (3 : Int) = 3 from rfl)] at hk
    obtain ⟨a, ts1, rfl, k1⟩ := ky_cons hk
    obtain ⟨b, ts2, rfl, k2⟩ := ky_cons k1
    obtain ⟨tv, ts3, rfl, kv, k3⟩ := ky_app k2
    obtain ⟨c, ts4, rfl, k4⟩ := ky_cons k3
    obtain ⟨a1, ts5, rfl, k5⟩ := ky_cons k4
    obtain ⟨tt, ts6, rfl, kt, k6⟩ := ky_app k5
    obtain ⟨b1, ts7, rfl, k7⟩ := ky_cons k6
    obtain ⟨n1, d1, x1⟩ := pz_encl h1 kv b c ((5, tLc, a1) :: (tt ++ (5, tRc, b1) :: (ts7 ++ q))) 0 d
    obtain ⟨n2, d2, x2⟩ := it tt b1 (ts7 ++ q) d1 kt
    have e2 : (2, tIf, a) :: (5, tLp, b) :: (tv ++ (5, tRp, c) :: (5, tLc, a1) :: (tt ++ (5, tRc, b1) :: ts7)) ++ q = (2, tIf, a) :: (5, tLp, b) :: (tv ++ (5, tRp, c) :: (5, tLc, a1) :: (tt ++ (5, tRc, b1) :: (ts7 ++ q))) := by simp
    rw [e2]
    by_cases z : e.len = 0
    ·rw [if_pos z] at k7
     obtain rfl := ky_nil k7
     obtain rfl := so_len0 z
     refine ⟨max n1 (n2 + 1) + 1, d2, ?_⟩
     rw [stP, if_neg (isTx_no (by decide)), isTx_yes, if_pos rfl, List.tail_cons, cP_up x1 ok_nm (Nat.le_max_left _ _)]
     show (blP (max n1 (n2 + 1)) ((5, tLc, a1) :: (tt ++ (5, tRc, b1) :: ([] ++ q))) d1).thn _ = _
     obtain ⟨j, hj⟩ : ∃ j, max n1 (n2 + 1) = j + 1 := ⟨max n1 (n2 + 1) - 1, by omega⟩
     rw [hj, blP, want_hd, bsP_up x2 ok_nm (by omega)]
     show (if isTx ([] ++ q) tEl = true then _ else Rs.ok (⟨3, tx0, .nil, v, exN, exN, t, .nil⟩ : St) ([] ++ q) d2) = _
     rw [List.nil_append, hq]; rfl
    ·rw [if_neg z] at k7
     obtain ⟨a2, us1, rfl, l1⟩ := ky_cons k7
     obtain ⟨b2, us2, rfl, l2⟩ := ky_cons l1
     obtain ⟨te, us3, rfl, le, l3⟩ := ky_app l2
     obtain ⟨c2, us4, rfl, l4⟩ := ky_cons l3
     obtain rfl := ky_nil l4
     obtain ⟨n3, d3, x3⟩ := ie te c2 q d2 le
     have e3 : (2, tEl, a2) :: (5, tLc, b2) :: (te ++ [(5, tRc, c2)]) ++ q = (2, tEl, a2) :: (5, tLc, b2) :: (te ++ (5, tRc, c2) :: q) := by simp
     rw [e3] at x1 x2 ⊢
     obtain ⟨j, j1, j2, j3⟩ : ∃ j, n1 ≤ j + 1 ∧ n2 ≤ j ∧ n3 ≤ j := ⟨n1 + n2 + n3, by omega, by omega, by omega⟩
     refine ⟨j + 2, d3, ?_⟩
     rw [stP, if_neg (isTx_no (by decide)), isTx_yes, if_pos rfl, List.tail_cons, cP_up x1 ok_nm j1]
     show (blP (j + 1) ((5, tLc, a1) :: (tt ++ (5, tRc, b1) :: ((2, tEl, a2) :: (5, tLc, b2) :: (te ++ (5, tRc, c2) :: q)))) d1).thn _ = _
     rw [blP, want_hd, bsP_up x2 ok_nm j2]
     show (if isTx ((2, tEl, a2) :: (5, tLc, b2) :: (te ++ (5, tRc, c2) :: q)) tEl = true then (blP (j + 1) ((5, tLc, b2) :: (te ++ (5, tRc, c2) :: q)) d2).thn (fun e ts d => Rs.ok (⟨3, tx0, .nil, v, exN, exN, t, e⟩ : St) ts d) else Rs.ok (⟨3, tx0, .nil, v, exN, exN, t, .nil⟩ : St) ((2, tEl, a2) :: (5, tLc, b2) :: (te ++ (5, tRc, c2) :: q)) d2) = _
     rw [isTx_yes, if_pos rfl, blP, want_hd, bsP_up x3 ok_nm j3]; rfl
   ·rw [if_neg (show ¬ (4 : Int) = 1 by decide), if_neg (show ¬ (4 : Int) = 2 by decide), if_neg (show ¬ (4 : Int) = 3 by decide), if_pos (show (4 : Int) = 4 from rfl)] at hk
    obtain ⟨a, ts1, rfl, k1⟩ := ky_cons hk
    obtain ⟨b, ts2, rfl, k2⟩ := ky_cons k1
    obtain ⟨tv, ts3, rfl, kv, k3⟩ := ky_app k2
    obtain ⟨c, ts4, rfl, k4⟩ := ky_cons k3
    obtain ⟨a1, ts5, rfl, k5⟩ := ky_cons k4
    obtain ⟨tt, ts6, rfl, kt, k6⟩ := ky_app k5
    obtain ⟨b1, ts7, rfl, k7⟩ := ky_cons k6
    obtain rfl := ky_nil k7
    obtain ⟨n1, d1, x1⟩ := pz_encl h1 kv b c ((5, tLc, a1) :: (tt ++ (5, tRc, b1) :: q)) 0 d
    obtain ⟨n2, d2, x2⟩ := it tt b1 q d1 kt
    have e2 : (2, tWh, a) :: (5, tLp, b) :: (tv ++ (5, tRp, c) :: (5, tLc, a1) :: (tt ++ [(5, tRc, b1)])) ++ q = (2, tWh, a) :: (5, tLp, b) :: (tv ++ (5, tRp, c) :: (5, tLc, a1) :: (tt ++ (5, tRc, b1) :: q)) := by simp
    obtain ⟨j, j1, j2⟩ : ∃ j, n1 ≤ j + 1 ∧ n2 ≤ j := ⟨n1 + n2, by omega, by omega⟩
    refine ⟨j + 2, d2, ?_⟩
    rw [e2, stP, if_neg (isTx_no (by decide)), if_neg (isTx_no (by decide)), isTx_yes, if_pos rfl, List.tail_cons, cP_up x1 ok_nm j1]
    show (blP (j + 1) ((5, tLc, a1) :: (tt ++ (5, tRc, b1) :: q)) d1).thn _ = _
    rw [blP, want_hd, bsP_up x2 ok_nm j2]; rfl
  obtain ⟨k0, s0, q0, eb, hb⟩ := so_bg ho
  refine ⟨fun ts b q d hk => ?_, fun ts a d hk => ?_⟩
  ·have hk2 := hk
   rw [soK] at hk2
   obtain ⟨t1, t2, rfl, k1, k2⟩ := ky_app hk2
   obtain ⟨n1, d1, x1⟩ := one t1 (t2 ++ (5, tRc, b) :: q) d _ (by rw [soK]) k1 (so_no ho.2.2.2 k2 (by decide +kernel) (by decide) (by decide) (by decide) (by rw [isTx_hd]; decide))
   obtain ⟨n2, d2, x2⟩ := ir t2 b q d1 k2
   refine ⟨max n1 n2 + 1, d2, ?_⟩
   have g : isTx (t1 ++ t2 ++ (5, tRc, b) :: q) tRc = false := by
    rw [eb] at hk
    obtain ⟨a, ts', e3, _⟩ := ky_cons hk
    rw [e3, List.cons_append, isTx_hd]
    exact hb.no (by decide +kernel) (by decide) (by decide) (by decide)
   rw [bsP, g, if_neg (by decide), List.append_assoc, stP_up x1 ok_nm (Nat.le_max_left _ _)]
   show (bsP (max n1 n2) (t2 ++ (5, tRc, b) :: q) d1).thn _ = _
   rw [bsP_up x2 ok_nm (Nat.le_max_right _ _)]; rfl
  ·have hk2 := hk
   rw [soK] at hk2
   obtain ⟨t1, t2, rfl, k1, k2⟩ := ky_app hk2
   obtain ⟨n1, d1, x1⟩ := one t1 (t2 ++ [eT a]) d _ (by rw [soK]) k1 (so_no ho.2.2.2 k2 (by decide +kernel) (by decide) (by decide) (by decide) (by rw [isTx_hd]; decide))
   obtain ⟨n2, d2, x2⟩ := is t2 a d1 k2
   refine ⟨max n1 n2 + 1, d2, ?_⟩
   have g : ¬ (hd (t1 ++ t2 ++ [eT a])).1 = 0 := by
    rw [eb] at hk
    obtain ⟨a', ts', e3, _⟩ := ky_cons hk
    rw [e3, List.cons_append]
    show ¬ k0 = 0
    rcases hb with ⟨h, _⟩ | ⟨h, _⟩ <;> omega
   rw [ssP, if_neg g, List.append_assoc, stP_up x1 ok_nm (Nat.le_max_left _ _)]
   show (ssP (max n1 n2) (t2 ++ [eT a]) d1).thn _ = _
   rw [ssP_up x2 ok_nm (Nat.le_max_right _ _)]; rfl
end Go.Proofs.YtknoibocpbfmmaaGreatDoor



namespace Go.Proofs.YtknoibocpbfmmaaGreatDoor
set_option linter.unusedVariables false
set_option linter.unusedSimpArgs false
/-- The digits of a small number. -/
def digT (n : Nat) : ByteArray := if n < 10 then ⟨#[UInt8.ofNat (48 + n)]⟩ else ⟨#[UInt8.ofNat (48 + n / 10), UInt8.ofNat (48 + n % 10)]⟩
def celL (n : Int) : List UInt8 := if n = 0 then [] else [91] ++ ((digT n.toNat).data.toList ++ [93])
def dcL (d : Dc) : List UInt8 := (wdOf d.2.1).data.toList ++ ([32] ++ (d.1.data.toList ++ (celL d.2.2 ++ ([59] ++ [10]))))
/-- A program's text. -/
def pgL (p : Pg) : List UInt8 := p.1.flatMap dcL ++ soL [] p.2
def dcK (d : Dc) : List Kt := (2, wdOf d.2.1) :: (1, d.1) :: ((if d.2.2 = 0 then [] else [(5, tLb), (3, digT d.2.2.toNat), (5, tRb)]) ++ [(5, tSe)])
/-- .. its tokens. -/
def pgK (p : Pg) : List Kt := p.1.flatMap dcK ++ soK p.2
theorem dig_all : ∀ n : Fin 65, 1 ≤ n.1 → tok (digT n.1).data.toList = (3, (digT n.1).data.toList.length) ∧ (digT n.1).data.toList ≠ [] ∧ celN (digT n.1) = (n.1 : Int) := by decide +kernel
theorem dig_of {n : Int} (h : 0 ≤ n ∧ n ≤ 64) (h0 : n ≠ 0) : tok (digT n.toNat).data.toList = (3, (digT n.toNat).data.toList.length) ∧ (digT n.toNat).data.toList ≠ [] ∧ celN (digT n.toNat) = n := by
 have := dig_all ⟨n.toNat, by omega⟩ (by show 1 ≤ n.toNat; omega)
 refine ⟨this.1, this.2.1, this.2.2.trans ?_⟩
 show ((n.toNat : Nat) : Int) = n
 omega
theorem dc_all {d : Dc} (h : dcOk d = true) : isN d.1.data.toList = true ∧ (1 ≤ d.2.1 ∧ d.2.1 ≤ 3) ∧ 0 ≤ d.2.2 ∧ d.2.2 ≤ 64 := by
 unfold dcOk at h
 simp only [Bool.and_eq_true, decide_eq_true_eq] at h
 rw [toL] at h
 exact h
theorem wd_word {ty : Int} (h : 1 ≤ ty ∧ ty ≤ 3) : isW (wdOf ty).data.toList = true := by
 rcases (show ty = 1 ∨ ty = 2 ∨ ty = 3 by omega) with rfl | rfl | rfl <;> decide
theorem rd_dc {d : Dc} (h : dcOk d = true) : Tox (dcL d) (kL (dcK d)) Any8 := by
 obtain ⟨h1, h2, h3⟩ := dc_all h
 unfold dcL dcK
 have e := (lt_word (wd_word h2)).app lt_32 (fun r _ => br_sp r)
 by_cases z : d.2.2 = 0
 ·have := e.cat ((lt_name h1).app (lt_se.cat lt_10) fun r _ => br_se _)
  rw [if_pos z]
  unfold celL
  rw [if_pos z]
  simpa [kL] using this
 ·obtain ⟨t1, t2, _⟩ := dig_of h3 z
  have := e.cat ((lt_name h1).app (lt_lb.cat (((lt_num (Or.inl rfl) t1 t2).app lt_rb fun r _ => br_rb _).cat (lt_se.cat lt_10))) fun r _ => br_lb _)
  rw [if_neg z]
  unfold celL
  rw [if_neg z]
  simpa [kL] using this
theorem rd_dcs : ∀ ds : List Dc, ds.all dcOk = true → Tox (ds.flatMap dcL) (kL (ds.flatMap dcK)) Any8
 | [], _ => lt_nil
 | d :: ds, h => by
  rw [List.all_cons, Bool.and_eq_true] at h
  rw [List.flatMap_cons, List.flatMap_cons, kL_app]
  exact (rd_dc h.1).cat (rd_dcs ds h.2)
theorem ru_parts {p : Pg} {c : Nat × Nat} (h : ruP p = some c) : p.1.length ≤ 24 ∧ p.1.all dcOk = true ∧ p.2.oks := by
 unfold ruP at h
 split at h
 ·rename_i q
  simp only [Bool.and_eq_true, decide_eq_true_eq] at q
  unfold ruK at h
  rw [if_pos (by decide)] at h
  exact ⟨q.1, q.2, ruS_oks _ _ _ _ h⟩
 ·cases h
theorem lx_pg {p : Pg} {c : Nat × Nat} (h : ruP p = some c) : Lx (pgL p) (kL (pgK p)) := by
 obtain ⟨_, h1, h2⟩ := ru_parts h
 have := ((rd_dcs p.1 h1).cat (rd_so p.2 [] h2 lt_nil)) [] [] trivial (.nil rfl)
 unfold pgL pgK
 rw [kL_app]
 simpa using this
theorem dc_parse {d : Dc} (h : dcOk d = true) {ts q : List Tk} (hk : ky ts = dcK d) (x : Int) : dcP (ts ++ q) x = .ok d q x ∧ tyOf (hd (ts ++ q)).2.1 ≠ 0 := by
 obtain ⟨h1, h2, h3⟩ := dc_all h
 obtain ⟨nm, ty, n⟩ := d
 unfold dcK at hk
 obtain ⟨a, ts1, rfl, k1⟩ := ky_cons hk
 obtain ⟨b, ts2, rfl, k2⟩ := ky_cons k1
 have et : tyOf (wdOf ty) = ty := by rcases (show ty = 1 ∨ ty = 2 ∨ ty = 3 by have h2' : 1 ≤ ty ∧ ty ≤ 3 := h2; omega) with rfl | rfl | rfl <;> decide
 refine ⟨?_, by show tyOf (wdOf ty) ≠ 0; rw [et]; have h2' : 1 ≤ ty ∧ ty ≤ 3 := h2; omega⟩
 unfold dcP
 by_cases z : n = 0
 ·subst z
  obtain ⟨c, ts3, rfl, k3⟩ := ky_cons k2
  obtain rfl := ky_nil k3
  rw [List.cons_append, if_pos (by rfl), List.tail_cons, List.cons_append, nameP_hd, List.cons_append, if_neg (isTx_no (by decide)), want_hd]
  show Rs.ok (nm, tyOf (wdOf ty), (0 : Int)) q x = _
  rw [et]
 ·have k2' : ky ts2 = [(5, tLb), (3, digT n.toNat), (5, tRb)] ++ [(5, tSe)] := by rw [← if_neg (c := n = 0) (t := ([] : List Kt)) (e := [(5, tLb), (3, digT n.toNat), (5, tRb)]) z]; exact k2
  obtain ⟨c, ts3, rfl, k3⟩ := ky_cons k2'
  obtain ⟨c1, ts4, rfl, k4⟩ := ky_cons k3
  obtain ⟨c2, ts5, rfl, k5⟩ := ky_cons k4
  obtain ⟨c3, ts6, rfl, k6⟩ := ky_cons k5
  obtain rfl := ky_nil k6
  have e5 : [(2, wdOf ty, a), (1, nm, b), (5, tLb, c), (3, digT n.toNat, c1), (5, tRb, c2), (5, tSe, c3)] ++ q = (2, wdOf ty, a) :: (1, nm, b) :: (5, tLb, c) :: (3, digT n.toNat, c1) :: (5, tRb, c2) :: (5, tSe, c3) :: q := rfl
  rw [e5, if_pos (by rfl), List.tail_cons, nameP_hd, isTx_yes, if_pos rfl, List.tail_cons, if_pos (by rfl), List.tail_cons, want_hd, want_hd]
  show Rs.ok (nm, tyOf (wdOf ty), celN (digT n.toNat)) q x = _
  rw [et, (dig_of h3 z).2.2]
theorem ds_parse : ∀ (ds : List Dc), ds.all dcOk = true → ∀ (ts q : List Tk) (x : Int), ky ts = ds.flatMap dcK → tyOf (hd q).2.1 = 0 → ∃ n, dsP n (ts ++ q) x = .ok ds q x
 | [], _, ts, q, x, hk, hq => by
  rw [ky_nil hk]
  exact ⟨1, by rw [List.nil_append, dsP, if_neg (by rw [hq]; exact fun h => h rfl)]⟩
 | d :: ds, h, ts, q, x, hk, hq => by
  rw [List.all_cons, Bool.and_eq_true] at h
  rw [List.flatMap_cons] at hk
  obtain ⟨t1, t2, rfl, k1, k2⟩ := ky_app hk
  obtain ⟨n, hn⟩ := ds_parse ds h.2 t2 q x k2 hq
  obtain ⟨a, b⟩ := dc_parse h.1 (q := t2 ++ q) k1 x
  refine ⟨n + 1, ?_⟩
  rw [List.append_assoc, dsP, if_pos b, a, thn_ok, hn]; rfl
theorem pg_parse {p : Pg} {c : Nat × Nat} (h : ruP p = some c) {ts : List Tk} (hk : ky ts = pgK p) (a : Nat) : ∃ n d, pgP n (ts ++ [eT a]) = .ok p [eT a] d := by
 obtain ⟨_, h1, h2⟩ := ru_parts h
 obtain ⟨t1, t2, rfl, k1, k2⟩ := ky_app hk
 obtain ⟨n2, d, hs⟩ := (ps_so p.2 h2).2 t2 a 0 k2
 have hq : tyOf (hd (t2 ++ [eT a])).2.1 = 0 := by
  cases hf : p.2 with
  | nil => rw [hf] at k2; rw [ky_nil k2]; rfl
  | cons d nm ix v l h' t e r =>
   rw [hf] at k2 h2
   obtain ⟨k, s, u, e1, hb⟩ := so_bg h2
   rw [e1] at k2
   obtain ⟨b, ts', rfl, _⟩ := ky_cons k2
   exact tyOf_bg hb
 obtain ⟨n1, hn⟩ := ds_parse p.1 h1 t1 (t2 ++ [eT a]) 0 k1 hq
 refine ⟨max n1 n2, d, ?_⟩
 unfold pgP
 rw [List.append_assoc, dsP_up hn ok_nm (Nat.le_max_left _ _), thn_ok, ssP_up hs ok_nm (Nat.le_max_right _ _)]; rfl
theorem kL_inj {a b : List Kt} (h : kL a = kL b) : a = b := by
 have := congrArg (List.map (fun x : Nat × List UInt8 => ((x.1, (⟨x.2.toArray⟩ : ByteArray)) : Kt))) h
 simpa [kL, List.map_map, Function.comp_def] using this
theorem ext_list' (s : ByteArray) (a b : Nat) : (s.extract a b).data.toList = (s.toList.drop a).take (b - a) := by
 rw [← toL, toL_cut, List.drop_take]
/-- A program's text is parsed as the program, if it is parsed. -/
theorem prs_back {p q : Pg} {c : Nat × Nat} (h : ruP p = some c) {s : ByteArray} (hs : s.data.toList = pgL p) (hq : prsL s = .ok q) : q = p := by
 unfold prsL at hq
 cases hc : scanL s.toList with
 | error e => rw [hc] at hq; cases hq
 | ok t =>
  rw [hc] at hq
  simp only at hq
  have x := scanL_Lx hc
  have y := lx_pg h
  rw [← hs, ← toL] at y
  have z := x.det y
  have hk : ky (t.map (fun x => (x.1, s.extract x.2.1 (x.2.1 + x.2.2), x.2.1))) = pgK p := by
   apply kL_inj
   rw [← z]
   simp only [ky, kL, List.map_map]
   apply List.map_congr_left
   intro w _
   simp only [Function.comp, ext_list']
   rw [Nat.add_sub_cancel_left]
  obtain ⟨n, d, hn⟩ := pg_parse h hk s.size
  have e : tks s t = t.map (fun x => (x.1, s.extract x.2.1 (x.2.1 + x.2.2), x.2.1)) ++ [eT s.size] := rfl
  rw [← e] at hn
  cases hr : pgP 16500 (tks s t) with
  | bad a => rw [hr] at hq; cases hq
  | more => rw [hr] at hq; cases hq
  | ok p' us d' =>
   have := mo_both (F := fun n => pgP n (tks s t)) (fun n => mo_pg n _) (n := n) (n' := 16500) (by rw [hn]; exact ok_nm) (by rw [hr]; exact ok_nm)
   rw [hn, hr] at this
   rw [hr] at hq
   unfold parT at hq
   simp only at hq
   split at hq
   ·cases hq; cases this; rfl
   ·cases hq
end Go.Proofs.YtknoibocpbfmmaaGreatDoor



namespace Go.Proofs.YtknoibocpbfmmaaGreatDoor
set_option linter.unusedVariables false
set_option linter.unusedSimpArgs false
theorem z_app (a b : ByteArray) : (a ++ b).size = a.size + b.size := ByteArray.size_append
/-- What a row's texts weigh at most. -/
def Fo.wt : Fo → Nat
 | .nil => 0
 | .cons _ tx _ ks r => tx.size + 20 + ks.wt + r.wt
def wtL : List (ByteArray × Int) → Nat
 | [] => 0
 | x :: r => x.1.size + 2 + wtL r
theorem kd_size (lv : Int) (x : ByteArray × Int) : (kdT lv x).size ≤ x.1.size + 2 := by
 unfold kdT
 split
 ·rw [z_app, z_app]; show 1 + x.1.size + 1 ≤ _; omega
 ·omega
theorem ix_size : ∀ (l : List (ByteArray × Int)) (a : ByteArray), (ixT l a).size = a.size + wtL l
 | [], a => rfl
 | x :: r, a => by
  rw [ixT, ix_size r, z_app, z_app, z_app, wtL]
  show a.size + (1 + x.1.size + 1) + wtL r = _
  omega
theorem wd_size (t : Int) : (wdOf t).size ≤ 6 := by
 unfold wdOf
 split
 ·decide
 ·split
  ·decide
  ·split <;> decide
theorem of_size (op : Int) : (ofT op).2.1.size ≤ 2 := by
 by_cases c : 8 ≤ op ∧ op ≤ 19
 ·rcases op_range c with rfl | rfl | rfl | rfl | rfl | rfl | rfl | rfl | rfl | rfl | rfl | rfl <;> decide
 ·have : ofT op = (op, tx0, 5) := by
   unfold ofT
   rw [List.find?_eq_none.2 (fun x hx => ?_)]
   ·rfl
   ·simp only [decide_eq_true_eq]
    rintro rfl
    simp [opT] at hx
    rcases hx with rfl | rfl | rfl | rfl | rfl | rfl | rfl | rfl | rfl | rfl | rfl | rfl <;> simp at c
  rw [this]; exact Nat.zero_le _
theorem k0_wt (l : List (ByteArray × Int)) : (kf0 tx0 l).1.size ≤ wtL l := by
 cases l with
 | nil => exact Nat.zero_le _
 | cons x r => show x.1.size ≤ x.1.size + 2 + wtL r; omega
theorem k01_wt (l : List (ByteArray × Int)) : (kf0 tx0 l).1.size + (kf1 tx0 l).1.size + 4 ≤ wtL l + 4 := by
 match l with
 | [] => exact Nat.le_refl _
 | [x] => show x.1.size + 0 + 4 ≤ x.1.size + 2 + 0 + 4; omega
 | x :: y :: r => show x.1.size + y.1.size + 4 ≤ x.1.size + 2 + (y.1.size + 2 + wtL r) + 4; omega
theorem ex_size (op : Int) (tx : ByteArray) (ty : Int) (ks : List (ByteArray × Int)) : (exTx op tx ty ks).size + 2 ≤ tx.size + 20 + wtL ks := by
 have a := k0_wt ks
 have b := k01_wt ks
 unfold exTx
 split
 ·rw [z_app, ix_size]; show tx.size + (0 + wtL ks) + 2 ≤ _; omega
 split
 ·have := kd_size 5 (kf0 tx0 ks); rw [z_app]; show 1 + _ + 2 ≤ _; omega
 split
 ·have := kd_size 5 (kf0 tx0 ks); rw [z_app]; show 1 + _ + 2 ≤ _; omega
 split
 ·rw [z_app, z_app]; show 4 + _ + 1 + 2 ≤ _; omega
 split
 ·rw [z_app, z_app]; show 5 + _ + 1 + 2 ≤ _; omega
 split
 ·have := wd_size ty; rw [z_app, z_app, z_app]; show _ + 1 + _ + 1 + 2 ≤ _; omega
 ·have c := kd_size (ofT op).2.2 (kf0 tx0 ks)
  have d := kd_size ((ofT op).2.2 + 1) (kf1 tx0 ks)
  have e := of_size op
  rw [z_app, z_app, z_app, z_app]
  show _ + 1 + _ + 1 + _ + 2 ≤ _
  omega
theorem fo_size : ∀ f : Fo, wtL (foTx f) ≤ f.wt
 | .nil => Nat.le_refl _
 | .cons op tx ty ks r => by
  have a := fo_size ks
  have b := fo_size r
  have c := ex_size op tx ty (foTx ks)
  show (exTx op tx ty (foTx ks)).size + 2 + wtL (foTx r) ≤ tx.size + 20 + ks.wt + r.wt
  omega
theorem exT_size (e : Ex) : (exT e).size + 2 ≤ (e.row .nil).wt := by
 have a := ex_size e.op e.tx e.ty (foTx e.ks)
 have b := fo_size e.ks
 show (exTx e.op e.tx e.ty (foTx e.ks)).size + 2 ≤ e.tx.size + 20 + e.ks.wt + 0
 omega
end Go.Proofs.YtknoibocpbfmmaaGreatDoor



namespace Go.Proofs.YtknoibocpbfmmaaGreatDoor
open Go.RowKit
set_option linter.unusedVariables false
set_option linter.unusedSimpArgs false
/-- An expression's text is told. -/
def SpA (e : Ex) : Prop := ∀ (S : Nat → Prop) (pp : Option Addr) (qq : Nat) (w : World), OpsAt w → SlF w S (.slice pp e.ks.len qq) e.ks →
 Calls Tryz.prog 75 #[.agg #[.int .i64 e.op, .string e.tx, .int .i64 e.ty, .slice pp e.ks.len qq]] w fun e' w' => e' = .returned (.string (exT e)) ∧ Below w.heap.size w w'
set_option maxRecDepth 100000 in
theorem opf2 (a c : Int) (b : ByteArray) (w : World) : (Instr.field 133 (.agg #[.int .i64 a, .string b, .int .i64 c]) 2).run Tryz.prog w = .ok (.int .i64 c) w := by kernel_rfl
set_option maxRecDepth 100000 in
set_option maxHeartbeats 1600000 in
theorem pkidT (e : Ex) (hE : SpA e) (hz : (exT e).size ≤ 1099511627776) (lv : Int) (S : Nat → Prop) (pp : Option Addr) (qq : Nat) (w : World) (hO : OpsAt w) (hT : SlF w S (.slice pp e.ks.len qq) e.ks) :
  Calls Tryz.prog 93 #[.agg #[.int .i64 e.op, .string e.tx, .int .i64 e.ty, .slice pp e.ks.len qq], .int .i64 lv] w fun e' w' => e' = .returned (.string (kdT lv (exT e, e.op))) ∧ Below w.heap.size w w' := by
 have gX := pb_new (Below.refl w.heap.size w) (.cells #[.int .i64 e.op, .string e.tx, .int .i64 e.ty, .slice pp e.ks.len qq] 85)
 have qX := World.alloc_heap_new w (.cells #[.int .i64 e.op, .string e.tx, .int .i64 e.ty, .slice pp e.ks.len qq] 85)
 have kE := hE S pp qq _ (hO.bel gX) (hT.kp (Below.kp gX _))
 have hO2 := hO.bel gX
 obtain ⟨X, hX⟩ : ∃ X, w.alloc (.cells #[.int .i64 e.op, .string e.tx, .int .i64 e.ty, .slice pp e.ks.len qq] 85) = X := ⟨_, rfl⟩
 obtain ⟨b, hb⟩ : ∃ b, w.heap.size = b := ⟨_, rfl⟩
 rw [hX] at gX qX kE hO2
 rw [hb] at qX
 obtain ⟨f0, f1, f2, f3, ff⟩ := ex_cells qX
 have kF := fun V h => popFor e.op V h
 have of2 := opf2
 obtain ⟨T, hT⟩ : ∃ T, exT e = T := ⟨_, rfl⟩
 rw [hT] at kE hz ⊢
 obtain ⟨L, hL⟩ : ∃ L, (ofT e.op).2.2 = L := ⟨_, rfl⟩
 have hgX : Hid (Below w.heap.size w X) := gX
 have hX' : Hid (w.alloc (.cells #[.int .i64 e.op, .string e.tx, .int .i64 e.ty, .slice pp e.ks.len qq] 85) = X) := hX
 have hb' : Hid (w.heap.size = b) := hb
 have sz : T.size ≤ 1099511627776 := hz
 obtain ⟨n, hn⟩ : ∃ n, T.size = n := ⟨_, rfl⟩
 rw [hn] at sz
 unfold kdT
 rw [show (ofT ((T, e.op) : ByteArray × Int).2).2.2 = L from hL]
 rw [hL] at kF
 generalize (ofT e.op).1 = o1 at *
 generalize (ofT e.op).2.1 = o2 at *
 clear hL hX hb gX hT hE hz hO
 by_cases c : L < lv
 ·rw [if_pos c]
  have s1 : (⟨#[40]⟩ : ByteArray).size = 1 := rfl
  have s2 : ((⟨#[40]⟩ : ByteArray) ++ T).size = 1 + n := by rw [z_app, hn]; rfl
  have s3 : (⟨#[41]⟩ : ByteArray).size = 1 := rfl
  go_enter Tryz.func93, Tryz.ntmps93
  go_upto_region 1 with fail
  rw [hX'.out]
  (try rw [hb'.out])
  go_wp2_with (first
   | (go_at_call 75; (refine kE.mono ?_); rintro e v1 ⟨rfl, g1⟩; replace f0 := pb_cell g1 f0; replace hO2 := hO2.bel g1)
   | (go_at_call 94; (refine (kF _ hO2).mono ?_); rintro e v2 ⟨rfl, g2⟩)
   | fail)
  go_ret
  exact ⟨rfl, pb_call hgX.out (pb_call g1 g2)⟩
 ·rw [if_neg c]
  go_enter Tryz.func93, Tryz.ntmps93
  go_upto_region 1 with fail
  rw [hX'.out]
  (try rw [hb'.out])
  go_wp2_with (first
   | (go_at_call 75; (refine kE.mono ?_); rintro e v1 ⟨rfl, g1⟩; replace f0 := pb_cell g1 f0; replace hO2 := hO2.bel g1)
   | (go_at_call 94; (refine (kF _ hO2).mono ?_); rintro e v2 ⟨rfl, g2⟩)
   | fail)
  go_ret
  exact ⟨rfl, pb_call hgX.out (pb_call g1 g2)⟩
theorem fo_len : ∀ f : Fo, f.len ≤ wtL (foTx f)
 | .nil => Nat.le_refl _
 | .cons op tx ty ks r => by
  have := fo_len r
  show r.len + 1 ≤ (exTx op tx ty (foTx ks)).size + 2 + wtL (foTx r)
  omega
set_option maxRecDepth 100000 in
set_option maxHeartbeats 1600000 in
theorem pixT (f : Fo) (hA : f.all SpA) (hz : wtL (foTx f) ≤ 1099511627776) (S : Nat → Prop) (pp : Option Addr) (qq : Nat) (w : World) (hO : OpsAt w) (hT : SlF w S (.slice pp f.len qq) f) :
  Calls Tryz.prog 74 #[.slice pp f.len qq] w fun e' w' => e' = .returned (.string (ixT (foTx f) tx0)) ∧ Below w.heap.size w w' := by
 obtain ⟨R, hR⟩ : ∃ R, ixT (foTx f) tx0 = R := ⟨_, rfl⟩
 rw [hR]
 obtain ⟨m, hm⟩ : ∃ m, f.len = m := ⟨_, rfl⟩
 rw [hm] at hT ⊢
 have hm' : Hid (f.len = m) := hm
 have hA' : Hid (f.all SpA) := hA
 have hT' : Hid (SlF w S (.slice pp m qq) f) := hT
 have hO' : Hid (OpsAt w) := hO
 have hI : Hid (ixT (foTx (f.drop 0)) tx0 = R ∧ tx0.size + wtL (foTx (f.drop 0)) ≤ 1099511627776) := ⟨hR, by show 0 + wtL (foTx f) ≤ _; omega⟩
 have hm40 : Hid (m ≤ 1099511627776) := by have := fo_len f; show m ≤ _; omega
 clear hm hA hO hT hR hz
 go_enter Tryz.func74, Tryz.ntmps74
 go_upto_region 3 with fail
 go_loopw [8, 3] (fun i t wr => ∃ (j : Nat) (a : ByteArray) (V : World), i = .int .i64 j ∧ t = .string a ∧ V = wr ∧ Hid (Below w.heap.size w V) ∧ Hid (ixT (foTx (f.drop j)) a = R ∧ a.size + wtL (foTx (f.drop j)) ≤ 1099511627776) ∧ j ≤ m) (fun i t _ => m - (intOf i).toNat)
 case atStart => exact ⟨0, tx0, w, rfl, rfl, rfl, Below.refl _ _, hI, by omega⟩
 case round =>
  clear hI
  obtain ⟨j, a, V, rfl, rfl, e, gV, hI, hj⟩ := hrel
  subst e
  by_cases cj : j < m
  ·have cj' : (j : Int) < (m : Int) := by omega
   obtain ⟨op, tx, ty, ks, hf⟩ := Fo.drop_at (f := f) (j := j) (by rw [hm'.out]; exact cj)
   have hal := Fo.all_drop j hA'.out
   rw [hf] at hal
   obtain ⟨hq, hs⟩ := hI.out
   rw [hf] at hq hs
   obtain ⟨T, hT0⟩ : ∃ T, exT ⟨op, tx, ty, ks⟩ = T := ⟨_, rfl⟩
   have hq2 : Hid (ixT (foTx (f.drop (j + 1))) (a ++ (tLb ++ T ++ tRb)) = R) := by rw [← hT0]; exact hq
   have hs2 : a.size + (T.size + 2 + wtL (foTx (f.drop (j + 1)))) ≤ 1099511627776 := by rw [← hT0]; exact hs
   have hTT := hT'.out.kp (Below.kp gV.out _)
   obtain ⟨p2, q2, e2, hT⟩ := hTT
   obtain ⟨rfl, e4, rfl⟩ := Value.slice.inj e2
   clear e2 e4
   rcases hT with hT | ⟨c, u, rfl, hT⟩
   ·exfalso; have := hm'.out; rw [hT] at this; simp [Fo.len] at this; omega
   have hTj := FoAt.drop j hT
   rw [hf] at hTj
   obtain ⟨⟨k0, k1, k2, s3, k3, hs3⟩, _, lc⟩ := hTj.head
   obtain ⟨p3, q3, rfl, hs3'⟩ := hs3
   have g1 := pb_new (Below.refl V.heap.size V) (.cells #[.int .i64 op, .string tx, .int .i64 ty, .slice p3 ks.len q3] 85)
   have kE := hal.1 S p3 q3 (V.alloc (.cells #[.int .i64 op, .string tx, .int .i64 ty, .slice p3 ks.len q3] 85)) ((hO'.out.bel gV.out).bel g1) ((show SlF V S (.slice p3 ks.len q3) ks from ⟨p3, q3, rfl, hs3'⟩).kp (Below.kp g1 _))
   rw [hT0] at kE
   have ix := ex_ix c u m qq j cj
   have cV : c < V.heap.size := World.block_lt_of_cell? V _ k0
   have hm40' := hm40.out
   have wj : IntKind.i64.wrap ((j : Int) + 1) = ((j + 1 : Nat) : Int) := by rw [IntKind.wrap_i64]; omega
   obtain ⟨nT, hnT⟩ : ∃ n, T.size = n := ⟨_, rfl⟩
   obtain ⟨na, hna⟩ : ∃ n, a.size = n := ⟨_, rfl⟩
   have zb : ((⟨#[91]⟩ : ByteArray) ++ T).size = 1 + nT := by rw [z_app, hnT]; rfl
   have zc : ((⟨#[91]⟩ : ByteArray) ++ T ++ (⟨#[93]⟩ : ByteArray)).size = 2 + nT := by rw [z_app, zb]; show 1 + nT + 1 = _; omega
   have z1 : (⟨#[91]⟩ : ByteArray).size = 1 := rfl
   have z2 : (⟨#[93]⟩ : ByteArray).size = 1 := rfl
   have zl : na + (2 + nT) ≤ 1099511627776 := by rw [hnT, hna] at hs2; omega
   have hs3 : Hid (a.size + (T.size + 2 + wtL (foTx (f.drop (j + 1)))) ≤ 1099511627776) := hs2
   have gV' : Hid (Below w.heap.size w (V.alloc (.cells #[.int .i64 op, .string tx, .int .i64 ty, .slice p3 ks.len q3] 85))) := pb_call gV.out g1
   clear hq hs hTj hs3' lc hT hal hf hs2 hI hT0 gV hm40'
   generalize hks : ks.len = n3 at *
   clear hks
   generalize u + j * 4 = o at *
   go_upto_region 5 with fail
   obtain ⟨X, hX⟩ : ∃ X, V.alloc (.cells #[.int .i64 op, .string tx, .int .i64 ty, .slice p3 n3 q3] 85) = X := ⟨_, rfl⟩
   have qX : X.heap[V.heap.size]? = some (.cells #[.int .i64 op, .string tx, .int .i64 ty, .slice p3 n3 q3] 85 (0, 0)) := by rw [← hX]; exact World.alloc_heap_new _ _
   obtain ⟨b5, hb5⟩ : ∃ B, V.heap.size = B := ⟨_, rfl⟩
   rw [hX] at kE gV' ⊢
   rw [hb5] at qX
   (try rw [hb5])
   obtain ⟨f0, f1, f2, f3, ff⟩ := ex_cells qX
   clear k0 k1 k2 k3 ix hX hb5 g1 cV
   go_wp2_with (first
    | (go_at_call 75; (refine kE.mono ?_); rintro e v1 ⟨rfl, g2⟩)
    | fail)
   refine ⟨⟨j + 1, a ++ (tLb ++ T ++ tRb), v1, by go_num, rfl, rfl, pb_call gV'.out g2, ⟨hq2.out, ?_⟩, by omega⟩, by simp [intOf]; omega⟩
   have := hs3.out
   rw [z_app, zc, hna]
   rw [hna, hnT] at this
   omega
  ·obtain rfl : j = m := by omega
   have nn : ¬ ((j : Int) < (j : Int)) := by omega
   have hq := hI.out.1
   rw [← hm'.out, Fo.drop_end] at hq
   obtain rfl : a = R := hq
   have g' := gV.out
   clear hI
   go_wp2_with fail
   go_ret
   exact ⟨rfl, g'⟩
end Go.Proofs.YtknoibocpbfmmaaGreatDoor



