/- Every right statement's tokens are parsed as itself. -/
import Derived.Test.YtknoibocpbfmmaaGreatDoorPdF
namespace Go.Proofs.YtknoibocpbfmmaaGreatDoor
set_option linter.unusedVariables false
set_option linter.unusedSimpArgs false
theorem stP_up {n m : Nat} {ts : List Tk} {d : Int} {R : Rs St} (h : stP n ts d = R) (hR : R ≠ .more) (hm : n ≤ m) : stP m ts d = R := by
  obtain ⟨j, rfl⟩ := Nat.exists_eq_add_of_le hm
  exact (mo_upto (F := fun n => stP n ts d) (fun n => (mo_st n).1 ts d) n j (by rw [h]; exact hR)).trans h
theorem bsP_up {n m : Nat} {ts : List Tk} {d : Int} {R : Rs So} (h : bsP n ts d = R) (hR : R ≠ .more) (hm : n ≤ m) : bsP m ts d = R := by
  obtain ⟨j, rfl⟩ := Nat.exists_eq_add_of_le hm
  exact (mo_upto (F := fun n => bsP n ts d) (fun n => (mo_st n).2.2 ts d) n j (by rw [h]; exact hR)).trans h
theorem ssP_up {n m : Nat} {ts : List Tk} {d : Int} {R : Rs So} (h : ssP n ts d = R) (hR : R ≠ .more) (hm : n ≤ m) : ssP m ts d = R := by
  obtain ⟨j, rfl⟩ := Nat.exists_eq_add_of_le hm
  exact (mo_upto (F := fun n => ssP n ts d) (fun n => mo_ss n ts d) n j (by rw [h]; exact hR)).trans h
theorem dsP_up {n m : Nat} {ts : List Tk} {d : Int} {R : Rs (List Dc)} (h : dsP n ts d = R) (hR : R ≠ .more) (hm : n ≤ m) : dsP m ts d = R := by
  obtain ⟨j, rfl⟩ := Nat.exists_eq_add_of_le hm
  exact (mo_upto (F := fun n => dsP n ts d) (fun n => mo_ds n ts d) n j (by rw [h]; exact hR)).trans h
/-- What a statement begins with. -/
def Bg (k : Nat) (s : ByteArray) : Prop := k = 1 ∧ isN s.data.toList = true ∨ k = 2 ∧ (s = tRd ∨ s = tIf ∨ s = tWh)
theorem Bg.no {k : Nat} {s : ByteArray} (h : Bg k s) {t : ByteArray} (ht : isN t.data.toList = false) (h1 : t ≠ tRd) (h2 : t ≠ tIf) (h3 : t ≠ tWh) : decide (s = t) = false := by
  rw [decide_eq_false_iff_not]
  rintro rfl
  rcases h with ⟨_, h⟩ | ⟨_, h⟩
  · rw [ht] at h; cases h
  · rcases h with h | h | h
    · exact h1 h
    · exact h2 h
    · exact h3 h
theorem so_bg {d : Int} {nm : ByteArray} {ix : Fo} {v l h : Ex} {t e r : So} (ho : (So.cons d nm ix v l h t e r).oks) : ∃ k s q, soK (.cons d nm ix v l h t e r) = (k, s) :: q ∧ Bg k s := by
  unfold soK
  rcases ho.1 with ⟨rfl, h1, _⟩ | ⟨rfl, h1, _⟩ | ⟨rfl, _⟩ | ⟨rfl, _⟩
  · rw [toL] at h1
    exact ⟨_, _, _, rfl, Or.inl ⟨rfl, h1⟩⟩
  · exact ⟨_, _, _, rfl, Or.inr ⟨rfl, Or.inl rfl⟩⟩
  · exact ⟨_, _, _, rfl, Or.inr ⟨rfl, Or.inr (Or.inl rfl)⟩⟩
  · exact ⟨_, _, _, rfl, Or.inr ⟨rfl, Or.inr (Or.inr rfl)⟩⟩
theorem so_no {f : So} (ho : f.oks) {ts q : List Tk} (hk : ky ts = soK f) {t : ByteArray} (ht : isN t.data.toList = false) (h1 : t ≠ tRd) (h2 : t ≠ tIf) (h3 : t ≠ tWh) (hq : isTx q t = false) : isTx (ts ++ q) t = false := by
  cases f with
  | nil => rw [ky_nil hk]; exact hq
  | cons d nm ix v l h t' e r =>
    obtain ⟨k, s, u, e1, hb⟩ := so_bg ho
    rw [e1] at hk
    obtain ⟨a, ts', rfl, _⟩ := ky_cons hk
    rw [List.cons_append, isTx_hd]
    exact hb.no ht h1 h2 h3
theorem tyOf_bg {k : Nat} {s : ByteArray} (h : Bg k s) : tyOf s = 0 := by
  rcases h with ⟨_, h⟩ | ⟨_, h⟩
  · exact name_ty h
  · rcases h with rfl | rfl | rfl <;> decide
/-- A bound's tokens. -/
theorem bd_parse {e : Ex} (h : (e.row .nil).oks) (hb : isBd e = true) {ts r : List Tk} (hk : ky ts = exK e) (d : Int) : bdP (ts ++ r) d = .ok e r d := by
  obtain ⟨op, tx, ty, ks⟩ := e
  have num : ∀ {tx : ByteArray} {us : List Tk}, isNum tx = true → ky us = [((tok tx.data.toList).1, tx)] → numP (us ++ r) d = .ok ⟨1, tx, 0, .nil⟩ r d ∧ isTx (us ++ r) tMi = false := fun {tx us} hn hk => by
    obtain ⟨a, ts', rfl, hk1⟩ := ky_cons hk
    obtain rfl := ky_nil hk1
    refine ⟨?_, ?_⟩
    · unfold numP
      rw [if_pos (by exact num_kind hn)]; rfl
    · rw [List.cons_append, isTx_hd]
      exact decide_eq_false (num_ne hn (by decide))
  unfold isBd at hb
  split at hb
  · rename_i e4
    have e4' : op = 4 := e4
    subst e4'
    rcases ok_cases h.1 with ⟨h1, _⟩ | ⟨h1, _⟩ | ⟨h1, _⟩ | ⟨h1, _⟩ | ⟨h1, h2, h3, h4⟩ | ⟨h1, _⟩
    · omega
    · omega
    · omega
    · omega
    · obtain ⟨a, b, c, k, rfl⟩ := len1 h4
      have h2' : tx = tx0 := h2
      have h3' : ty = 0 := h3
      subst h2' h3'
      have ha : a = 1 := by simpa using hb
      subst ha
      rcases ok_cases h.2.1.1 with ⟨_, n1, n2, n3⟩ | ⟨q, _⟩ | ⟨q, _⟩ | ⟨q, _⟩ | ⟨q, _⟩ | ⟨q, _⟩
      · obtain rfl := len0 n3
        subst n2
        have e5 : exK ⟨4, tx0, 0, .cons 1 b 0 .nil .nil⟩ = [(5, tMi), ((tok b.data.toList).1, b)] := rfl
        rw [e5] at hk
        obtain ⟨a, ts', rfl, hk1⟩ := ky_cons hk
        unfold bdP
        rw [List.cons_append, isTx_hd, if_pos (by decide), List.tail_cons, (num n1 hk1).1]; rfl
      all_goals omega
    · omega
  · have ha : op = 1 := by simpa using hb
    subst ha
    rcases ok_cases h.1 with ⟨_, n1, n2, n3⟩ | ⟨q, _⟩ | ⟨q, _⟩ | ⟨q, _⟩ | ⟨q, _⟩ | ⟨q, _⟩
    · have n3' : ks.len = 0 := n3
      obtain rfl := len0 n3'
      have n2' : ty = 0 := n2
      subst n2'
      have n1' : isNum tx = true := n1
      obtain ⟨x, y⟩ := num n1' hk
      unfold bdP
      rw [y, x]; rfl
    all_goals (simp at q)
theorem thn_ok {α β : Type} (x : α) (ts : List Tk) (d : Int) (f : α → List Tk → Int → Rs β) : (Rs.ok x ts d).thn f = f x ts d := rfl
theorem want_hd {α : Type} (k : Nat) (s : ByteArray) (a : Nat) (r : List Tk) (f : List Tk → Rs α) : want s ((k, s, a) :: r) f = f r := by
  unfold want; rw [isTx_hd, if_pos (by simp)]; rfl
theorem nameP_hd {α : Type} (s : ByteArray) (a : Nat) (r : List Tk) (f : ByteArray → List Tk → Rs α) : nameP ((1, s, a) :: r) f = f s r := by
  unfold nameP; rw [if_pos (by rfl)]; rfl
theorem isTx_no {k : Nat} {s t : ByteArray} {a : Nat} {r : List Tk} (h : s ≠ t) : ¬ isTx ((k, s, a) :: r) t = true := by rw [isTx_hd]; exact dec_no h
theorem isTx_yes (k : Nat) (s : ByteArray) (a : Nat) (r : List Tk) : isTx ((k, s, a) :: r) s = true := by rw [isTx_hd]; simp
/-- An assignment. -/
theorem asg_parse {nm : ByteArray} {ix : Fo} {v : Ex} (h1 : isN nm.data.toList = true) (h2 : ix.len ≤ 1) (h3 : ix.oks) (h4 : (v.row .nil).oks) {ts q : List Tk} (hk : ky ts = (1, nm) :: ((match foKx ix with | x :: _ => (5, tLb) :: (x.1 ++ [(5, tRb)]) | [] => []) ++ (5, tEq) :: (exK v ++ [(5, tSe)]))) (d : Int) :
    ∃ n d', stP n (ts ++ q) d = .ok ⟨1, nm, ix, v, exN, exN, .nil, .nil⟩ q d' := by
  obtain ⟨a, ts1, rfl, k1⟩ := ky_cons hk
  obtain ⟨ti, ts2, rfl, ki, k2⟩ := ky_app k1
  obtain ⟨b, ts3, rfl, k3⟩ := ky_cons k2
  obtain ⟨tv, ts4, rfl, kv, k4⟩ := ky_app k3
  obtain ⟨c, ts5, rfl, k5⟩ := ky_cons k4
  obtain rfl := ky_nil k5
  have st : ∀ n d', asgP n ((1, nm, a) :: (ti ++ (5, tEq, b) :: (tv ++ (5, tSe, c) :: q))) d = .ok ⟨1, nm, ix, v, exN, exN, .nil, .nil⟩ q d' → stP (n + 1) ((1, nm, a) :: (ti ++ (5, tEq, b) :: (tv ++ [(5, tSe, c)])) ++ q) d = .ok ⟨1, nm, ix, v, exN, exN, .nil, .nil⟩ q d' := fun n d' h => by
    have e : (1, nm, a) :: (ti ++ (5, tEq, b) :: (tv ++ [(5, tSe, c)])) ++ q = (1, nm, a) :: (ti ++ (5, tEq, b) :: (tv ++ (5, tSe, c) :: q)) := by simp
    rw [e, stP, if_neg (isTx_no (name_ne h1 (by decide +kernel))), if_neg (isTx_no (name_ne h1 (by decide +kernel))), if_neg (isTx_no (name_ne h1 (by decide +kernel)))]
    exact h
  rcases (show ix.len = 0 ∨ ix.len = 1 by omega) with e | e
  · obtain rfl := len0 e
    obtain rfl := ky_nil ki
    obtain ⟨n, d', hv⟩ := pz_ex h4 kv (r := (5, tSe, c) :: q) (by show (opOf tSe).1 = 0; decide) (by rw [isTx_hd]; decide) 0 d
    refine ⟨n + 1, d', st n d' ?_⟩
    unfold asgP
    rw [nameP_hd, List.nil_append, if_neg (isTx_no (by decide)), want_hd, hv, thn_ok, want_hd]
  · obtain ⟨x1, x2, x3, x4, rfl⟩ := len1 e
    obtain ⟨a2, ts6, rfl, k6⟩ := ky_cons ki
    obtain ⟨tx, ts7, rfl, kx, k7⟩ := ky_app k6
    obtain ⟨c2, ts8, rfl, k8⟩ := ky_cons k7
    obtain rfl := ky_nil k8
    have hx : ((⟨x1, x2, x3, x4⟩ : Ex).row .nil).oks := h3
    obtain ⟨m, d1, hm⟩ := pz_ex hx kx (r := (5, tRb, c2) :: (5, tEq, b) :: (tv ++ (5, tSe, c) :: q)) (by show (opOf tRb).1 = 0; decide) (by rw [isTx_hd]; decide) 0 d
    obtain ⟨n, d', hv⟩ := pz_ex h4 kv (r := (5, tSe, c) :: q) (by show (opOf tSe).1 = 0; decide) (by rw [isTx_hd]; decide) 0 d1
    refine ⟨max m n + 1, d', st (max m n) d' ?_⟩
    unfold asgP
    have e : (5, tLb, a2) :: (tx ++ [(5, tRb, c2)]) ++ (5, tEq, b) :: (tv ++ (5, tSe, c) :: q) = (5, tLb, a2) :: (tx ++ (5, tRb, c2) :: (5, tEq, b) :: (tv ++ (5, tSe, c) :: q)) := by simp
    rw [nameP_hd, e, isTx_yes, if_pos rfl, List.tail_cons, eP_up hm ok_nm (Nat.le_max_left m n), thn_ok, want_hd, want_hd, eP_up hv ok_nm (Nat.le_max_right m n), thn_ok, want_hd]; rfl
theorem read_parse {nm : ByteArray} {l h : Ex} (h1 : isN nm.data.toList = true) (h2 : (l.row .nil).oks) (h3 : isBd l = true) (h4 : (h.row .nil).oks) (h5 : isBd h = true) {ts q : List Tk} (hk : ky ts = (2, tRd) :: (1, nm) :: (2, tIn) :: (5, tLb) :: (exK l ++ (5, tCo) :: (exK h ++ [(5, tRb), (5, tSe)]))) (d : Int) :
    ∃ n d', stP n (ts ++ q) d = .ok ⟨2, nm, .nil, exN, l, h, .nil, .nil⟩ q d' := by
  obtain ⟨a, ts1, rfl, k1⟩ := ky_cons hk
  obtain ⟨b, ts2, rfl, k2⟩ := ky_cons k1
  obtain ⟨c, ts3, rfl, k3⟩ := ky_cons k2
  obtain ⟨a1, ts4, rfl, k4⟩ := ky_cons k3
  obtain ⟨tl, ts5, rfl, kl, k5⟩ := ky_app k4
  obtain ⟨b1, ts6, rfl, k6⟩ := ky_cons k5
  obtain ⟨th, ts7, rfl, kh, k7⟩ := ky_app k6
  obtain ⟨c1, ts8, rfl, k8⟩ := ky_cons k7
  obtain ⟨c2, ts9, rfl, k9⟩ := ky_cons k8
  obtain rfl := ky_nil k9
  refine ⟨1, d, ?_⟩
  have e : (2, tRd, a) :: (1, nm, b) :: (2, tIn, c) :: (5, tLb, a1) :: (tl ++ (5, tCo, b1) :: (th ++ [(5, tRb, c1), (5, tSe, c2)])) ++ q = (2, tRd, a) :: (1, nm, b) :: (2, tIn, c) :: (5, tLb, a1) :: (tl ++ (5, tCo, b1) :: (th ++ (5, tRb, c1) :: (5, tSe, c2) :: q)) := by simp
  rw [e, stP, isTx_yes, if_pos rfl, List.tail_cons]
  unfold readP
  rw [nameP_hd, want_hd, want_hd, bd_parse h2 h3 kl, thn_ok, want_hd, bd_parse h4 h5 kh, thn_ok, want_hd, want_hd]
theorem ps_so : ∀ f : So, f.oks → (∀ (ts : List Tk) (b : Nat) (r : List Tk) (d : Int), ky ts = soK f → ∃ n d', bsP n (ts ++ (5, tRc, b) :: r) d = .ok f r d') ∧
    (∀ (ts : List Tk) (a : Nat) (d : Int), ky ts = soK f → ∃ n d', ssP n (ts ++ [eT a]) d = .ok f [eT a] d')
  | .nil, _ => by
    refine ⟨fun ts b r d hk => ?_, fun ts a d hk => ?_⟩
    · rw [ky_nil hk]
      exact ⟨1, d, by rw [List.nil_append, bsP, isTx_yes, if_pos rfl]; rfl⟩
    · rw [ky_nil hk]
      exact ⟨1, d, by rw [List.nil_append, ssP, if_pos (by rfl)]⟩
  | .cons d0 nm ix v l h t e r, ho => by
    obtain ⟨it, _⟩ := ps_so t ho.2.1
    obtain ⟨ie, _⟩ := ps_so e ho.2.2.1
    obtain ⟨ir, is⟩ := ps_so r ho.2.2.2
    have one : ∀ (ts q : List Tk) (d : Int) (ks : List Kt), soK (.cons d0 nm ix v l h t e r) = ks ++ soK r → ky ts = ks → isTx q tEl = false → ∃ n d', stP n (ts ++ q) d = .ok ⟨d0, nm, ix, v, l, h, t, e⟩ q d' := by
      intro ts q d ks hks hk hq
      rw [soK] at hks
      have hks := List.append_cancel_right hks
      subst hks
      rcases ho.1 with ⟨rfl, h1, h2, h3, h4, rfl, rfl, rfl, rfl⟩ | ⟨rfl, h1, rfl, rfl, h2, h3, h4, h5, rfl, rfl⟩ | ⟨rfl, rfl, rfl, h1, rfl, rfl⟩ | ⟨rfl, rfl, rfl, h1, rfl, rfl, rfl⟩
      · rw [if_pos rfl] at hk
        rw [toL] at h1
        exact asg_parse h1 h2 h3 h4 hk d
      · rw [if_neg (by decide), if_pos rfl] at hk
        rw [toL] at h1
        exact read_parse h1 h2 h3 h4 h5 hk d
      · rw [if_neg (show ¬ (3 : Int) = 1 by decide), if_neg (show ¬ (3 : Int) = 2 by decide), if_pos (show (3 : Int) = 3 from rfl)] at hk
        obtain ⟨a, ts1, rfl, k1⟩ := ky_cons hk
        obtain ⟨b, ts2, rfl, k2⟩ := ky_cons k1
        obtain ⟨tv, ts3, rfl, kv, k3⟩ := ky_app k2
        obtain ⟨c, ts4, rfl, k4⟩ := ky_cons k3
        obtain ⟨a1, ts5, rfl, k5⟩ := ky_cons k4
        obtain ⟨tt, ts6, rfl, kt, k6⟩ := ky_app k5
        obtain ⟨b1, ts7, rfl, k7⟩ := ky_cons k6
        obtain ⟨n1, d1, x1⟩ := pz_encl h1 kv b c ((5, tLc, a1) :: (tt ++ (5, tRc, b1) :: (ts7 ++ q))) 0 d
        obtain ⟨n2, d2, x2⟩ := it tt b1 (ts7 ++ q) d1 kt
        have e2 : (2, tIf, a) :: (5, tLp, b) :: (tv ++ (5, tRp, c) :: (5, tLc, a1) :: (tt ++ (5, tRc, b1) :: ts7)) ++ q = (2, tIf, a) :: (5, tLp, b) :: (tv ++ (5, tRp, c) :: (5, tLc, a1) :: (tt ++ (5, tRc, b1) :: (ts7 ++ q))) := by simp
        rw [e2]
        by_cases z : e.len = 0
        · rw [if_pos z] at k7
          obtain rfl := ky_nil k7
          obtain rfl := so_len0 z
          refine ⟨max n1 (n2 + 1) + 1, d2, ?_⟩
          rw [stP, if_neg (isTx_no (by decide)), isTx_yes, if_pos rfl, List.tail_cons, cP_up x1 ok_nm (Nat.le_max_left _ _)]
          show (blP (max n1 (n2 + 1)) ((5, tLc, a1) :: (tt ++ (5, tRc, b1) :: ([] ++ q))) d1).thn _ = _
          obtain ⟨j, hj⟩ : ∃ j, max n1 (n2 + 1) = j + 1 := ⟨max n1 (n2 + 1) - 1, by omega⟩
          rw [hj, blP, want_hd, bsP_up x2 ok_nm (by omega)]
          show (if isTx ([] ++ q) tEl = true then _ else Rs.ok (⟨3, tx0, .nil, v, exN, exN, t, .nil⟩ : St) ([] ++ q) d2) = _
          rw [List.nil_append, hq]; rfl
        · rw [if_neg z] at k7
          obtain ⟨a2, us1, rfl, l1⟩ := ky_cons k7
          obtain ⟨b2, us2, rfl, l2⟩ := ky_cons l1
          obtain ⟨te, us3, rfl, le, l3⟩ := ky_app l2
          obtain ⟨c2, us4, rfl, l4⟩ := ky_cons l3
          obtain rfl := ky_nil l4
          obtain ⟨n3, d3, x3⟩ := ie te c2 q d2 le
          have e3 : (2, tEl, a2) :: (5, tLc, b2) :: (te ++ [(5, tRc, c2)]) ++ q = (2, tEl, a2) :: (5, tLc, b2) :: (te ++ (5, tRc, c2) :: q) := by simp
          rw [e3] at x1 x2 ⊢
          obtain ⟨j, j1, j2, j3⟩ : ∃ j, n1 ≤ j + 1 ∧ n2 ≤ j ∧ n3 ≤ j := ⟨n1 + n2 + n3, by omega, by omega, by omega⟩
          refine ⟨j + 2, d3, ?_⟩
          rw [stP, if_neg (isTx_no (by decide)), isTx_yes, if_pos rfl, List.tail_cons, cP_up x1 ok_nm j1]
          show (blP (j + 1) ((5, tLc, a1) :: (tt ++ (5, tRc, b1) :: ((2, tEl, a2) :: (5, tLc, b2) :: (te ++ (5, tRc, c2) :: q)))) d1).thn _ = _
          rw [blP, want_hd, bsP_up x2 ok_nm j2]
          show (if isTx ((2, tEl, a2) :: (5, tLc, b2) :: (te ++ (5, tRc, c2) :: q)) tEl = true then (blP (j + 1) ((5, tLc, b2) :: (te ++ (5, tRc, c2) :: q)) d2).thn (fun e ts d => Rs.ok (⟨3, tx0, .nil, v, exN, exN, t, e⟩ : St) ts d) else Rs.ok (⟨3, tx0, .nil, v, exN, exN, t, .nil⟩ : St) ((2, tEl, a2) :: (5, tLc, b2) :: (te ++ (5, tRc, c2) :: q)) d2) = _
          rw [isTx_yes, if_pos rfl, blP, want_hd, bsP_up x3 ok_nm j3]; rfl
      · rw [if_neg (show ¬ (4 : Int) = 1 by decide), if_neg (show ¬ (4 : Int) = 2 by decide), if_neg (show ¬ (4 : Int) = 3 by decide), if_pos (show (4 : Int) = 4 from rfl)] at hk
        obtain ⟨a, ts1, rfl, k1⟩ := ky_cons hk
        obtain ⟨b, ts2, rfl, k2⟩ := ky_cons k1
        obtain ⟨tv, ts3, rfl, kv, k3⟩ := ky_app k2
        obtain ⟨c, ts4, rfl, k4⟩ := ky_cons k3
        obtain ⟨a1, ts5, rfl, k5⟩ := ky_cons k4
        obtain ⟨tt, ts6, rfl, kt, k6⟩ := ky_app k5
        obtain ⟨b1, ts7, rfl, k7⟩ := ky_cons k6
        obtain rfl := ky_nil k7
        obtain ⟨n1, d1, x1⟩ := pz_encl h1 kv b c ((5, tLc, a1) :: (tt ++ (5, tRc, b1) :: q)) 0 d
        obtain ⟨n2, d2, x2⟩ := it tt b1 q d1 kt
        have e2 : (2, tWh, a) :: (5, tLp, b) :: (tv ++ (5, tRp, c) :: (5, tLc, a1) :: (tt ++ [(5, tRc, b1)])) ++ q = (2, tWh, a) :: (5, tLp, b) :: (tv ++ (5, tRp, c) :: (5, tLc, a1) :: (tt ++ (5, tRc, b1) :: q)) := by simp
        obtain ⟨j, j1, j2⟩ : ∃ j, n1 ≤ j + 1 ∧ n2 ≤ j := ⟨n1 + n2, by omega, by omega⟩
        refine ⟨j + 2, d2, ?_⟩
        rw [e2, stP, if_neg (isTx_no (by decide)), if_neg (isTx_no (by decide)), isTx_yes, if_pos rfl, List.tail_cons, cP_up x1 ok_nm j1]
        show (blP (j + 1) ((5, tLc, a1) :: (tt ++ (5, tRc, b1) :: q)) d1).thn _ = _
        rw [blP, want_hd, bsP_up x2 ok_nm j2]; rfl
    obtain ⟨k0, s0, q0, eb, hb⟩ := so_bg ho
    refine ⟨fun ts b q d hk => ?_, fun ts a d hk => ?_⟩
    · have hk2 := hk
      rw [soK] at hk2
      obtain ⟨t1, t2, rfl, k1, k2⟩ := ky_app hk2
      obtain ⟨n1, d1, x1⟩ := one t1 (t2 ++ (5, tRc, b) :: q) d _ (by rw [soK]) k1 (so_no ho.2.2.2 k2 (by decide +kernel) (by decide) (by decide) (by decide) (by rw [isTx_hd]; decide))
      obtain ⟨n2, d2, x2⟩ := ir t2 b q d1 k2
      refine ⟨max n1 n2 + 1, d2, ?_⟩
      have g : isTx (t1 ++ t2 ++ (5, tRc, b) :: q) tRc = false := by
        rw [eb] at hk
        obtain ⟨a, ts', e3, _⟩ := ky_cons hk
        rw [e3, List.cons_append, isTx_hd]
        exact hb.no (by decide +kernel) (by decide) (by decide) (by decide)
      rw [bsP, g, if_neg (by decide), List.append_assoc, stP_up x1 ok_nm (Nat.le_max_left _ _)]
      show (bsP (max n1 n2) (t2 ++ (5, tRc, b) :: q) d1).thn _ = _
      rw [bsP_up x2 ok_nm (Nat.le_max_right _ _)]; rfl
    · have hk2 := hk
      rw [soK] at hk2
      obtain ⟨t1, t2, rfl, k1, k2⟩ := ky_app hk2
      obtain ⟨n1, d1, x1⟩ := one t1 (t2 ++ [eT a]) d _ (by rw [soK]) k1 (so_no ho.2.2.2 k2 (by decide +kernel) (by decide) (by decide) (by decide) (by rw [isTx_hd]; decide))
      obtain ⟨n2, d2, x2⟩ := is t2 a d1 k2
      refine ⟨max n1 n2 + 1, d2, ?_⟩
      have g : ¬ (hd (t1 ++ t2 ++ [eT a])).1 = 0 := by
        rw [eb] at hk
        obtain ⟨a', ts', e3, _⟩ := ky_cons hk
        rw [e3, List.cons_append]
        show ¬ k0 = 0
        rcases hb with ⟨h, _⟩ | ⟨h, _⟩ <;> omega
      rw [ssP, if_neg g, List.append_assoc, stP_up x1 ok_nm (Nat.le_max_left _ _)]
      show (ssP (max n1 n2) (t2 ++ [eT a]) d1).thn _ = _
      rw [ssP_up x2 ok_nm (Nat.le_max_right _ _)]; rfl
end Go.Proofs.YtknoibocpbfmmaaGreatDoor

