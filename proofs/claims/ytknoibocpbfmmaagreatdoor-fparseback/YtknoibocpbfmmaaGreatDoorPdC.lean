/- A printed expression's text is its tokens. -/
import Derived.Test.YtknoibocpbfmmaaGreatDoorPdB
namespace Go.Proofs.YtknoibocpbfmmaaGreatDoor
set_option linter.unusedVariables false
set_option linter.unusedSimpArgs false
def AllX (P : Int → ByteArray → Int → Fo → Prop) : Fo → Prop
  | .nil => True
  | .cons op tx ty ks r => P op tx ty ks ∧ AllX P r
theorem allX_of {P : Int → ByteArray → Int → Fo → Prop} (step : ∀ op tx ty ks, exOk op tx ty ks.len = true → ks.oks → AllX P ks → P op tx ty ks) : ∀ f : Fo, f.oks → AllX P f
  | .nil, _ => trivial
  | .cons op tx ty ks r, h => ⟨step op tx ty ks h.1 h.2.1 (allX_of step ks h.2.1), allX_of step r h.2.2⟩
def kL (ks : List Kt) : List (Nat × List UInt8) := ks.map (fun x => (x.1, x.2.data.toList))
theorem kL_app (a b : List Kt) : kL (a ++ b) = kL a ++ kL b := List.map_append
theorem kL_cons (a : Kt) (b : List Kt) : kL (a :: b) = (a.1, a.2.data.toList) :: kL b := rfl
/-- A text is those tokens, wherever a number or a name may end, and begins with no =. -/
def Rd (t : ByteArray) (k : List Kt) : Prop := Tox t.data.toList (kL k) Br ∧ ∃ b l, t.data.toList = b :: l ∧ b ≠ 61
theorem br_of {b : UInt8} (h : kb b.toNat &&& 14 = 0 ∧ b ≠ 46 ∧ b ≠ 61) (r : List UInt8) : Br (b :: r) := fun c hc => by cases hc; exact h
theorem br_rp (r : List UInt8) : Br (41 :: r) := br_of (by decide) r
theorem br_rb (r : List UInt8) : Br (93 :: r) := br_of (by decide) r
theorem br_lb (r : List UInt8) : Br (91 :: r) := br_of (by decide) r
theorem br_lp (r : List UInt8) : Br (40 :: r) := br_of (by decide) r
theorem br_sp (r : List UInt8) : Br (32 :: r) := br_of (by decide) r
theorem br_se (r : List UInt8) : Br (59 :: r) := br_of (by decide) r
theorem br_co (r : List UInt8) : Br (44 :: r) := br_of (by decide) r
theorem s2_no {c b : UInt8} (h : c ≠ 61 ∧ c ≠ 33 ∧ c ≠ 60 ∧ c ≠ 62 ∧ c ≠ 38 ∧ c ≠ 124) : isS2 [c, b] = false := by
  unfold isS2
  simp [h.1, h.2.1, h.2.2.1, h.2.2.2.1, h.2.2.2.2.1, h.2.2.2.2.2]
theorem lt_lp : Tox [40] [(5, [40])] Any8 := lt_s1 (by decide) fun _ _ _ _ => s2_no (by decide)
theorem lt_rp : Tox [41] [(5, [41])] Any8 := lt_s1 (by decide) fun _ _ _ _ => s2_no (by decide)
theorem lt_lb : Tox [91] [(5, [91])] Any8 := lt_s1 (by decide) fun _ _ _ _ => s2_no (by decide)
theorem lt_rb : Tox [93] [(5, [93])] Any8 := lt_s1 (by decide) fun _ _ _ _ => s2_no (by decide)
theorem lt_lc : Tox [123] [(5, [123])] Any8 := lt_s1 (by decide) fun _ _ _ _ => s2_no (by decide)
theorem lt_rc : Tox [125] [(5, [125])] Any8 := lt_s1 (by decide) fun _ _ _ _ => s2_no (by decide)
theorem lt_se : Tox [59] [(5, [59])] Any8 := lt_s1 (by decide) fun _ _ _ _ => s2_no (by decide)
theorem lt_co : Tox [44] [(5, [44])] Any8 := lt_s1 (by decide) fun _ _ _ _ => s2_no (by decide)
theorem lt_mi : Tox [45] [(5, [45])] Any8 := lt_s1 (by decide) fun _ _ _ _ => s2_no (by decide)
theorem lt_no : Tox [33] [(5, [33])] Nq := lt_s1 (by decide) fun r hr b hb => by
  have := hr b hb
  unfold isS2
  simp [this]
theorem lt_eq : Tox [61] [(5, [61])] Nq := lt_s1 (by decide) fun r hr b hb => by
  have := hr b hb
  unfold isS2
  simp [this]
/-- A text that ends with a sign, behind one that is broken by it. -/
theorem Tox.sign {T : List UInt8} {ts : List (Nat × List UInt8)} (h : Tox T ts Br) {c : UInt8} {us : List (Nat × List UInt8)} (k : Tox [c] us Any8) (hc : ∀ r, Br (c :: r)) : Tox (T ++ [c]) (ts ++ us) Any8 := h.app k fun r _ => hc r
theorem rd_par {t : ByteArray} {k : List Kt} (h : Rd t k) : Rd (tLp ++ t ++ tRp) ((5, tLp) :: (k ++ [(5, tRp)])) := by
  refine ⟨?_, 40, t.data.toList ++ [41], by simp [L_app], by decide⟩
  have := (lt_lp.app (h.1.sign lt_rp br_rp) (fun _ _ => trivial)).weak (D := Br) fun _ _ => trivial
  simpa [L_app, kL] using this
theorem rd_kid {t : ByteArray} {k : List Kt} (h : Rd t k) (lv o : Int) : Rd (kdT lv (t, o)) (kdK lv (k, o)) := by
  unfold kdT kdK
  split
  · exact rd_par h
  · exact h
theorem nq_app {t : ByteArray} (h : ∃ b l, t.data.toList = b :: l ∧ b ≠ 61) (r : List UInt8) : Nq (t.data.toList ++ r) := by
  obtain ⟨b, l, e, hb⟩ := h
  rw [e]
  intro c hc
  cases hc; exact hb
theorem op_range {op : Int} (h : 8 ≤ op ∧ op ≤ 19) : op = 8 ∨ op = 9 ∨ op = 10 ∨ op = 11 ∨ op = 12 ∨ op = 13 ∨ op = 14 ∨ op = 15 ∨ op = 16 ∨ op = 17 ∨ op = 18 ∨ op = 19 := by omega
/-- A blank, an operator, a blank. -/
theorem lt_op {op : Int} (h : 8 ≤ op ∧ op ≤ 19) : Tox (tSp ++ (ofT op).2.1 ++ tSp).data.toList (kL [(5, (ofT op).2.1)]) Any8 := by
  have one : ∀ c : UInt8, isS1 c.toNat = true → isS2 [c, 32] = false → Tox ([32] ++ ([c] ++ [32])) [(5, [c])] Any8 := fun c h1 h2 => by
    have := lt_32.app ((lt_s1 (C := fun r => r.head? = some 32) h1 (fun r hr b hb => by rw [hr] at hb; cases hb; exact h2)).app lt_32 (fun r _ => rfl)) (fun _ _ => trivial)
    simpa using this
  have two : ∀ c d : UInt8, isS2 [c, d] = true → kb c.toNat = 16 → Tox ([32] ++ ([c, d] ++ [32])) [(5, [c, d])] Any8 := fun c d h1 h2 => by
    have := lt_32.app ((lt_s2 h1 h2).app lt_32 (fun _ _ => trivial)) (fun _ _ => trivial)
    simpa using this
  rcases op_range h with rfl | rfl | rfl | rfl | rfl | rfl | rfl | rfl | rfl | rfl | rfl | rfl
  · exact one 43 (by decide) (by decide)
  · exact one 45 (by decide) (by decide)
  · exact one 42 (by decide) (by decide)
  · exact one 47 (by decide) (by decide)
  · exact one 60 (by decide) (by decide)
  · exact two 60 61 (by decide) (by decide)
  · exact one 62 (by decide) (by decide)
  · exact two 62 61 (by decide) (by decide)
  · exact two 61 61 (by decide) (by decide)
  · exact two 33 61 (by decide) (by decide)
  · exact two 38 38 (by decide) (by decide)
  · exact two 124 124 (by decide) (by decide)
theorem rd_call {w t : ByteArray} {k : List Kt} (hw : isW w.data.toList = true) (h : Rd t k) : Rd (w ++ tLp ++ t ++ tRp) ((2, w) :: (5, tLp) :: (k ++ [(5, tRp)])) := by
  obtain ⟨h2, _⟩ := isW_cases hw
  have z := (rd_par h).1
  constructor
  · have := (lt_word hw).app z (fun r hr => by
      simp only [L_app]
      exact br_lp _)
    simpa [L_app, kL] using this
  · obtain ⟨b, l, e⟩ : ∃ b l, w.data.toList = b :: l := by
      cases c : w.data.toList with
      | nil => rw [c] at h2; cases h2
      | cons b l => exact ⟨b, l, rfl⟩
    refine ⟨b, l ++ 40 :: (t.data.toList ++ [41]), by simp [L_app, e], fun q => ?_⟩
    subst q
    rw [e] at h2
    unfold cnt at h2
    rw [if_pos (by decide)] at h2
    cases h2
theorem name_head {s : ByteArray} (h : isN s.data.toList = true) : ∃ b l, s.data.toList = b :: l ∧ b ≠ 61 := by
  obtain ⟨h2, _⟩ := isN_cases h
  cases c : s.data.toList with
  | nil => rw [c] at h2; cases h2
  | cons b l =>
    refine ⟨b, l, rfl, fun q => ?_⟩
    subst q
    rw [c] at h2
    unfold cnt at h2
    rw [if_pos (by decide)] at h2
    cases h2
theorem rd_all : ∀ f : Fo, f.oks → AllX (fun op tx ty ks => Rd (exTx op tx ty (foTx ks)) (exKx op tx ty (foKx ks))) f := allX_of fun op tx ty ks hk ho ih => by
  rcases ok_cases hk with ⟨rfl, hn, rfl, h0⟩ | ⟨rfl, hn, rfl, h0⟩ | ⟨rfl, hn, rfl, h1⟩ | ⟨rfl, rfl, ht, h1⟩ | ⟨hop, rfl, rfl, h1⟩ | ⟨hop, rfl, rfl, h2⟩
  · obtain rfl := len0 h0
    obtain ⟨k, hk, ht, h0⟩ := num_tok hn
    have e : exTx 1 tx 0 (foTx .nil) = tx ++ tx0 := rfl
    have e2 : exKx 1 tx 0 (foKx .nil) = [((tok tx.data.toList).1, tx)] := rfl
    rw [e, e2, ht]
    refine ⟨by simpa [L_app, kL] using lt_num hk ht h0, ?_⟩
    cases c : tx.data.toList with
    | nil => exact absurd c h0
    | cons b l =>
      refine ⟨b, l, by simp [L_app, c], fun q => ?_⟩
      subst q
      rw [c] at ht
      have n1 : tok (61 :: l) = (5, sgnN (61 :: l)) := by
        unfold tok
        have z : ∀ m : Nat, 16 &&& m = 0 → cnt m (61 :: l) = 0 := fun m hm => by unfold cnt; rw [if_pos (by rw [show kb (61 : UInt8).toNat = 16 by decide]; exact hm)]
        rw [z 2 (by decide), z 4 (by decide), if_neg (by decide), if_neg (by decide), if_pos]
        unfold sgnN
        split
        · decide
        · rw [if_pos ⟨by simp, by show isS1 ((61 : UInt8).toNat : Int) = true; decide⟩]; decide
      rw [n1] at ht
      have := (Prod.mk.inj ht).1
      omega
  · obtain rfl := len0 h0
    rw [toL] at hn
    have e : exTx 2 tx 0 (foTx .nil) = tx ++ tx0 := rfl
    have e2 : exKx 2 tx 0 (foKx .nil) = [(1, tx)] := rfl
    rw [e, e2]
    obtain ⟨b, l, q, hb⟩ := name_head hn
    exact ⟨by simpa [L_app, kL] using lt_name hn, b, l, by simp [L_app, q], hb⟩
  · obtain ⟨a, b, c, k, rfl⟩ := len1 h1
    rw [toL] at hn
    have h := ih.1
    have e : exTx 3 tx 0 (foTx (.cons a b c k .nil)) = tx ++ (tx0 ++ (tLb ++ exTx a b c (foTx k) ++ tRb)) := rfl
    have e2 : exKx 3 tx 0 (foKx (.cons a b c k .nil)) = (1, tx) :: (5, tLb) :: (exKx a b c (foKx k) ++ [(5, tRb)]) := rfl
    rw [e, e2]
    obtain ⟨b', l, q, hb⟩ := name_head hn
    refine ⟨?_, b', l ++ _, by rw [L_app, q, List.cons_append], hb⟩
    have := ((lt_name hn).app (lt_lb.app (h.1.sign lt_rb br_rb) (fun _ _ => trivial)) (fun r _ => br_lb _)).weak (D := Br) fun _ _ => trivial
    simpa [L_app, kL] using this
  · obtain ⟨a, b, c, k, rfl⟩ := len1 h1
    have h := ih.1
    have e : exTx 7 tx0 ty (foTx (.cons a b c k .nil)) = wdOf ty ++ tLp ++ exTx a b c (foTx k) ++ tRp := rfl
    have e2 : exKx 7 tx0 ty (foKx (.cons a b c k .nil)) = (2, wdOf ty) :: (5, tLp) :: (exKx a b c (foKx k) ++ [(5, tRp)]) := rfl
    rw [e, e2]
    exact rd_call (by rcases (show ty = 1 ∨ ty = 2 ∨ ty = 3 by omega) with rfl | rfl | rfl <;> decide) h
  · obtain ⟨a, b, c, k, rfl⟩ := len1 h1
    have h := ih.1
    rcases hop with rfl | rfl | rfl | rfl
    · have h2 := rd_kid h 5 a
      have e : exTx 4 tx0 0 (foTx (.cons a b c k .nil)) = tMi ++ kdT 5 (exTx a b c (foTx k), a) := rfl
      have e2 : exKx 4 tx0 0 (foKx (.cons a b c k .nil)) = (5, tMi) :: kdK 5 (exKx a b c (foKx k), a) := rfl
      rw [e, e2]
      exact ⟨by simpa [L_app, kL] using lt_mi.app h2.1 (fun _ _ => trivial), 45, _, by rw [L_app]; rfl, by decide⟩
    · have h2 := rd_kid h 5 a
      have e : exTx 20 tx0 0 (foTx (.cons a b c k .nil)) = tNo ++ kdT 5 (exTx a b c (foTx k), a) := rfl
      have e2 : exKx 20 tx0 0 (foKx (.cons a b c k .nil)) = (5, tNo) :: kdK 5 (exKx a b c (foKx k), a) := rfl
      rw [e, e2]
      exact ⟨by simpa [L_app, kL] using lt_no.app h2.1 (fun r _ => nq_app h2.2 r), 33, _, by rw [L_app]; rfl, by decide⟩
    · have e : exTx 5 tx0 0 (foTx (.cons a b c k .nil)) = tAb ++ tLp ++ exTx a b c (foTx k) ++ tRp := rfl
      have e2 : exKx 5 tx0 0 (foKx (.cons a b c k .nil)) = (2, tAb) :: (5, tLp) :: (exKx a b c (foKx k) ++ [(5, tRp)]) := rfl
      rw [e, e2]
      exact rd_call (by decide) h
    · have e : exTx 6 tx0 0 (foTx (.cons a b c k .nil)) = tSq ++ tLp ++ exTx a b c (foTx k) ++ tRp := rfl
      have e2 : exKx 6 tx0 0 (foKx (.cons a b c k .nil)) = (2, tSq) :: (5, tLp) :: (exKx a b c (foKx k) ++ [(5, tRp)]) := rfl
      rw [e, e2]
      exact rd_call (by decide) h
  · obtain ⟨a, b, c, k, a', b', c', k', rfl⟩ := len2 h2
    have x := rd_kid ih.1 (ofT op).2.2 a
    have y := rd_kid ih.2.1 ((ofT op).2.2 + 1) a'
    have nn : ¬ (op = 1 ∨ op = 2 ∨ op = 3) ∧ ¬ op = 4 ∧ ¬ op = 20 ∧ ¬ op = 5 ∧ ¬ op = 6 ∧ ¬ op = 7 := by omega
    have e : exTx op tx0 0 (foTx (.cons a b c k (.cons a' b' c' k' .nil))) = kdT (ofT op).2.2 (exTx a b c (foTx k), a) ++ tSp ++ (ofT op).2.1 ++ tSp ++ kdT ((ofT op).2.2 + 1) (exTx a' b' c' (foTx k'), a') := by
      unfold exTx
      rw [if_neg nn.1, if_neg nn.2.1, if_neg nn.2.2.1, if_neg nn.2.2.2.1, if_neg nn.2.2.2.2.1, if_neg nn.2.2.2.2.2]; rfl
    have e2 : exKx op tx0 0 (foKx (.cons a b c k (.cons a' b' c' k' .nil))) = kdK (ofT op).2.2 (exKx a b c (foKx k), a) ++ (5, (ofT op).2.1) :: kdK ((ofT op).2.2 + 1) (exKx a' b' c' (foKx k'), a') := by
      unfold exKx
      rw [if_neg (by omega), if_neg (by omega), if_neg (by omega), if_neg nn.2.1, if_neg nn.2.2.1, if_neg nn.2.2.2.1, if_neg nn.2.2.2.2.1, if_neg nn.2.2.2.2.2]; rfl
    rw [e, e2]
    obtain ⟨b1, l1, q, hb⟩ := x.2
    refine ⟨?_, b1, l1 ++ _, by simp only [L_app, q, List.cons_append, List.append_assoc]; rfl, hb⟩
    have := x.1.app ((lt_op hop).app y.1 (fun _ _ => trivial)) (fun r _ => by
      simp only [L_app]
      exact br_sp _)
    simpa [L_app, kL] using this
theorem rd_ex {e : Ex} (h : (e.row .nil).oks) : Rd (exT e) (exK e) := (rd_all _ h).1
end Go.Proofs.YtknoibocpbfmmaaGreatDoor

