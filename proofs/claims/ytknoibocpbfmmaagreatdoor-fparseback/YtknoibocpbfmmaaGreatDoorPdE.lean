/- Every right expression's tokens are parsed as itself. -/
import Derived.Test.YtknoibocpbfmmaaGreatDoorPdD
namespace Go.Proofs.YtknoibocpbfmmaaGreatDoor
set_option linter.unusedVariables false
set_option linter.unusedSimpArgs false
theorem op_lev {op : Int} (h : 8 ≤ op ∧ op ≤ 19) : opOf (ofT op).2.1 = (op, lev op) ∧ lev op ≤ 4 := by
  rcases op_range h with rfl | rfl | rfl | rfl | rfl | rfl | rfl | rfl | rfl | rfl | rfl | rfl <;> decide
theorem num_kind {s : ByteArray} (h : isNum s = true) : (tok s.data.toList).1 = 3 ∨ (tok s.data.toList).1 = 4 := by
  obtain ⟨k, hk, ht, _⟩ := num_tok h
  rw [ht]; exact hk
theorem num_txt {s : ByteArray} (h : isNum s = true) : ∃ b l, s.data.toList = b :: l ∧ 48 ≤ b.toNat ∧ b.toNat ≤ 57 := by
  obtain ⟨k, hk, ht, h0⟩ := num_tok h
  cases c : s.data.toList with
  | nil => exact absurd c h0
  | cons b l =>
    refine ⟨b, l, rfl, ?_⟩
    rw [c] at ht
    have n4 : 0 < cnt 4 (b :: l) := by
      unfold tok at ht
      split at ht
      · unfold wonL at ht
        split at ht
        · have := (Prod.mk.inj ht).1; omega
        · split at ht
          · have := (Prod.mk.inj ht).1; omega
          · have := (Prod.mk.inj ht).1; omega
      · split at ht
        · rename_i _ q; exact q
        · split at ht
          · have := (Prod.mk.inj ht).1; omega
          · have := (Prod.mk.inj ht).1; omega
    unfold cnt at n4
    split at n4
    · cases n4
    · rename_i q
      unfold kb at q
      split at q
      · exact absurd rfl q
      · split at q
        · exact absurd rfl q
        · split at q
          · rename_i z; exact z
          · split at q <;> exact absurd rfl q
/-- A number is no word, no sign, no type. -/
theorem num_ne {s : ByteArray} (h : isNum s = true) {t : ByteArray} (ht : ¬ (48 ≤ (t.data.toList.headD 0).toNat ∧ (t.data.toList.headD 0).toNat ≤ 57)) : s ≠ t := fun e => by
  obtain ⟨b, l, q, hb⟩ := num_txt h
  rw [e] at q
  rw [q] at ht
  exact ht hb
theorem tyOf_zero {s : ByteArray} (h1 : s ≠ ⟨#[105, 110, 116]⟩) (h2 : s ≠ ⟨#[102, 108, 111, 97, 116]⟩) (h3 : s ≠ ⟨#[100, 111, 117, 98, 108, 101]⟩) : tyOf s = 0 := by
  unfold tyOf; rw [if_neg h1, if_neg h2, if_neg h3]
theorem name_ne {s t : ByteArray} (h : isN s.data.toList = true) (ht : isN t.data.toList = false) : s ≠ t := fun e => by rw [e, ht] at h; cases h
theorem name_ty {s : ByteArray} (h : isN s.data.toList = true) : tyOf s = 0 := tyOf_zero (name_ne h (by decide +kernel)) (name_ne h (by decide +kernel)) (name_ne h (by decide +kernel))
theorem dec_no {s t : ByteArray} (h : s ≠ t) : ¬ decide (s = t) = true := by simpa using h
theorem qz_num {tx : ByteArray} (h : isNum tx = true) : Qz1 ⟨1, tx, 0, .nil⟩ [((tok tx.data.toList).1, tx)] := by
  intro ts r hk hr o d
  obtain ⟨a, ts', rfl, hk1⟩ := ky_cons hk
  obtain rfl := ky_nil hk1
  have k34 := num_kind h
  refine ⟨2, d, ?_⟩
  rw [List.cons_append, List.nil_append, sP, isTx_hd, if_neg (dec_no (num_ne h (by decide))), isTx_hd, if_neg (dec_no (num_ne h (by decide))), gP]
  rw [if_neg (by
    show ¬ tyOf tx ≠ 0
    rw [tyOf_zero (num_ne h (by decide)) (num_ne h (by decide)) (num_ne h (by decide))]; exact fun h => h rfl)]
  rw [if_neg (by show ¬ (tok tx.data.toList).1 = 1; omega), isTx_hd, if_neg (dec_no (num_ne h (by decide))), isTx_hd, if_neg (dec_no (num_ne h (by decide))), isTx_hd, if_neg (dec_no (num_ne h (by decide)))]
  unfold numP
  rw [if_pos (by exact k34)]
  rfl
theorem qz_var {tx : ByteArray} (h : isN tx.data.toList = true) : Qz1 ⟨2, tx, 0, .nil⟩ [(1, tx)] := by
  intro ts r hk hr o d
  obtain ⟨a, ts', rfl, hk1⟩ := ky_cons hk
  obtain rfl := ky_nil hk1
  refine ⟨3, d, ?_⟩
  rw [List.cons_append, List.nil_append, sP, isTx_hd, if_neg (dec_no (name_ne h (by decide +kernel))), isTx_hd, if_neg (dec_no (name_ne h (by decide +kernel))), gP]
  rw [if_neg (by
    show ¬ tyOf tx ≠ 0
    rw [name_ty h]; exact fun h => h rfl)]
  rw [if_pos (by rfl), vP, if_pos (by rfl), List.tail_cons, hr]
  rfl
theorem qz_cell {tx : ByteArray} (h : isN tx.data.toList = true) {e : Ex} (he : Pz e) : Qz1 ⟨3, tx, 0, e.row .nil⟩ ((1, tx) :: (5, tLb) :: (exK e ++ [(5, tRb)])) := by
  intro ts r hk hr o d
  obtain ⟨a, ts', rfl, hk1⟩ := ky_cons hk
  obtain ⟨b, ts', rfl, hk2⟩ := ky_cons hk1
  obtain ⟨t1, t2, rfl, h1, h2⟩ := ky_app hk2
  obtain ⟨c, t3, rfl, h3⟩ := ky_cons h2
  obtain rfl := ky_nil h3
  have af : Af (lev e.op) ((5, tRb, c) :: r) := ⟨Or.inl (by show (opOf tRb).1 = 0; decide), by rw [isTx_hd]; decide⟩
  obtain ⟨d', hx⟩ := he t1 ((5, tRb, c) :: r) h1 af 0 o d (lev_range e.op).1
  obtain ⟨n, hn⟩ := hx 1 _ (lP_stop (Or.inl (by show (opOf tRb).1 = 0; decide)) 0) ok_nm
  refine ⟨n + 3, d', ?_⟩
  have e1 : (1, tx, a) :: (5, tLb, b) :: (t1 ++ [(5, tRb, c)]) ++ r = (1, tx, a) :: (5, tLb, b) :: (t1 ++ (5, tRb, c) :: r) := by simp
  rw [e1, sP, isTx_hd, if_neg (dec_no (name_ne h (by decide +kernel))), isTx_hd, if_neg (dec_no (name_ne h (by decide +kernel))), gP]
  rw [if_neg (by
    show ¬ tyOf tx ≠ 0
    rw [name_ty h]; exact fun h => h rfl)]
  rw [if_pos (by rfl), vP, if_pos (by rfl), List.tail_cons, isTx_hd, if_pos (by decide), List.tail_cons, hn]
  show (if isTx ((5, tRb, c) :: r) tRb = true then Rs.ok (⟨3, tx, 0, e.row .nil⟩ : Ex) r d' else Rs.bad c) = _
  rw [isTx_hd, if_pos (by decide)]
theorem qz_call {e : Ex} (he : Pz e) (op : Int) (w : ByteArray) (hw : op = 5 ∧ w = tAb ∨ op = 6 ∧ w = tSq) : Qz1 ⟨op, tx0, 0, e.row .nil⟩ ((2, w) :: (5, tLp) :: (exK e ++ [(5, tRp)])) := by
  intro ts r hk hr o d
  obtain ⟨a, ts', rfl, hk1⟩ := ky_cons hk
  obtain ⟨n, d', hn⟩ := gP_call he (lev_range e.op).1 rfl (r := r) hk1 o d
  refine ⟨n + 2, d', ?_⟩
  rcases hw with ⟨rfl, rfl⟩ | ⟨rfl, rfl⟩
  · rw [List.cons_append, sP, isTx_hd, if_neg (by decide), isTx_hd, if_neg (by decide), gP]
    rw [if_neg (by show ¬ tyOf tAb ≠ 0; decide), if_neg (by show ¬ (2 : Nat) = 1; decide), isTx_hd, if_neg (by decide), isTx_hd, if_pos (by decide), List.tail_cons, hn]; rfl
  · rw [List.cons_append, sP, isTx_hd, if_neg (by decide), isTx_hd, if_neg (by decide), gP]
    rw [if_neg (by show ¬ tyOf tSq ≠ 0; decide), if_neg (by show ¬ (2 : Nat) = 1; decide), isTx_hd, if_pos (by decide), List.tail_cons, hn]; rfl
theorem qz_cast {e : Ex} (he : Pz e) (ty : Int) (hw : 1 ≤ ty ∧ ty ≤ 3) : Qz1 ⟨7, tx0, ty, e.row .nil⟩ ((2, wdOf ty) :: (5, tLp) :: (exK e ++ [(5, tRp)])) := by
  intro ts r hk hr o d
  obtain ⟨a, ts', rfl, hk1⟩ := ky_cons hk
  obtain ⟨n, d', hn⟩ := gP_call he (lev_range e.op).1 rfl (r := r) hk1 o d
  refine ⟨n + 2, d', ?_⟩
  have et : tyOf (wdOf ty) = ty ∧ wdOf ty ≠ tMi ∧ wdOf ty ≠ tNo := by rcases (show ty = 1 ∨ ty = 2 ∨ ty = 3 by omega) with rfl | rfl | rfl <;> decide
  rw [List.cons_append, sP, isTx_hd, if_neg (dec_no et.2.1), isTx_hd, if_neg (dec_no et.2.2), gP]
  rw [if_pos (by show tyOf (wdOf ty) ≠ 0; rw [et.1]; omega), if_pos (by rfl), List.tail_cons, hn]
  show Rs.ok (⟨7, tx0, tyOf (wdOf ty), e.row .nil⟩ : Ex) r d' = _
  rw [et.1]
theorem qz_sign {e : Ex} (he : Pz e) (q : lev e.op = 5 → Qz1 e (exK e)) (op : Int) (w : ByteArray) (hw : op = 4 ∧ w = tMi ∨ op = 20 ∧ w = tNo) : Qz1 ⟨op, tx0, 0, e.row .nil⟩ ((5, w) :: kdK 5 (exK e, e.op)) := by
  intro ts r hk hr o d
  obtain ⟨a, ts', rfl, hk1⟩ := ky_cons hk
  obtain ⟨n, d', hn⟩ := qz_kid he q ts' r hk1 hr o d
  refine ⟨n + 1, d', ?_⟩
  rcases hw with ⟨rfl, rfl⟩ | ⟨rfl, rfl⟩
  · rw [List.cons_append, sP, isTx_hd, if_pos (by decide), List.tail_cons, hn]; rfl
  · rw [List.cons_append, sP, isTx_hd, if_neg (by decide), isTx_hd, if_pos (by decide), List.tail_cons, hn]; rfl
theorem pz_two {e f : Ex} (he : Pz e) (hf : Pz f) {op : Int} (hop : 8 ≤ op ∧ op ≤ 19) {ks : List Kt} (hks : ks = kdK (ofT op).2.2 (exK e, e.op) ++ (5, (ofT op).2.1) :: kdK ((ofT op).2.2 + 1) (exK f, f.op)) :
    ∀ (ts r : List Tk), ky ts = ks → Af (lev op) r → ∀ (lv o d : Int), lv ≤ lev op → ∃ d', ∀ (m : Nat) (R : Rs Ex), lP m lv o ⟨op, tx0, 0, e.row (f.row .nil)⟩ r d' = R → R ≠ .more → ∃ n, eP n lv o (ts ++ r) d = R := by
  subst hks
  intro ts r hk af lv o d hl
  obtain ⟨t1, t2, rfl, h1, h2⟩ := ky_app hk
  obtain ⟨c, t3, rfl, h3⟩ := ky_cons h2
  have ol := op_lev hop
  obtain ⟨d1, hx⟩ := pz_kid he (ofT op).2.2 (r := (5, (ofT op).2.1, c) :: (t3 ++ r)) h1 (Or.inr (by show (opOf (ofT op).2.1).2 ≤ _; rw [ol.1]; exact Int.le_refl _)) (by
    rw [isTx_hd]
    rcases op_range hop with rfl | rfl | rfl | rfl | rfl | rfl | rfl | rfl | rfl | rfl | rfl | rfl <;> decide) lv o d hl
  obtain ⟨d2, hy⟩ := pz_kid hf ((ofT op).2.2 + 1) (r := r) h3 (af.op.imp id fun a => Int.le_trans a (by show lev op ≤ lev op + 1; omega)) af.lb (lev op + 1) o d1 (Int.le_refl _)
  obtain ⟨n2, hn2⟩ := hy 1 _ (lP_stop (af.op.imp id fun a => by omega) 0) ok_nm
  refine ⟨d2, fun m R hm hR => ?_⟩
  obtain ⟨n, hn⟩ := hx (max n2 m + 1) R (by
    rw [lP, if_neg (by
      show ¬ ((opOf (ofT op).2.1).1 = 0 ∨ (opOf (ofT op).2.1).2 < lv)
      rw [ol.1]
      show ¬ (op = 0 ∨ lev op < lv)
      omega)]
    show (eP (max n2 m) ((opOf (ofT op).2.1).2 + 1) o (t3 ++ r) d1).thn (fun q us d => lP (max n2 m) lv o (over2 (opOf (ofT op).2.1).1 e q) us d) = R
    rw [ol.1]
    show (eP (max n2 m) (lev op + 1) o (t3 ++ r) d1).thn (fun q us d => lP (max n2 m) lv o (over2 op e q) us d) = R
    rw [eP_up hn2 ok_nm (Nat.le_max_left n2 m)]
    exact lP_up hm hR (Nat.le_max_right n2 m)) hR
  exact ⟨n, by rw [← hn]; simp⟩
/-- Every right expression's tokens are parsed as itself. -/
theorem pz_all : ∀ f : Fo, f.oks → AllX (fun op tx ty ks => Pz ⟨op, tx, ty, ks⟩ ∧ (lev op = 5 → Qz1 ⟨op, tx, ty, ks⟩ (exKx op tx ty (foKx ks)))) f := allX_of fun op tx ty ks hk ho ih => by
  have of1 : ∀ {e : Ex}, Qz1 e (exK e) → Pz e ∧ (lev e.op = 5 → Qz1 e (exK e)) := fun {e} h => ⟨fun ts r hk af lv o d hl => h.pz hk af.lb lv o d, fun _ => h⟩
  rcases ok_cases hk with ⟨rfl, hn, rfl, h0⟩ | ⟨rfl, hn, rfl, h0⟩ | ⟨rfl, hn, rfl, h1⟩ | ⟨rfl, rfl, ht, h1⟩ | ⟨hop, rfl, rfl, h1⟩ | ⟨hop, rfl, rfl, h2⟩
  · obtain rfl := len0 h0
    exact of1 (qz_num hn)
  · obtain rfl := len0 h0
    rw [toL] at hn
    exact of1 (qz_var hn)
  · obtain ⟨a, b, c, k, rfl⟩ := len1 h1
    rw [toL] at hn
    exact of1 (qz_cell hn ih.1.1)
  · obtain ⟨a, b, c, k, rfl⟩ := len1 h1
    exact of1 (qz_cast ih.1.1 ty ht)
  · obtain ⟨a, b, c, k, rfl⟩ := len1 h1
    rcases hop with rfl | rfl | rfl | rfl
    · exact of1 (qz_sign ih.1.1 ih.1.2 4 tMi (Or.inl ⟨rfl, rfl⟩))
    · exact of1 (qz_sign ih.1.1 ih.1.2 20 tNo (Or.inr ⟨rfl, rfl⟩))
    · exact of1 (qz_call ih.1.1 5 tAb (Or.inl ⟨rfl, rfl⟩))
    · exact of1 (qz_call ih.1.1 6 tSq (Or.inr ⟨rfl, rfl⟩))
  · obtain ⟨a, b, c, k, a', b', c', k', rfl⟩ := len2 h2
    have nn : ¬ (op = 1 ∨ op = 2 ∨ op = 3) ∧ ¬ op = 4 ∧ ¬ op = 20 ∧ ¬ op = 5 ∧ ¬ op = 6 ∧ ¬ op = 7 := by omega
    refine ⟨pz_two ih.1.1 ih.2.1.1 hop (ks := exKx op tx0 0 (foKx (.cons a b c k (.cons a' b' c' k' .nil)))) ?_, fun e => by have := (op_lev hop).2; omega⟩
    unfold exKx
    rw [if_neg (by omega), if_neg (by omega), if_neg (by omega), if_neg nn.2.1, if_neg nn.2.2.1, if_neg nn.2.2.2.1, if_neg nn.2.2.2.2.1, if_neg nn.2.2.2.2.2]; rfl
/-- .. at the weakest level, ahead of what is no operator. -/
theorem pz_ex {e : Ex} (h : (e.row .nil).oks) {ts : List Tk} (hk : ky ts = exK e) {r : List Tk} (ho : (opOf (hd r).2.1).1 = 0) (hb : isTx r tLb = false) (o d : Int) : ∃ n d', eP n 0 o (ts ++ r) d = .ok e r d' := by
  obtain ⟨d', hx⟩ := (pz_all _ h).1.1 ts r hk ⟨Or.inl ho, hb⟩ 0 o d (lev_range e.op).1
  obtain ⟨n, hn⟩ := hx 1 _ (lP_stop (Or.inl ho) 0) ok_nm
  exact ⟨n, d', hn⟩
theorem pz_encl {e : Ex} (h : (e.row .nil).oks) {ts : List Tk} (hk : ky ts = exK e) (a b : Nat) (r : List Tk) (o d : Int) : ∃ n d', cP n o ((5, tLp, a) :: (ts ++ (5, tRp, b) :: r)) d = .ok e r d' := pz_enc (pz_all _ h).1.1 (lev_range e.op).1 hk a b r o d
end Go.Proofs.YtknoibocpbfmmaaGreatDoor

