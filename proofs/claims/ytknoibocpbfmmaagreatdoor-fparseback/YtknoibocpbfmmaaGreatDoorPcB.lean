/- A text without its last token: statements, declarations, programs. -/
import Derived.Test.YtknoibocpbfmmaaGreatDoorPcA
namespace Go.Proofs.YtknoibocpbfmmaaGreatDoor
set_option linter.unusedVariables false
theorem Nv.ite {α : Type} {s : ByteArray} (hs : s ≠ tx0) (e : Nat) {x y : Rs α} (h : Nv y) : Nv (if isTx [eT e] s = true then x else y) := by rw [end_no hs]; exact h
theorem E1.ite {α : Type} {s : ByteArray} (hs : s ≠ tx0) (e : Nat) {x y : Rs α} (h : E1 e y) : E1 e (if isTx [eT e] s = true then x else y) := by rw [end_no hs]; exact h
theorem end_bd (a : Nat) (d : Int) : Bd a (bdP [eT a] d) := by
  unfold bdP; rw [end_no tMi_ne]; exact end_num a d
theorem end_read (a : Nat) (d : Int) : Bd a (readP [eT a] d) := end_name a _
theorem end_asg (n : Nat) (a : Nat) (d : Int) : Bd a (asgP n [eT a] d) := end_name a _
theorem end_st : ∀ n : Nat, (∀ a d, Bd a (stP n [eT a] d)) ∧ (∀ a d, Bd a (blP n [eT a] d)) ∧ (∀ a d, Bd a (bsP n [eT a] d))
  | 0 => ⟨fun _ _ => Or.inr rfl, fun _ _ => Or.inr rfl, fun _ _ => Or.inr rfl⟩
  | n + 1 => by
    obtain ⟨hs, hb, hl⟩ := end_st n
    refine ⟨fun a d => ?_, fun a d => ?_, fun a d => ?_⟩
    · rw [stP, end_no tRd_ne, end_no tIf_ne, end_no tWh_ne]; exact end_asg n a d
    · rw [blP]; exact end_want tLc_ne a _
    · rw [bsP, end_no tRc_ne]; exact (hs a d).thn _
theorem end_dc (a : Nat) (d : Int) : Bd a (dcP [eT a] d) := Or.inl rfl
/-- One token is no statement. -/
theorem one_asg (t : Tk) (n : Nat) (e : Nat) (d : Int) : Nv (asgP n [t, eT e] d) := by
  unfold asgP nameP
  split
  · exact Nv.ite tLb_ne e (end_want tEq_ne e _).nv
  · exact fun x vs d' q => by cases q
theorem one_st (t : Tk) (n : Nat) (e : Nat) (d : Int) : Nv (stP n [t, eT e] d) := by
  cases n with
  | zero => exact fun x vs d' q => by cases q
  | succ n =>
    rw [stP]
    split
    · exact (end_read e d).nv
    · split
      · exact (((end_ex n).2.2.2.2.2 0 e d).thn _).nv
      · split
        · exact (((end_ex n).2.2.2.2.2 0 e d).thn _).nv
        · exact one_asg t n e d
theorem one_dc (t : Tk) (e : Nat) (d : Int) : Nv (dcP [t, eT e] d) := by
  unfold dcP
  split
  · exact (end_name e _).nv
  · exact fun x vs d' q => by cases q
theorem ct_bd {t : Tk} {e a : Nat} {u : List Tk} (hu : Kd u) (d : Int) : Ct t e a (bdP (u ++ [t, eT e]) d) (bdP (u ++ [eT a]) d) := by
  unfold bdP
  exact Ct.ite (f := fun ts => (numP ts d).thn fun e ts d => .ok (over1 4 e) ts d) (g := fun ts => numP ts d) tMi_ne hu (fun v hv => (ct_num hv d).thn (fun x v d hv => Ct.ok _ hv d) (fun x d => E1.ok e _ d)) (ct_num hu d) (Or.inl ((end_num e d).thn _).nv)
theorem ct_read {t : Tk} {e a : Nat} {u : List Tk} (hu : Kd u) (d : Int) : Ct t e a (readP (u ++ [t, eT e]) d) (readP (u ++ [eT a]) d) := by
  unfold readP
  refine Ct.name hu (fun x v hv => Ct.want tIn_ne hv (fun v hv => Ct.want tLb_ne hv (fun v hv => (ct_bd hv d).thn (fun l v d hv => Ct.want tCo_ne hv (fun v hv => (ct_bd hv d).thn (fun h v d hv => Ct.want tRb_ne hv (fun v hv => Ct.want tSe_ne hv (fun v hv => Ct.ok _ hv d) (E1.ok e _ d)) (end_want tSe_ne e _).e1) (fun h d => (end_want tRb_ne e _).e1)) ((end_bd e d).thn _).e1) (fun l d => (end_want tCo_ne e _).e1)) ((end_bd e d).thn _).e1) (end_want tLb_ne e _).e1) (fun x => (end_want tIn_ne e _).e1)
theorem ct_val {t : Tk} {e a : Nat} (n : Nat) (f : Ex → St) {u : List Tk} (hu : Kd u) (d : Int) :
    Ct t e a (want tEq (u ++ [t, eT e]) fun ts => (eP n 0 0 ts d).thn fun v ts d => want tSe ts fun ts => .ok (f v) ts d) (want tEq (u ++ [eT a]) fun ts => (eP n 0 0 ts d).thn fun v ts d => want tSe ts fun ts => .ok (f v) ts d) :=
  Ct.want tEq_ne hu (fun v hv => ((ct_ex t e a n).1 0 0 v d hv).thn (fun x v d hv => Ct.want tSe_ne hv (fun v hv => Ct.ok _ hv d) (E1.ok e _ d)) (fun x d => (end_want tSe_ne e _).e1)) (((end_ex n).1 0 0 e d).thn _).e1
theorem ct_asg {t : Tk} {e a : Nat} (n : Nat) {u : List Tk} (hu : Kd u) (d : Int) : Ct t e a (asgP n (u ++ [t, eT e]) d) (asgP n (u ++ [eT a]) d) := by
  unfold asgP
  refine Ct.name (f := fun x ts => if isTx ts tLb then (eP n 0 0 ts.tail d).thn fun i ts d => want tRb ts fun ts => want tEq ts fun ts => (eP n 0 0 ts d).thn fun v ts d => want tSe ts fun ts => .ok (⟨1, x, i.row .nil, v, exN, exN, .nil, .nil⟩ : St) ts d else want tEq ts fun ts => (eP n 0 0 ts d).thn fun v ts d => want tSe ts fun ts => .ok (⟨1, x, .nil, v, exN, exN, .nil, .nil⟩ : St) ts d) hu (fun x v hv => ?_) (fun x => ?_)
  · exact Ct.ite (f := fun ts => (eP n 0 0 ts d).thn fun i ts d => want tRb ts fun ts => want tEq ts fun ts => (eP n 0 0 ts d).thn fun v ts d => want tSe ts fun ts => .ok (⟨1, x, i.row .nil, v, exN, exN, .nil, .nil⟩ : St) ts d) (g := fun ts => want tEq ts fun ts => (eP n 0 0 ts d).thn fun v ts d => want tSe ts fun ts => .ok (⟨1, x, .nil, v, exN, exN, .nil, .nil⟩ : St) ts d) tLb_ne hv
      (fun v hv => ((ct_ex t e a n).1 0 0 v d hv).thn (fun i v d hv => Ct.want tRb_ne hv (fun v hv => ct_val n (fun w => ⟨1, x, i.row .nil, w, exN, exN, .nil, .nil⟩) hv d) (end_want tEq_ne e _).e1) (fun i d => (end_want tRb_ne e _).e1))
      (ct_val n (fun w => ⟨1, x, .nil, w, exN, exN, .nil, .nil⟩) hv d) (Or.inl (((end_ex n).1 0 0 e d).thn _).nv)
  · exact E1.ite tLb_ne e (end_want tEq_ne e _).e1
theorem ct_st (t : Tk) (e a : Nat) : ∀ n : Nat,
    (∀ u d, Kd u → Ct t e a (stP n (u ++ [t, eT e]) d) (stP n (u ++ [eT a]) d)) ∧
    (∀ u d, Kd u → Ct t e a (blP n (u ++ [t, eT e]) d) (blP n (u ++ [eT a]) d)) ∧
    (∀ u d, Kd u → Ct t e a (bsP n (u ++ [t, eT e]) d) (bsP n (u ++ [eT a]) d))
  | 0 => by refine ⟨?_, ?_, ?_⟩ <;> intros <;> intro x vs d' q <;> simp [stP, blP, bsP] at q
  | n + 1 => by
    obtain ⟨hs, hb, hl⟩ := ct_st t e a n
    obtain ⟨ks, kb, kl⟩ := end_st n
    have ec := (end_ex n).2.2.2.2.2 0 e
    have cc := fun u d hu => (ct_ex t e a n).2.2.2.2.2.2 0 u d hu
    refine ⟨?_, ?_, ?_⟩
    · intro u d hu
      rw [stP, stP]
      refine Ct.ite (f := fun ts => readP ts d) (g := fun ts => if isTx ts tIf then (cP n 0 ts.tail d).thn fun c ts d => (blP n ts d).thn fun t ts d => if isTx ts tEl then (blP n ts.tail d).thn fun e ts d => .ok (⟨3, tx0, .nil, c, exN, exN, t, e⟩ : St) ts d else .ok (⟨3, tx0, .nil, c, exN, exN, t, .nil⟩ : St) ts d
        else if isTx ts tWh then (cP n 0 ts.tail d).thn fun c ts d => (blP n ts d).thn fun t ts d => .ok (⟨4, tx0, .nil, c, exN, exN, t, .nil⟩ : St) ts d else asgP n ts d) tRd_ne hu (fun v hv => ct_read hv d) ?_ (Or.inl (end_read e d).nv)
      refine Ct.ite (f := fun ts => (cP n 0 ts d).thn fun c ts d => (blP n ts d).thn fun t ts d => if isTx ts tEl then (blP n ts.tail d).thn fun e ts d => .ok (⟨3, tx0, .nil, c, exN, exN, t, e⟩ : St) ts d else .ok (⟨3, tx0, .nil, c, exN, exN, t, .nil⟩ : St) ts d)
        (g := fun ts => if isTx ts tWh then (cP n 0 ts.tail d).thn fun c ts d => (blP n ts d).thn fun t ts d => .ok (⟨4, tx0, .nil, c, exN, exN, t, .nil⟩ : St) ts d else asgP n ts d) tIf_ne hu (fun v hv => (cc v d hv).thn (fun c v d hv => (hb v d hv).thn (fun b v d hv => ?_) (fun b d => ?_)) (fun c d => ((kb e d).thn _).e1)) ?_ (Or.inl ((ec d).thn _).nv)
      · exact Ct.ite (f := fun ts => (blP n ts d).thn fun e ts d => .ok (⟨3, tx0, .nil, c, exN, exN, b, e⟩ : St) ts d) (g := fun ts => .ok (⟨3, tx0, .nil, c, exN, exN, b, .nil⟩ : St) ts d) tEl_ne hv (fun v hv => (hb v d hv).thn (fun x v d hv => Ct.ok _ hv d) (fun x d => E1.ok e _ d)) (Ct.ok _ hv d) (Or.inl ((kb e d).thn _).nv)
      · rw [end_no tEl_ne]; exact E1.ok e _ d
      · exact Ct.ite (f := fun ts => (cP n 0 ts d).thn fun c ts d => (blP n ts d).thn fun t ts d => .ok (⟨4, tx0, .nil, c, exN, exN, t, .nil⟩ : St) ts d) (g := fun ts => asgP n ts d) tWh_ne hu (fun v hv => (cc v d hv).thn (fun c v d hv => (hb v d hv).thn (fun b v d hv => Ct.ok _ hv d) (fun b d => E1.ok e _ d)) (fun c d => ((kb e d).thn _).e1)) (ct_asg n hu d) (Or.inl ((ec d).thn _).nv)
    · intro u d hu
      rw [blP, blP]
      exact Ct.want tLc_ne hu (fun v hv => hl v d hv) (kl e d).e1
    · intro u d hu
      rw [bsP, bsP]
      refine Ct.ite (f := fun ts => .ok .nil ts d) (g := fun ts => (stP n ts d).thn fun s ts d => (bsP n ts d).thn fun l ts d => .ok (s.row l) ts d) tRc_ne hu (fun v hv => Ct.ok _ hv d) ?_ (Or.inr ⟨E1.ok e _ d, (ks a d).thn _⟩)
      exact (hs u d hu).thn (fun s v d hv => (hl v d hv).thn (fun l v d hv => Ct.ok _ hv d) (fun l d => E1.ok e _ d)) (fun s d => ((kl e d).thn _).e1)
theorem ct_dc {t : Tk} {e a : Nat} {u : List Tk} (hu : Kd u) (d : Int) : Ct t e a (dcP (u ++ [t, eT e]) d) (dcP (u ++ [eT a]) d) := by
  cases u with
  | nil => exact Ct.nv (one_dc t e d)
  | cons b u =>
    unfold dcP
    by_cases c : b.1 = 2
    · rw [if_pos (show (hd (b :: u ++ [t, eT e])).1 = 2 from c), if_pos (show (hd (b :: u ++ [eT a])).1 = 2 from c)]
      refine Ct.name (u := u) (f := fun x us => if isTx us tLb then if (hd us.tail).1 = 3 then want tRb us.tail.tail fun vs => want tSe vs fun vs => .ok (x, tyOf b.2.1, celN (hd us.tail).2.1) vs d else .bad (hd us.tail).2.2 else want tSe us fun us => .ok (x, tyOf b.2.1, 0) us d) hu.tl (fun x v hv => ?_) (fun x => ?_)
      · refine Ct.ite (f := fun us => if (hd us).1 = 3 then want tRb us.tail fun vs => want tSe vs fun vs => .ok (x, tyOf b.2.1, celN (hd us).2.1) vs d else .bad (hd us).2.2) (g := fun us => want tSe us fun us => .ok (x, tyOf b.2.1, 0) us d) tLb_ne hv (fun v hv => ?_) ?_ (Or.inl ?_)
        · refine Ct.kind (k := 3) (f := fun y us => want tRb us fun vs => want tSe vs fun vs => .ok (x, tyOf b.2.1, celN y) vs d) (g := fun us => .bad (hd us).2.2) (by decide) hv (fun y v hv => Ct.want tRb_ne hv (fun v hv => Ct.want tSe_ne hv (fun v hv => Ct.ok _ hv d) (E1.ok e _ d)) (end_want tSe_ne e _).e1) Ct.bad (fun y => Or.inl (end_want tRb_ne e _).nv)
        · exact Ct.want tSe_ne hv (fun v hv => Ct.ok _ hv d) (E1.ok e _ d)
        · exact fun x vs d' q => by cases q
      · exact E1.ite tLb_ne e (end_want tSe_ne e _).e1
    · rw [if_neg (show ¬ (hd (b :: u ++ [t, eT e])).1 = 2 from c)]
      exact Ct.bad
theorem end_ds (n : Nat) (e : Nat) (d : Int) : E1 e (dsP n [eT e] d) := by
  cases n with
  | zero => exact fun x vs d' q => by cases q
  | succ n => rw [dsP, if_neg (show ¬ tyOf (hd [eT e]).2.1 ≠ 0 from fun h => h rfl)]; exact E1.ok e _ d
theorem end_ss (n : Nat) (e : Nat) (d : Int) : E1 e (ssP n [eT e] d) := by
  cases n with
  | zero => exact fun x vs d' q => by cases q
  | succ n => rw [ssP, if_pos (show (hd [eT e]).1 = 0 from rfl)]; exact E1.ok e _ d
theorem ct_ds (t : Tk) (e a : Nat) : ∀ (n : Nat) u d, Kd u → Ct t e a (dsP n (u ++ [t, eT e]) d) (dsP n (u ++ [eT a]) d)
  | 0, u, d, hu => fun x vs d' q => by cases q
  | n + 1, u, d, hu => by
    rw [dsP, dsP]
    cases u with
    | nil =>
      rw [List.nil_append, List.nil_append, if_neg (show ¬ tyOf (hd [eT a]).2.1 ≠ 0 from fun h => h rfl)]
      split
      · exact Ct.nv ((one_dc t e d).thn _)
      · exact Ct.ok (u := []) _ hu d
    | cons b u =>
      by_cases c : tyOf b.2.1 ≠ 0
      · rw [if_pos (show tyOf (hd (b :: u ++ [t, eT e])).2.1 ≠ 0 from c), if_pos (show tyOf (hd (b :: u ++ [eT a])).2.1 ≠ 0 from c)]
        exact (ct_dc hu d).thn (fun x v d hv => (ct_ds t e a n v d hv).thn (fun l v d hv => Ct.ok _ hv d) (fun l d => E1.ok e _ d)) (fun x d => (end_ds n e d).thn (fun l d => E1.ok e _ d))
      · rw [if_neg (show ¬ tyOf (hd (b :: u ++ [t, eT e])).2.1 ≠ 0 from c), if_neg (show ¬ tyOf (hd (b :: u ++ [eT a])).2.1 ≠ 0 from c)]
        exact Ct.ok _ hu d
/-- Statements up to the end: told only where the last token is taken. -/
theorem ct_ss (t : Tk) (ht : t.1 ≠ 0) (e a : Nat) : ∀ (n : Nat) u d, Kd u → ∀ x vs d', ssP n (u ++ [t, eT e]) d = .ok x vs d' → Bd a (ssP n (u ++ [eT a]) d)
  | 0, u, d, hu => fun x vs d' q => by cases q
  | n + 1, u, d, hu => by
    intro x vs d' q
    rw [ssP] at q ⊢
    cases u with
    | nil =>
      rw [List.nil_append, if_neg (show ¬ (hd [t, eT e]).1 = 0 from ht)] at q
      exact absurd q ((one_st t n e d).thn _ x vs d')
    | cons b u =>
      have c : ¬ b.1 = 0 := hu b (by simp)
      rw [if_neg (show ¬ (hd (b :: u ++ [t, eT e])).1 = 0 from c)] at q
      rw [if_neg (show ¬ (hd (b :: u ++ [eT a])).1 = 0 from c)]
      cases hr : stP n (b :: u ++ [t, eT e]) d with
      | bad p => rw [hr] at q; cases q
      | more => rw [hr] at q; cases q
      | ok y us k =>
        rw [hr] at q
        rcases (ct_st t e a n).1 (b :: u) d hu y us k hr with ⟨v, hv, rfl, e2⟩ | ⟨rfl, e2⟩
        · rw [e2]
          cases hr2 : ssP n (v ++ [t, eT e]) k with
          | bad p => simp only [Rs.thn] at q; rw [hr2] at q; cases q
          | more => simp only [Rs.thn] at q; rw [hr2] at q; cases q
          | ok z ws m => exact (ct_ss t ht e a n v k hv z ws m hr2).thn _
        · exact e2.thn _
/-- A program without its last token is none, at the end. -/
theorem ct_pg (t : Tk) (ht : t.1 ≠ 0) (e a n : Nat) (u : List Tk) (hu : Kd u) (x : Pg) (vs : List Tk) (d : Int) (h : pgP n (u ++ [t, eT e]) = .ok x vs d) : Bd a (pgP n (u ++ [eT a])) := by
  unfold pgP at h ⊢
  cases hr : dsP n (u ++ [t, eT e]) 0 with
  | bad p => rw [hr] at h; cases h
  | more => rw [hr] at h; cases h
  | ok y us k =>
    rw [hr] at h
    rcases ct_ds t e a n u 0 hu y us k hr with ⟨v, hv, rfl, e2⟩ | ⟨rfl, e2⟩
    · rw [e2]
      cases hr2 : ssP n (v ++ [t, eT e]) k with
      | bad p => simp only [Rs.thn] at h; rw [hr2] at h; cases h
      | more => simp only [Rs.thn] at h; rw [hr2] at h; cases h
      | ok z ws m => exact (ct_ss t ht e a n v k hv z ws m hr2).thn _
    · exact e2.thn _
end Go.Proofs.YtknoibocpbfmmaaGreatDoor
