/- Two programs' tokens, one behind the other. -/
import Derived.Test.YtknoibocpbfmmaaGreatDoorPcE
namespace Go.Proofs.YtknoibocpbfmmaaGreatDoor
set_option linter.unusedVariables false
section
variable {α β : Type} {C : Prop} {e k : Nat} {v : List Tk} {m : Int}
theorem Jn.iteC {b : Tk} {u : List Tk} {s : ByteArray} (hu : Kd (b :: u)) {f g f' g' : List Tk → Rs α} (h1 : ∀ w, Kd w → Jn C e k v m (f (w ++ [eT e])) (f' (w.map (sh k) ++ v))) (h2 : Jn C e k v m (g (b :: u ++ [eT e])) (g' ((b :: u).map (sh k) ++ v))) :
    Jn C e k v m (if isTx (b :: u ++ [eT e]) s = true then f (b :: u ++ [eT e]).tail else g (b :: u ++ [eT e])) (if isTx ((b :: u).map (sh k) ++ v) s = true then f' ((b :: u).map (sh k) ++ v).tail else g' ((b :: u).map (sh k) ++ v)) := by
  by_cases c : isTx (b :: u) s = true
  · rw [if_pos (show isTx (b :: u ++ [eT e]) s = true from c), if_pos (show isTx ((b :: u).map (sh k) ++ v) s = true from c)]
    exact h1 u hu.tl
  · rw [if_neg (show ¬ isTx (b :: u ++ [eT e]) s = true from c), if_neg (show ¬ isTx ((b :: u).map (sh k) ++ v) s = true from c)]
    exact h2
theorem jn_bd {u : List Tk} (hu : Kd u) (d : Int) : Jn C e k v m (bdP (u ++ [eT e]) d) (bdP (u.map (sh k) ++ v) (max d m)) := by
  cases u with
  | nil => exact Jn.nv (end_bd e d).nv
  | cons b u =>
    unfold bdP
    exact Jn.iteC (f := fun ts => (numP ts d).thn fun e ts d => .ok (over1 4 e) ts d) (f' := fun ts => (numP ts (max d m)).thn fun e ts d => .ok (over1 4 e) ts d) (g := fun ts => numP ts d) (g' := fun ts => numP ts (max d m)) hu (fun w hw => (jn_num hw d).thn (fun x w d hw => Jn.ok _ hw d) (fun x d => E1.ok e _ d)) (jn_num hu d)
theorem jn_read {u : List Tk} (hu : Kd u) (d : Int) : Jn C e k v m (readP (u ++ [eT e]) d) (readP (u.map (sh k) ++ v) (max d m)) := by
  unfold readP
  exact Jn.name hu (fun x w hw => Jn.want tIn_ne hw (fun w hw => Jn.want tLb_ne hw (fun w hw => (jn_bd hw d).thn (fun l w d hw => Jn.want tCo_ne hw (fun w hw => (jn_bd hw d).thn (fun h w d hw => Jn.want tRb_ne hw (fun w hw => Jn.want tSe_ne hw (fun w hw => Jn.ok _ hw d))) (fun h d => (end_want tRb_ne e _).e1))) (fun l d => (end_want tCo_ne e _).e1))))
theorem jn_val {n n' : Nat} (h : n ≤ n') (f : Ex → St) {u : List Tk} (hu : Kd u) (d : Int) :
    Jn C e k v m (want tEq (u ++ [eT e]) fun ts => (eP n 0 0 ts d).thn fun v ts d => want tSe ts fun ts => .ok (f v) ts d) (want tEq (u.map (sh k) ++ v) fun ts => (eP n' 0 0 ts (max d m)).thn fun v ts d => want tSe ts fun ts => .ok (f v) ts d) :=
  Jn.want tEq_ne hu (fun w hw => ((jn_ex e k v m n n' h).1 0 0 w d hw).thnN (fun x w d hw => Jn.want tSe_ne hw (fun w hw => Jn.ok _ hw d)) (fun x d => (end_want tSe_ne e _).nv))
theorem jn_asg {n n' : Nat} (h : n ≤ n') {u : List Tk} (hu : Kd u) (d : Int) : Jn C e k v m (asgP n (u ++ [eT e]) d) (asgP n' (u.map (sh k) ++ v) (max d m)) := by
  unfold asgP
  refine Jn.name (f := fun x ts => if isTx ts tLb then (eP n 0 0 ts.tail d).thn fun i ts d => want tRb ts fun ts => want tEq ts fun ts => (eP n 0 0 ts d).thn fun v ts d => want tSe ts fun ts => .ok (⟨1, x, i.row .nil, v, exN, exN, .nil, .nil⟩ : St) ts d else want tEq ts fun ts => (eP n 0 0 ts d).thn fun v ts d => want tSe ts fun ts => .ok (⟨1, x, .nil, v, exN, exN, .nil, .nil⟩ : St) ts d)
    (f' := fun x ts => if isTx ts tLb then (eP n' 0 0 ts.tail (max d m)).thn fun i ts d => want tRb ts fun ts => want tEq ts fun ts => (eP n' 0 0 ts d).thn fun v ts d => want tSe ts fun ts => .ok (⟨1, x, i.row .nil, v, exN, exN, .nil, .nil⟩ : St) ts d else want tEq ts fun ts => (eP n' 0 0 ts (max d m)).thn fun v ts d => want tSe ts fun ts => .ok (⟨1, x, .nil, v, exN, exN, .nil, .nil⟩ : St) ts d) hu (fun x w hw => ?_)
  cases w with
  | nil => exact Jn.nv (Nv.ite tLb_ne e (end_want tEq_ne e _).nv)
  | cons b w =>
    exact Jn.iteC (f := fun ts => (eP n 0 0 ts d).thn fun i ts d => want tRb ts fun ts => want tEq ts fun ts => (eP n 0 0 ts d).thn fun v ts d => want tSe ts fun ts => .ok (⟨1, x, i.row .nil, v, exN, exN, .nil, .nil⟩ : St) ts d) (f' := fun ts => (eP n' 0 0 ts (max d m)).thn fun i ts d => want tRb ts fun ts => want tEq ts fun ts => (eP n' 0 0 ts d).thn fun v ts d => want tSe ts fun ts => .ok (⟨1, x, i.row .nil, v, exN, exN, .nil, .nil⟩ : St) ts d)
      (g := fun ts => want tEq ts fun ts => (eP n 0 0 ts d).thn fun v ts d => want tSe ts fun ts => .ok (⟨1, x, .nil, v, exN, exN, .nil, .nil⟩ : St) ts d) (g' := fun ts => want tEq ts fun ts => (eP n' 0 0 ts (max d m)).thn fun v ts d => want tSe ts fun ts => .ok (⟨1, x, .nil, v, exN, exN, .nil, .nil⟩ : St) ts d) hw
      (fun w hw => ((jn_ex e k v m n n' h).1 0 0 w d hw).thnN (fun i w d hw => Jn.want tRb_ne hw (fun w hw => jn_val h (fun y => ⟨1, x, i.row .nil, y, exN, exN, .nil, .nil⟩) hw d)) (fun i d => (end_want tRb_ne e _).nv))
      (jn_val h (fun y => ⟨1, x, .nil, y, exN, exN, .nil, .nil⟩) hw d)
end
theorem jn_st (e k : Nat) (v : List Tk) (m : Int) : ∀ n n' : Nat, n ≤ n' →
    (∀ u d, Kd u → Jn (isTx v tEl = false) e k v m (stP n (u ++ [eT e]) d) (stP n' (u.map (sh k) ++ v) (max d m))) ∧
    (∀ u d, Kd u → Jn (isTx v tEl = false) e k v m (blP n (u ++ [eT e]) d) (blP n' (u.map (sh k) ++ v) (max d m))) ∧
    (∀ u d, Kd u → Jn (isTx v tEl = false) e k v m (bsP n (u ++ [eT e]) d) (bsP n' (u.map (sh k) ++ v) (max d m)))
  | 0, _, _ => by refine ⟨?_, ?_, ?_⟩ <;> intros <;> intro x vs d' q <;> simp [stP, blP, bsP] at q
  | n + 1, 0, h => absurd h (by omega)
  | n + 1, n' + 1, h => by
    obtain ⟨hs, hb, hl⟩ := jn_st e k v m n n' (by omega)
    obtain ⟨ks, kb, kl⟩ := end_st n
    have ec := (end_ex n).2.2.2.2.2 0 e
    have cc := fun u d hu => (jn_ex e k v m n n' (by omega)).2.2.2.2.2.2 0 u d hu
    refine ⟨?_, ?_, ?_⟩
    · intro u d hu
      cases u with
      | nil => exact Jn.nv ((end_st (n + 1)).1 e d).nv
      | cons b u =>
      rw [stP, stP]
      refine Jn.iteC (f := fun ts => readP ts d) (f' := fun ts => readP ts (max d m)) (g := fun ts => if isTx ts tIf then (cP n 0 ts.tail d).thn fun c ts d => (blP n ts d).thn fun t ts d => if isTx ts tEl then (blP n ts.tail d).thn fun e ts d => .ok (⟨3, tx0, .nil, c, exN, exN, t, e⟩ : St) ts d else .ok (⟨3, tx0, .nil, c, exN, exN, t, .nil⟩ : St) ts d
        else if isTx ts tWh then (cP n 0 ts.tail d).thn fun c ts d => (blP n ts d).thn fun t ts d => .ok (⟨4, tx0, .nil, c, exN, exN, t, .nil⟩ : St) ts d else asgP n ts d)
        (g' := fun ts => if isTx ts tIf then (cP n' 0 ts.tail (max d m)).thn fun c ts d => (blP n' ts d).thn fun t ts d => if isTx ts tEl then (blP n' ts.tail d).thn fun e ts d => .ok (⟨3, tx0, .nil, c, exN, exN, t, e⟩ : St) ts d else .ok (⟨3, tx0, .nil, c, exN, exN, t, .nil⟩ : St) ts d
        else if isTx ts tWh then (cP n' 0 ts.tail (max d m)).thn fun c ts d => (blP n' ts d).thn fun t ts d => .ok (⟨4, tx0, .nil, c, exN, exN, t, .nil⟩ : St) ts d else asgP n' ts (max d m)) hu (fun w hw => jn_read hw d) ?_
      refine Jn.iteC (f := fun ts => (cP n 0 ts d).thn fun c ts d => (blP n ts d).thn fun t ts d => if isTx ts tEl then (blP n ts.tail d).thn fun e ts d => .ok (⟨3, tx0, .nil, c, exN, exN, t, e⟩ : St) ts d else .ok (⟨3, tx0, .nil, c, exN, exN, t, .nil⟩ : St) ts d)
        (f' := fun ts => (cP n' 0 ts (max d m)).thn fun c ts d => (blP n' ts d).thn fun t ts d => if isTx ts tEl then (blP n' ts.tail d).thn fun e ts d => .ok (⟨3, tx0, .nil, c, exN, exN, t, e⟩ : St) ts d else .ok (⟨3, tx0, .nil, c, exN, exN, t, .nil⟩ : St) ts d)
        (g := fun ts => if isTx ts tWh then (cP n 0 ts.tail d).thn fun c ts d => (blP n ts d).thn fun t ts d => .ok (⟨4, tx0, .nil, c, exN, exN, t, .nil⟩ : St) ts d else asgP n ts d) (g' := fun ts => if isTx ts tWh then (cP n' 0 ts.tail (max d m)).thn fun c ts d => (blP n' ts d).thn fun t ts d => .ok (⟨4, tx0, .nil, c, exN, exN, t, .nil⟩ : St) ts d else asgP n' ts (max d m)) hu
        (fun w hw => (cc w d hw).thnN (fun c w d hw => (hb w d hw).thn (fun b w d hw => ?_) (fun b d => ?_)) (fun c d => ((kb e d).thn _).nv)) ?_
      · exact Jn.ite (f := fun ts => (blP n ts d).thn fun e ts d => .ok (⟨3, tx0, .nil, c, exN, exN, b, e⟩ : St) ts d) (f' := fun ts => (blP n' ts (max d m)).thn fun e ts d => .ok (⟨3, tx0, .nil, c, exN, exN, b, e⟩ : St) ts d) (g := fun ts => .ok (⟨3, tx0, .nil, c, exN, exN, b, .nil⟩ : St) ts d) (g' := fun ts => .ok (⟨3, tx0, .nil, c, exN, exN, b, .nil⟩ : St) ts (max d m)) tEl_ne hw (fun w hw => (hb w d hw).thn (fun x w d hw => Jn.ok _ hw d) (fun x d => E1.ok e _ d)) (Jn.ok _ hw d) (E1.ok e _ d) id
      · exact E1.ite tEl_ne e (E1.ok e _ d)
      · exact Jn.iteC (f := fun ts => (cP n 0 ts d).thn fun c ts d => (blP n ts d).thn fun t ts d => .ok (⟨4, tx0, .nil, c, exN, exN, t, .nil⟩ : St) ts d) (f' := fun ts => (cP n' 0 ts (max d m)).thn fun c ts d => (blP n' ts d).thn fun t ts d => .ok (⟨4, tx0, .nil, c, exN, exN, t, .nil⟩ : St) ts d) (g := fun ts => asgP n ts d) (g' := fun ts => asgP n' ts (max d m)) hu (fun w hw => (cc w d hw).thnN (fun c w d hw => (hb w d hw).thn (fun b w d hw => Jn.ok _ hw d) (fun b d => E1.ok e _ d)) (fun c d => ((kb e d).thn _).nv)) (jn_asg (by omega) hu d)
    · intro u d hu
      rw [blP, blP]
      exact Jn.want tLc_ne hu (fun w hw => hl w d hw)
    · intro u d hu
      cases u with
      | nil => exact Jn.nv ((end_st (n + 1)).2.2 e d).nv
      | cons b u =>
      rw [bsP, bsP]
      refine Jn.iteC (f := fun ts => .ok .nil ts d) (f' := fun ts => .ok .nil ts (max d m)) (g := fun ts => (stP n ts d).thn fun s ts d => (bsP n ts d).thn fun l ts d => .ok (s.row l) ts d) (g' := fun ts => (stP n' ts (max d m)).thn fun s ts d => (bsP n' ts d).thn fun l ts d => .ok (s.row l) ts d) hu (fun w hw => Jn.ok _ hw d) ?_
      exact (hs (b :: u) d hu).thnN (fun s w d hw => (hl w d hw).thn (fun l w d hw => Jn.ok _ hw d) (fun l d => E1.ok e _ d)) (fun s d => ((kl e d).thn _).nv)
end Go.Proofs.YtknoibocpbfmmaaGreatDoor
