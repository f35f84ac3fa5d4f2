/- More fuel changes nothing where there was enough. -/
import Derived.Test.YtknoibocpbfmmaaGreatDoorPcD
namespace Go.Proofs.YtknoibocpbfmmaaGreatDoor
set_option linter.unusedVariables false
/-- With less fuel what is told is told with more, too. -/
def Mo {α : Type} (r r' : Rs α) : Prop := r ≠ .more → r' = r
section
variable {α β : Type}
theorem Mo.refl (r : Rs α) : Mo r r := fun _ => rfl
theorem Mo.more (r : Rs α) : Mo .more r := fun h => absurd rfl h
theorem Mo.trans {r s t : Rs α} (h : Mo r s) (k : Mo s t) : Mo r t := fun a => by
  have e := h a
  rw [k (by rw [e]; exact a), e]
theorem Mo.thn {r r' : Rs α} {f f' : α → List Tk → Int → Rs β} (h : Mo r r') (hf : ∀ x ts d, Mo (f x ts d) (f' x ts d)) : Mo (r.thn f) (r'.thn f') := fun a => by
  cases r with
  | ok x ts d => rw [h (by simp)]; exact hf x ts d a
  | bad p => rw [h (by simp)]; rfl
  | more => exact absurd rfl a
theorem Mo.ite {c : Prop} [Decidable c] {x y x' y' : Rs α} (h : Mo x x') (k : Mo y y') : Mo (if c then x else y) (if c then x' else y') := by
  split
  · exact h
  · exact k
theorem Mo.want {s : ByteArray} {ts : List Tk} {f f' : List Tk → Rs α} (h : ∀ us, Mo (f us) (f' us)) : Mo (want s ts f) (want s ts f') := Mo.ite (h _) (Mo.refl _)
theorem Mo.name {ts : List Tk} {f f' : ByteArray → List Tk → Rs α} (h : ∀ x us, Mo (f x us) (f' x us)) : Mo (nameP ts f) (nameP ts f') := Mo.ite (h _ _) (Mo.refl _)
end
theorem mo_ex : ∀ n : Nat,
    (∀ lv o ts d, Mo (eP n lv o ts d) (eP (n + 1) lv o ts d)) ∧ (∀ lv o l ts d, Mo (lP n lv o l ts d) (lP (n + 1) lv o l ts d)) ∧ (∀ o ts d, Mo (sP n o ts d) (sP (n + 1) o ts d)) ∧ (∀ o ts d, Mo (gP n o ts d) (gP (n + 1) o ts d)) ∧
    (∀ o ts d, Mo (vP n o ts d) (vP (n + 1) o ts d)) ∧ (∀ o ts d, Mo (iP n o ts d) (iP (n + 1) o ts d)) ∧ (∀ o ts d, Mo (cP n o ts d) (cP (n + 1) o ts d))
  | 0 => ⟨fun _ _ _ _ => Mo.more _, fun _ _ _ _ _ => Mo.more _, fun _ _ _ => Mo.more _, fun _ _ _ => Mo.more _, fun _ _ _ => Mo.more _, fun _ _ _ => Mo.more _, fun _ _ _ => Mo.more _⟩
  | n + 1 => by
    obtain ⟨he, hl, hs, hg, hv, hi, hc⟩ := mo_ex n
    refine ⟨fun lv o ts d => ?_, fun lv o l ts d => ?_, fun o ts d => ?_, fun o ts d => ?_, fun o ts d => ?_, fun o ts d => ?_, fun o ts d => ?_⟩
    · rw [eP.eq_2 (n := n), eP.eq_2 (n := n + 1)]
      exact (hs o ts d).thn fun l us d => hl lv o l us d
    · rw [lP.eq_2 (n := n), lP.eq_2 (n := n + 1)]
      exact Mo.ite (Mo.refl _) ((he _ o _ d).thn fun r us d => hl lv o _ us d)
    · rw [sP.eq_2 (n := n), sP.eq_2 (n := n + 1)]
      exact Mo.ite ((hs o _ d).thn fun e us d => Mo.refl _) (Mo.ite ((hs o _ d).thn fun e us d => Mo.refl _) (hg o ts d))
    · rw [gP.eq_2 (n := n), gP.eq_2 (n := n + 1)]
      exact Mo.ite (Mo.ite ((hi o _ d).thn fun e us d => Mo.refl _) (Mo.refl _)) (Mo.ite (hv o ts d) (Mo.ite ((hi o _ d).thn fun e us d => Mo.refl _) (Mo.ite ((hi o _ d).thn fun e us d => Mo.refl _) (Mo.ite (hi o ts d) (Mo.refl _)))))
    · rw [vP.eq_2 (n := n), vP.eq_2 (n := n + 1)]
      exact Mo.ite (Mo.ite ((he 0 o _ d).thn fun e us d => Mo.refl _) (Mo.refl _)) (Mo.refl _)
    · rw [iP.eq_2 (n := n), iP.eq_2 (n := n + 1)]
      exact hc _ ts _
    · rw [cP.eq_2 (n := n), cP.eq_2 (n := n + 1)]
      exact Mo.want fun us => (he 0 o us d).thn fun e vs d => Mo.refl _
theorem mo_asg (n : Nat) (ts : List Tk) (d : Int) : Mo (asgP n ts d) (asgP (n + 1) ts d) := by
  have he := (mo_ex n).1
  unfold asgP
  exact Mo.name fun x us => Mo.ite ((he 0 0 _ d).thn fun i vs d => Mo.want fun vs => Mo.want fun vs => (he 0 0 vs d).thn fun v us d => Mo.refl _) (Mo.want fun vs => (he 0 0 vs d).thn fun v us d => Mo.refl _)
theorem mo_st : ∀ n : Nat, (∀ ts d, Mo (stP n ts d) (stP (n + 1) ts d)) ∧ (∀ ts d, Mo (blP n ts d) (blP (n + 1) ts d)) ∧ (∀ ts d, Mo (bsP n ts d) (bsP (n + 1) ts d))
  | 0 => ⟨fun _ _ => Mo.more _, fun _ _ => Mo.more _, fun _ _ => Mo.more _⟩
  | n + 1 => by
    obtain ⟨hs, hb, hl⟩ := mo_st n
    have hc := (mo_ex n).2.2.2.2.2.2
    refine ⟨fun ts d => ?_, fun ts d => ?_, fun ts d => ?_⟩
    · rw [stP.eq_2 (n := n), stP.eq_2 (n := n + 1)]
      exact Mo.ite (Mo.refl _) (Mo.ite ((hc 0 _ d).thn fun c us d => (hb us d).thn fun t vs d => Mo.ite ((hb _ d).thn fun e ws d => Mo.refl _) (Mo.refl _)) (Mo.ite ((hc 0 _ d).thn fun c us d => (hb us d).thn fun t vs d => Mo.refl _) (mo_asg n ts d)))
    · rw [blP.eq_2 (n := n), blP.eq_2 (n := n + 1)]
      exact Mo.want fun us => hl us d
    · rw [bsP.eq_2 (n := n), bsP.eq_2 (n := n + 1)]
      exact Mo.ite (Mo.refl _) ((hs ts d).thn fun s us d => (hl us d).thn fun l vs d => Mo.refl _)
theorem mo_ds : ∀ (n : Nat) ts d, Mo (dsP n ts d) (dsP (n + 1) ts d)
  | 0, _, _ => Mo.more _
  | n + 1, ts, d => by
    rw [dsP.eq_2 (n := n), dsP.eq_2 (n := n + 1)]
    exact Mo.ite ((Mo.refl _).thn fun x us d => (mo_ds n us d).thn fun l vs d => Mo.refl _) (Mo.refl _)
theorem mo_ss : ∀ (n : Nat) ts d, Mo (ssP n ts d) (ssP (n + 1) ts d)
  | 0, _, _ => Mo.more _
  | n + 1, ts, d => by
    rw [ssP.eq_2 (n := n), ssP.eq_2 (n := n + 1)]
    exact Mo.ite (Mo.refl _) (((mo_st n).1 ts d).thn fun x us d => (mo_ss n us d).thn fun l vs d => Mo.refl _)
theorem mo_pg (n : Nat) (ts : List Tk) : Mo (pgP n ts) (pgP (n + 1) ts) := by
  unfold pgP
  exact (mo_ds n ts 0).thn fun l us d => (mo_ss n us d).thn fun b vs d => Mo.refl _
theorem mo_upto {α : Type} {F : Nat → Rs α} (h : ∀ n, Mo (F n) (F (n + 1))) (n : Nat) : ∀ j, Mo (F n) (F (n + j))
  | 0 => Mo.refl _
  | j + 1 => (mo_upto h n j).trans (h (n + j))
/-- Both amounts are enough: both tell the same. -/
theorem mo_both {α : Type} {F : Nat → Rs α} (h : ∀ n, Mo (F n) (F (n + 1))) {n n' : Nat} (a : F n ≠ .more) (b : F n' ≠ .more) : F n = F n' := by
  rcases (show n ≤ n' ∨ n' ≤ n by omega) with c | c
  · obtain ⟨j, rfl⟩ := Nat.le.dest c
    exact (mo_upto h n j a).symm
  · obtain ⟨j, rfl⟩ := Nat.le.dest c
    exact mo_upto h n' j b
end Go.Proofs.YtknoibocpbfmmaaGreatDoor
