/- What a parser leaves of its tokens; how much fuel is enough. -/
import Derived.Test.YtknoibocpbfmmaaGreatDoorPaA
namespace Go.Proofs.YtknoibocpbfmmaaGreatDoor
set_option linter.unusedVariables false
def Rs.sat {α : Type} (r : Rs α) (P : α → List Tk → Int → Prop) (M : Prop) : Prop :=
  match r with
  | .ok x ts d => P x ts d
  | .bad _ => True
  | .more => M
theorem Rs.sat.mono {α : Type} {r : Rs α} {P Q : α → List Tk → Int → Prop} {M N : Prop} (h : r.sat P M) (hP : ∀ x ts d, P x ts d → Q x ts d) (hM : M → N) : r.sat Q N := by
  cases r with
  | ok x ts d => exact hP _ _ _ h
  | bad p => trivial
  | more => exact hM h
theorem Rs.sat.thn {α β : Type} {r : Rs α} {P : α → List Tk → Int → Prop} {Q : β → List Tk → Int → Prop} {M : Prop} {f : α → List Tk → Int → Rs β} (h : r.sat P M) (hf : ∀ x ts d, P x ts d → (f x ts d).sat Q M) : (r.thn f).sat Q M := by
  cases r with
  | ok x ts d => exact hf _ _ _ h
  | bad p => trivial
  | more => exact h
/-- Tokens, with what stands for the end behind them. -/
def Tz (ts : List Tk) : Prop := ∃ l e, ts = l ++ [(0, tx0, e)]
theorem Tz.tail {ts : List Tk} (h : Tz ts) (k : (hd ts).1 ≠ 0 ∨ (hd ts).2.1 ≠ tx0) : Tz ts.tail ∧ ts.tail.length + 1 = ts.length := by
  obtain ⟨l, e, rfl⟩ := h
  cases l with
  | nil => exfalso; rcases k with k | k <;> exact k rfl
  | cons t l => exact ⟨⟨l, e, rfl⟩, rfl⟩
theorem isTx_ne {ts : List Tk} {s : ByteArray} (h : isTx ts s = true) (hs : s ≠ tx0) : (hd ts).2.1 ≠ tx0 := by
  unfold isTx at h
  have : (hd ts).2.1 = s := of_decide_eq_true h
  rw [this]; exact hs
theorem isTx_tail {ts : List Tk} {s : ByteArray} (h : isTx ts s = true) (hs : s ≠ tx0) (z : Tz ts) : Tz ts.tail ∧ ts.tail.length + 1 = ts.length := z.tail (Or.inr (isTx_ne h hs))
theorem kind_tail {ts : List Tk} {k : Nat} (h : (hd ts).1 = k) (hk : k ≠ 0) (z : Tz ts) : Tz ts.tail ∧ ts.tail.length + 1 = ts.length := z.tail (Or.inl (by rw [h]; exact hk))
theorem want_sat {α : Type} {s : ByteArray} {ts : List Tk} {f : List Tk → Rs α} {Q : α → List Tk → Int → Prop} {M : Prop} (hs : s ≠ tx0) (z : Tz ts) (h : ∀ us, Tz us → us.length + 1 = ts.length → (f us).sat Q M) : (want s ts f).sat Q M := by
  unfold want
  split
  · rename_i c
    have := isTx_tail c hs z
    exact h _ this.1 this.2
  · trivial
theorem op_ne {s : ByteArray} (h : (opOf s).1 ≠ 0) : s ≠ tx0 := by
  rintro rfl
  exact h rfl
theorem ty_ne {s : ByteArray} (h : tyOf s ≠ 0) : s ≠ tx0 := by
  rintro rfl
  exact h rfl
theorem numP_sat (ts : List Tk) (d : Int) (M : Prop) (z : Tz ts) : (numP ts d).sat (fun _ us _ => Tz us ∧ us.length < ts.length) M := by
  unfold numP
  split
  · rename_i c
    have := z.tail (Or.inl (by omega))
    exact ⟨this.1, by omega⟩
  · trivial
theorem tSq_ne : tSq ≠ tx0 := by decide
theorem tAb_ne : tAb ≠ tx0 := by decide
theorem tMi_ne : tMi ≠ tx0 := by decide
theorem tNo_ne : tNo ≠ tx0 := by decide
theorem tLp_ne : tLp ≠ tx0 := by decide
theorem tRp_ne : tRp ≠ tx0 := by decide
theorem tLb_ne : tLb ≠ tx0 := by decide
theorem tRb_ne : tRb ≠ tx0 := by decide
theorem tLc_ne : tLc ≠ tx0 := by decide
theorem tRc_ne : tRc ≠ tx0 := by decide
theorem tSe_ne : tSe ≠ tx0 := by decide
theorem tCo_ne : tCo ≠ tx0 := by decide
theorem tEq_ne : tEq ≠ tx0 := by decide
theorem tIn_ne : tIn ≠ tx0 := by decide
theorem tRd_ne : tRd ≠ tx0 := by decide
theorem tIf_ne : tIf ≠ tx0 := by decide
theorem tEl_ne : tEl ≠ tx0 := by decide
theorem tWh_ne : tWh ≠ tx0 := by decide
/-- What is less than a row of tokens, and ends as it does. -/
abbrev Lt (ts us : List Tk) : Prop := Tz us ∧ us.length < ts.length
abbrev Le (ts us : List Tk) : Prop := Tz us ∧ us.length ≤ ts.length
theorem ex_sat : ∀ n : Nat,
    (∀ lv o ts d, Tz ts → (eP n lv o ts d).sat (fun _ us _ => Lt ts us) (n < 8 * ts.length + 5)) ∧
    (∀ lv o l ts d, Tz ts → (lP n lv o l ts d).sat (fun _ us _ => Le ts us) (n < 8 * ts.length + 6)) ∧
    (∀ o ts d, Tz ts → (sP n o ts d).sat (fun _ us _ => Lt ts us) (n < 8 * ts.length + 4)) ∧
    (∀ o ts d, Tz ts → (gP n o ts d).sat (fun _ us _ => Lt ts us) (n < 8 * ts.length + 3)) ∧
    (∀ o ts d, Tz ts → (vP n o ts d).sat (fun _ us _ => Lt ts us) (n < 8 * ts.length + 1)) ∧
    (∀ o ts d, Tz ts → (iP n o ts d).sat (fun _ us _ => Lt ts us) (n < 8 * ts.length + 2)) ∧
    (∀ o ts d, Tz ts → (cP n o ts d).sat (fun _ us _ => Lt ts us) (n < 8 * ts.length + 1))
  | 0 => by
    refine ⟨?_, ?_, ?_, ?_, ?_, ?_, ?_⟩ <;> intros <;> simp only [eP, lP, sP, gP, vP, iP, cP, Rs.sat] <;> omega
  | n + 1 => by
    obtain ⟨he, hl, hs, hg, hv, hi, hc⟩ := ex_sat n
    refine ⟨?_, ?_, ?_, ?_, ?_, ?_, ?_⟩
    · intro lv o ts d z
      rw [eP]
      refine Rs.sat.thn ((hs o ts d z).mono (fun _ _ _ h => h) (fun h => by omega)) fun x us d' h => ?_
      exact (hl lv o x us d' h.1).mono (fun _ _ _ k => ⟨k.1, by have := h.2; have := k.2; omega⟩) (fun k => by have := h.2; omega)
    · intro lv o l ts d z
      rw [lP]
      split
      · exact ⟨z, Nat.le_refl _⟩
      · rename_i c
        have c1 : (opOf (hd ts).2.1).1 ≠ 0 := fun h => c (Or.inl h)
        have t := z.tail (Or.inr (op_ne c1))
        refine Rs.sat.thn ((he _ o _ d t.1).mono (fun _ _ _ h => h) (fun h => by omega)) fun x us d' h => ?_
        exact (hl lv o _ us d' h.1).mono (fun _ _ _ k => ⟨k.1, by have := h.2; have := k.2; omega⟩) (fun k => by have := h.2; omega)
    · intro o ts d z
      rw [sP]
      split
      · rename_i c
        have t := isTx_tail c tMi_ne z
        refine Rs.sat.thn ((hs o _ d t.1).mono (fun _ _ _ h => h) (fun h => by omega)) fun x us d' h => ?_
        exact ⟨h.1, by have := h.2; omega⟩
      · split
        · rename_i c
          have t := isTx_tail c tNo_ne z
          refine Rs.sat.thn ((hs o _ d t.1).mono (fun _ _ _ h => h) (fun h => by omega)) fun x us d' h => ?_
          exact ⟨h.1, by have := h.2; omega⟩
        · exact (hg o ts d z).mono (fun _ _ _ h => h) (fun h => by omega)
    · intro o ts d z
      rw [gP]
      split
      · rename_i c
        split
        · have t := z.tail (Or.inr (ty_ne c))
          refine Rs.sat.thn ((hi o _ d t.1).mono (fun _ _ _ h => h) (fun h => by omega)) fun x us d' h => ?_
          exact ⟨h.1, by have := h.2; omega⟩
        · trivial
      · split
        · exact (hv o ts d z).mono (fun _ _ _ h => h) (fun h => by omega)
        · split
          · rename_i c
            have t := isTx_tail c tSq_ne z
            refine Rs.sat.thn ((hi o _ d t.1).mono (fun _ _ _ h => h) (fun h => by omega)) fun x us d' h => ?_
            exact ⟨h.1, by have := h.2; omega⟩
          · split
            · rename_i c
              have t := isTx_tail c tAb_ne z
              refine Rs.sat.thn ((hi o _ d t.1).mono (fun _ _ _ h => h) (fun h => by omega)) fun x us d' h => ?_
              exact ⟨h.1, by have := h.2; omega⟩
            · split
              · exact (hi o ts d z).mono (fun _ _ _ h => h) (fun h => by omega)
              · exact numP_sat ts d _ z
    · intro o ts d z
      rw [vP]
      split
      · rename_i c
        have t := kind_tail c (by decide) z
        split
        · rename_i c2
          have u := isTx_tail c2 tLb_ne t.1
          refine Rs.sat.thn ((he 0 o _ d u.1).mono (fun _ _ _ h => h) (fun h => by omega)) fun x us d' h => ?_
          exact want_sat tRb_ne h.1 fun vs zv hv' => ⟨zv, by have := h.2; omega⟩
        · exact ⟨t.1, by omega⟩
      · trivial
    · intro o ts d z
      rw [iP]
      exact (hc _ ts _ z).mono (fun _ _ _ h => h) (fun h => by omega)
    · intro o ts d z
      rw [cP]
      refine want_sat tLp_ne z fun us zu hu => ?_
      refine Rs.sat.thn ((he 0 o us d zu).mono (fun _ _ _ h => h) (fun h => by omega)) fun x vs d' h => ?_
      exact want_sat tRp_ne h.1 fun ws zw hw => ⟨zw, by have := h.2; omega⟩
theorem eP_sat (n : Nat) (lv o : Int) (ts : List Tk) (d : Int) (z : Tz ts) : (eP n lv o ts d).sat (fun _ us _ => Lt ts us) (n < 8 * ts.length + 5) := (ex_sat n).1 lv o ts d z
theorem cP_sat (n : Nat) (o : Int) (ts : List Tk) (d : Int) (z : Tz ts) : (cP n o ts d).sat (fun _ us _ => Lt ts us) (n < 8 * ts.length + 1) := (ex_sat n).2.2.2.2.2.2 o ts d z
theorem bdP_sat (ts : List Tk) (d : Int) (M : Prop) (z : Tz ts) : (bdP ts d).sat (fun _ us _ => Lt ts us) M := by
  unfold bdP
  split
  · rename_i c
    have t := isTx_tail c tMi_ne z
    refine Rs.sat.thn (numP_sat _ d M t.1) fun x us d' h => ⟨h.1, by have := h.2; omega⟩
  · exact numP_sat ts d M z
theorem nameP_sat {α : Type} {ts : List Tk} {f : ByteArray → List Tk → Rs α} {Q : α → List Tk → Int → Prop} {M : Prop} (z : Tz ts) (h : ∀ x us, Tz us → us.length + 1 = ts.length → (f x us).sat Q M) : (nameP ts f).sat Q M := by
  unfold nameP
  split
  · rename_i c
    have := kind_tail c (by decide) z
    exact h _ _ this.1 this.2
  · trivial
theorem readP_sat (ts : List Tk) (d : Int) (M : Prop) (z : Tz ts) : (readP ts d).sat (fun _ us _ => Lt ts us) M := by
  unfold readP
  refine nameP_sat z fun x a za la => want_sat tIn_ne za fun b zb lb => want_sat tLb_ne zb fun c zc lc => Rs.sat.thn (bdP_sat c d M zc) fun l e d1 he => want_sat tCo_ne he.1 fun f zf lf => Rs.sat.thn (bdP_sat f d1 M zf) fun h g d2 hg => want_sat tRb_ne hg.1 fun i zi li => want_sat tSe_ne zi fun j zj lj => ⟨zj, ?_⟩
  have := he.2; have := hg.2; omega
theorem asgP_sat (n : Nat) (ts : List Tk) (d : Int) (z : Tz ts) : (asgP n ts d).sat (fun _ us _ => Lt ts us) (n < 8 * ts.length + 5) := by
  unfold asgP
  refine nameP_sat z fun x a za la => ?_
  split
  · rename_i c
    have t := isTx_tail c tLb_ne za
    refine Rs.sat.thn ((eP_sat n 0 0 _ d t.1).mono (fun _ _ _ h => h) (fun h => by omega)) fun i b d1 hb => want_sat tRb_ne hb.1 fun e ze le => want_sat tEq_ne ze fun f zf lf => Rs.sat.thn ((eP_sat n 0 0 f d1 zf).mono (fun _ _ _ h => h) (fun h => by have := hb.2; omega)) fun v g d2 hg => want_sat tSe_ne hg.1 fun j zj lj => ⟨zj, ?_⟩
    have := hb.2; have := hg.2; omega
  · refine want_sat tEq_ne za fun f zf lf => Rs.sat.thn ((eP_sat n 0 0 f d zf).mono (fun _ _ _ h => h) (fun h => by omega)) fun v g d2 hg => want_sat tSe_ne hg.1 fun j zj lj => ⟨zj, ?_⟩
    have := hg.2; omega
theorem st_sat : ∀ n : Nat,
    (∀ ts d, Tz ts → (stP n ts d).sat (fun _ us _ => Lt ts us) (n < 8 * ts.length + 8)) ∧
    (∀ ts d, Tz ts → (blP n ts d).sat (fun _ us _ => Lt ts us) (n < 8 * ts.length + 10)) ∧
    (∀ ts d, Tz ts → (bsP n ts d).sat (fun _ us _ => Lt ts us) (n < 8 * ts.length + 9))
  | 0 => by
    refine ⟨?_, ?_, ?_⟩ <;> intros <;> simp only [stP, blP, bsP, Rs.sat] <;> omega
  | n + 1 => by
    obtain ⟨hs, hb, hl⟩ := st_sat n
    refine ⟨?_, ?_, ?_⟩
    · intro ts d z
      rw [stP]
      split
      · rename_i c
        have t := isTx_tail c tRd_ne z
        exact (readP_sat _ d _ t.1).mono (fun _ _ _ h => ⟨h.1, by have := h.2; omega⟩) id
      · split
        · rename_i c
          have t := isTx_tail c tIf_ne z
          refine Rs.sat.thn ((cP_sat n 0 _ d t.1).mono (fun _ _ _ h => h) (fun h => by omega)) fun x us d' h => Rs.sat.thn ((hb us d' h.1).mono (fun _ _ _ h => h) (fun k => by have := h.2; omega)) fun y vs d2 k => ?_
          split
          · rename_i c2
            have t2 := isTx_tail c2 tEl_ne k.1
            refine Rs.sat.thn ((hb _ d2 t2.1).mono (fun _ _ _ h => h) (fun k3 => by have := h.2; have := k.2; omega)) fun y2 ws d3 k3 => ⟨k3.1, ?_⟩
            have := h.2; have := k.2; have := k3.2; omega
          · exact ⟨k.1, by have := h.2; have := k.2; omega⟩
        · split
          · rename_i c
            have t := isTx_tail c tWh_ne z
            refine Rs.sat.thn ((cP_sat n 0 _ d t.1).mono (fun _ _ _ h => h) (fun h => by omega)) fun x us d' h => Rs.sat.thn ((hb us d' h.1).mono (fun _ _ _ h => h) (fun k => by have := h.2; omega)) fun y vs d2 k => ⟨k.1, ?_⟩
            have := h.2; have := k.2; omega
          · exact (asgP_sat n ts d z).mono (fun _ _ _ h => h) (fun h => by omega)
    · intro ts d z
      rw [blP]
      exact want_sat tLc_ne z fun us zu hu => (hl us d zu).mono (fun _ _ _ h => ⟨h.1, by have := h.2; omega⟩) (fun h => by omega)
    · intro ts d z
      rw [bsP]
      split
      · rename_i c
        have t := isTx_tail c tRc_ne z
        exact ⟨t.1, by omega⟩
      · refine Rs.sat.thn ((hs ts d z).mono (fun _ _ _ h => h) (fun h => by omega)) fun x us d' h => Rs.sat.thn ((hl us d' h.1).mono (fun _ _ _ h => h) (fun k => by have := h.2; omega)) fun y vs d2 k => ⟨k.1, ?_⟩
        have := h.2; have := k.2; omega
theorem dcP_sat (ts : List Tk) (d : Int) (M : Prop) (z : Tz ts) : (dcP ts d).sat (fun _ us _ => Lt ts us) M := by
  unfold dcP
  split
  · rename_i c
    have t := kind_tail c (by decide) z
    refine nameP_sat t.1 fun x a za la => ?_
    split
    · rename_i c2
      have t2 := isTx_tail c2 tLb_ne za
      split
      · rename_i c3
        have t3 := kind_tail c3 (by decide) t2.1
        exact want_sat tRb_ne t3.1 fun u zu lu => want_sat tSe_ne zu fun v zv lv => ⟨zv, by omega⟩
      · trivial
    · exact want_sat tSe_ne za fun v zv lv => ⟨zv, by omega⟩
  · trivial
theorem dsP_sat : ∀ (n : Nat) ts d, Tz ts → (dsP n ts d).sat (fun _ us _ => Le ts us) (n < ts.length + 1)
  | 0, ts, d, z => by simp only [dsP, Rs.sat]; omega
  | n + 1, ts, d, z => by
    rw [dsP]
    split
    · exact Rs.sat.thn (dcP_sat ts d _ z) fun x us d' h => Rs.sat.thn ((dsP_sat n us d' h.1).mono (fun _ _ _ h => h) (fun k => by have := h.2; omega)) fun y vs d2 k => ⟨k.1, by have := h.2; have := k.2; omega⟩
    · exact ⟨z, Nat.le_refl _⟩
theorem ssP_sat : ∀ (n : Nat) ts d, Tz ts → (ssP n ts d).sat (fun _ us _ => Le ts us) (n < 8 * ts.length + 9)
  | 0, ts, d, z => by simp only [ssP, Rs.sat]; omega
  | n + 1, ts, d, z => by
    rw [ssP]
    split
    · exact ⟨z, Nat.le_refl _⟩
    · refine Rs.sat.thn (((st_sat n).1 ts d z).mono (fun _ _ _ h => h) (fun h => by omega)) fun x us d' h => Rs.sat.thn ((ssP_sat n us d' h.1).mono (fun _ _ _ h => h) (fun k => by have := h.2; omega)) fun y vs d2 k => ⟨k.1, by have := h.2; have := k.2; omega⟩
/-- So much fuel is enough for a program. -/
theorem pgP_sat (n : Nat) (ts : List Tk) (z : Tz ts) : (pgP n ts).sat (fun _ us _ => Le ts us) (n < 8 * ts.length + 9) := by
  unfold pgP
  refine Rs.sat.thn ((dsP_sat n ts 0 z).mono (fun _ _ _ h => h) (fun h => by omega)) fun x us d h => Rs.sat.thn ((ssP_sat n us d h.1).mono (fun _ _ _ h => h) (fun k => by have := h.2; omega)) fun y vs d2 k => ⟨k.1, by have := h.2; have := k.2; omega⟩
end Go.Proofs.YtknoibocpbfmmaaGreatDoor
