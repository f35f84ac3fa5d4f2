/- The texts of what is parsed are tokens' texts: their sizes. -/
import Derived.Test.YtknoibocpbfmmaaGreatDoorPbG
import Derived.Test.YtknoibocpbfmmaaGreatDoorPbN
namespace Go.Proofs.YtknoibocpbfmmaaGreatDoor
set_option linter.unusedVariables false
abbrev szP (s : ByteArray) : Prop := s.size ≤ 9223372036854775807
def Qz (ts : List Tk) : Prop := ∀ t ∈ ts, szP t.2.1
theorem Qz.tl {ts : List Tk} (h : Qz ts) : Qz ts.tail := fun t ht => h t (List.mem_of_mem_tail ht)
theorem sz0 : szP tx0 := Nat.zero_le _
theorem Qz.hd {ts : List Tk} (h : Qz ts) : szP (hd ts).2.1 := by
  cases ts with
  | nil => exact sz0
  | cons t ts => exact h t (by simp)
def Sz {α : Type} (r : Rs α) (A : α → Prop) : Prop := ∀ x us d, r = .ok x us d → A x ∧ Qz us
section
variable {α β : Type} {A : α → Prop} {B : β → Prop}
theorem Sz.ok {x : α} {us : List Tk} {d : Int} (h : A x) (q : Qz us) : Sz (.ok x us d) A := fun y vs d' e => by cases e; exact ⟨h, q⟩
theorem Sz.bad {p : Nat} : Sz (.bad p) A := fun y vs d' e => by cases e
theorem Sz.more : Sz (.more) A := fun y vs d' e => by cases e
theorem Sz.thn {r : Rs α} {f : α → List Tk → Int → Rs β} (h : Sz r A) (hf : ∀ x us d, A x → Qz us → Sz (f x us d) B) : Sz (r.thn f) B := fun y vs d' e => by
  cases r with
  | ok x us d => obtain ⟨a, q⟩ := h x us d rfl; exact hf x us d a q y vs d' e
  | bad p => cases e
  | more => cases e
theorem Sz.ite {c : Prop} [Decidable c] {x y : Rs α} (h : Sz x A) (k : Sz y A) : Sz (if c then x else y) A := by split <;> assumption
theorem Sz.want {s : ByteArray} {ts : List Tk} {f : List Tk → Rs α} (q : Qz ts) (h : ∀ us, Qz us → Sz (f us) A) : Sz (want s ts f) A := Sz.ite (h _ q.tl) Sz.bad
theorem Sz.name {ts : List Tk} {f : ByteArray → List Tk → Rs α} (q : Qz ts) (h : ∀ x us, szP x → Qz us → Sz (f x us) A) : Sz (nameP ts f) A := Sz.ite (h _ _ q.hd q.tl) Sz.bad
end
theorem sz_row {e : Ex} {f : Fo} (h : e.szs) (k : f.szs) : (e.row f).szs := ⟨h.1, h.2, k⟩
theorem sz_num {ts : List Tk} {d : Int} (q : Qz ts) : Sz (numP ts d) Ex.szs := Sz.ite (Sz.ok ⟨q.hd, trivial⟩ q.tl) Sz.bad
theorem sz_ex : ∀ n : Nat,
    (∀ lv o ts d, Qz ts → Sz (eP n lv o ts d) Ex.szs) ∧ (∀ lv o l ts d, Ex.szs l → Qz ts → Sz (lP n lv o l ts d) Ex.szs) ∧ (∀ o ts d, Qz ts → Sz (sP n o ts d) Ex.szs) ∧ (∀ o ts d, Qz ts → Sz (gP n o ts d) Ex.szs) ∧
    (∀ o ts d, Qz ts → Sz (vP n o ts d) Ex.szs) ∧ (∀ o ts d, Qz ts → Sz (iP n o ts d) Ex.szs) ∧ (∀ o ts d, Qz ts → Sz (cP n o ts d) Ex.szs)
  | 0 => ⟨fun _ _ _ _ _ => Sz.more, fun _ _ _ _ _ _ _ => Sz.more, fun _ _ _ _ => Sz.more, fun _ _ _ _ => Sz.more, fun _ _ _ _ => Sz.more, fun _ _ _ _ => Sz.more, fun _ _ _ _ => Sz.more⟩
  | n + 1 => by
    obtain ⟨he, hl, hs, hg, hv, hi, hc⟩ := sz_ex n
    refine ⟨fun lv o ts d q => ?_, fun lv o l ts d hl0 q => ?_, fun o ts d q => ?_, fun o ts d q => ?_, fun o ts d q => ?_, fun o ts d q => ?_, fun o ts d q => ?_⟩
    · rw [eP]; exact (hs o ts d q).thn fun l us d hl1 q1 => hl lv o l us d hl1 q1
    · rw [lP]; exact Sz.ite (Sz.ok hl0 q) ((he _ o _ d q.tl).thn fun r us d hr q1 => hl lv o _ us d ⟨sz0, sz_row hl0 (sz_row hr trivial)⟩ q1)
    · rw [sP]; exact Sz.ite ((hs o _ d q.tl).thn fun e us d h q1 => Sz.ok ⟨sz0, sz_row h trivial⟩ q1) (Sz.ite ((hs o _ d q.tl).thn fun e us d h q1 => Sz.ok ⟨sz0, sz_row h trivial⟩ q1) (hg o ts d q))
    · rw [gP]; exact Sz.ite (Sz.ite ((hi o _ d q.tl).thn fun e us d h q1 => Sz.ok ⟨sz0, sz_row h trivial⟩ q1) Sz.bad) (Sz.ite (hv o ts d q) (Sz.ite ((hi o _ d q.tl).thn fun e us d h q1 => Sz.ok ⟨sz0, sz_row h trivial⟩ q1) (Sz.ite ((hi o _ d q.tl).thn fun e us d h q1 => Sz.ok ⟨sz0, sz_row h trivial⟩ q1) (Sz.ite (hi o ts d q) (sz_num q)))))
    · rw [vP]; exact Sz.ite (Sz.ite ((he 0 o _ d q.tl.tl).thn fun e us d h q1 => Sz.want q1 fun us q2 => Sz.ok ⟨q.hd, sz_row h trivial⟩ q2) (Sz.ok ⟨q.hd, trivial⟩ q.tl)) Sz.bad
    · rw [iP]; exact hc _ ts _ q
    · rw [cP]; exact Sz.want q fun us q1 => (he 0 o us d q1).thn fun e vs d h q2 => Sz.want q2 fun ws q3 => Sz.ok h q3
theorem sz_bd {ts : List Tk} {d : Int} (q : Qz ts) : Sz (bdP ts d) Ex.szs := Sz.ite ((sz_num q.tl).thn fun e us d h q1 => Sz.ok ⟨sz0, sz_row h trivial⟩ q1) (sz_num q)
theorem sz_n : Ex.szs exN := ⟨sz0, trivial⟩
theorem sz_read {ts : List Tk} {d : Int} (q : Qz ts) : Sz (readP ts d) St.szs := by
  unfold readP
  exact Sz.name q fun x us hx q => Sz.want q fun us q => Sz.want q fun us q => (sz_bd q).thn fun l us d hl q => Sz.want q fun us q => (sz_bd q).thn fun h us d hh q => Sz.want q fun us q => Sz.want q fun us q => Sz.ok ⟨hx, trivial, sz_n, hl, hh, trivial, trivial⟩ q
theorem sz_asg (n : Nat) {ts : List Tk} {d : Int} (q : Qz ts) : Sz (asgP n ts d) St.szs := by
  have he := (sz_ex n).1
  unfold asgP
  exact Sz.name q fun x us hx q => Sz.ite ((he 0 0 _ d q.tl).thn fun i us d hi q => Sz.want q fun us q => Sz.want q fun us q => (he 0 0 us d q).thn fun v us d hv q => Sz.want q fun us q => Sz.ok ⟨hx, sz_row hi trivial, hv, sz_n, sz_n, trivial, trivial⟩ q)
    (Sz.want q fun us q => (he 0 0 us d q).thn fun v us d hv q => Sz.want q fun us q => Sz.ok ⟨hx, trivial, hv, sz_n, sz_n, trivial, trivial⟩ q)
theorem sz_srow {s : St} {r : So} (h : s.szs) (k : r.szs) : (s.row r).szs := ⟨h.1, h.2.1, h.2.2.1, h.2.2.2.1, h.2.2.2.2.1, h.2.2.2.2.2.1, h.2.2.2.2.2.2, k⟩
theorem sz_st : ∀ n : Nat, (∀ ts d, Qz ts → Sz (stP n ts d) St.szs) ∧ (∀ ts d, Qz ts → Sz (blP n ts d) So.szs) ∧ (∀ ts d, Qz ts → Sz (bsP n ts d) So.szs)
  | 0 => ⟨fun _ _ _ => Sz.more, fun _ _ _ => Sz.more, fun _ _ _ => Sz.more⟩
  | n + 1 => by
    obtain ⟨hs, hb, hl⟩ := sz_st n
    have hc := (sz_ex n).2.2.2.2.2.2
    refine ⟨fun ts d q => ?_, fun ts d q => ?_, fun ts d q => ?_⟩
    · rw [stP]
      refine Sz.ite (sz_read q.tl) (Sz.ite ((hc 0 _ d q.tl).thn fun c us d h1 q => (hb us d q).thn fun t us d h2 q => Sz.ite ((hb _ d q.tl).thn fun e us d h3 q => Sz.ok ?_ q) (Sz.ok ?_ q)) (Sz.ite ((hc 0 _ d q.tl).thn fun c us d h1 q => (hb us d q).thn fun t us d h2 q => Sz.ok ?_ q) (sz_asg n q)))
      · exact ⟨sz0, trivial, h1, sz_n, sz_n, h2, h3⟩
      · exact ⟨sz0, trivial, h1, sz_n, sz_n, h2, trivial⟩
      · exact ⟨sz0, trivial, h1, sz_n, sz_n, h2, trivial⟩
    · rw [blP]; exact Sz.want q fun us q => hl us d q
    · rw [bsP]; exact Sz.ite (Sz.ok trivial q.tl) ((hs ts d q).thn fun s us d h1 q => (hl us d q).thn fun l us d h2 q => Sz.ok (sz_srow h1 h2) q)
theorem sz_dc {ts : List Tk} {d : Int} (q : Qz ts) : Sz (dcP ts d) (fun x : Dc => szP x.1) := by
  unfold dcP
  exact Sz.ite (Sz.name q.tl fun x us hx q => Sz.ite (Sz.ite (Sz.want q.tl.tl fun us q => Sz.want q fun us q => Sz.ok hx q) Sz.bad) (Sz.want q fun us q => Sz.ok hx q)) Sz.bad
theorem sz_ds : ∀ (n : Nat) ts d, Qz ts → Sz (dsP n ts d) (fun l : List Dc => ∀ x ∈ l, szP x.1)
  | 0, _, _, _ => Sz.more
  | n + 1, ts, d, q => by
    rw [dsP]
    exact Sz.ite ((sz_dc q).thn fun x us d hx q => (sz_ds n us d q).thn fun l us d hl q => Sz.ok (by intro y hy; rcases List.mem_cons.1 hy with rfl | hy; exact hx; exact hl y hy) q) (Sz.ok (by intro y hy; cases hy) q)
theorem sz_ss : ∀ (n : Nat) ts d, Qz ts → Sz (ssP n ts d) So.szs
  | 0, _, _, _ => Sz.more
  | n + 1, ts, d, q => by
    rw [ssP]
    exact Sz.ite (Sz.ok trivial q) (((sz_st n).1 ts d q).thn fun s us d h1 q => (sz_ss n us d q).thn fun l us d h2 q => Sz.ok (sz_srow h1 h2) q)
theorem sz_pg (n : Nat) {ts : List Tk} (q : Qz ts) : Sz (pgP n ts) (fun p : Pg => (∀ x ∈ p.1, szP x.1) ∧ p.2.szs) := by
  unfold pgP
  exact (sz_ds n ts 0 q).thn fun l us d hl q => (sz_ss n us d q).thn fun b us d hb q => Sz.ok ⟨hl, hb⟩ q
end Go.Proofs.YtknoibocpbfmmaaGreatDoor

