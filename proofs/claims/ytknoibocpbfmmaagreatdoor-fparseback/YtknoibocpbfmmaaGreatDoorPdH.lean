/- A program's text is parsed as the program. -/
import Derived.Test.YtknoibocpbfmmaaGreatDoorPdG
namespace Go.Proofs.YtknoibocpbfmmaaGreatDoor
set_option linter.unusedVariables false
set_option linter.unusedSimpArgs false
/-- The digits of a small number. -/
def digT (n : Nat) : ByteArray := if n < 10 then ⟨#[UInt8.ofNat (48 + n)]⟩ else ⟨#[UInt8.ofNat (48 + n / 10), UInt8.ofNat (48 + n % 10)]⟩
def celL (n : Int) : List UInt8 := if n = 0 then [] else [91] ++ ((digT n.toNat).data.toList ++ [93])
def dcL (d : Dc) : List UInt8 := (wdOf d.2.1).data.toList ++ ([32] ++ (d.1.data.toList ++ (celL d.2.2 ++ ([59] ++ [10]))))
/-- A program's text. -/
def pgL (p : Pg) : List UInt8 := p.1.flatMap dcL ++ soL [] p.2
def dcK (d : Dc) : List Kt := (2, wdOf d.2.1) :: (1, d.1) :: ((if d.2.2 = 0 then [] else [(5, tLb), (3, digT d.2.2.toNat), (5, tRb)]) ++ [(5, tSe)])
/-- .. its tokens. -/
def pgK (p : Pg) : List Kt := p.1.flatMap dcK ++ soK p.2
theorem dig_all : ∀ n : Fin 65, 1 ≤ n.1 → tok (digT n.1).data.toList = (3, (digT n.1).data.toList.length) ∧ (digT n.1).data.toList ≠ [] ∧ celN (digT n.1) = (n.1 : Int) := by decide +kernel
theorem dig_of {n : Int} (h : 0 ≤ n ∧ n ≤ 64) (h0 : n ≠ 0) : tok (digT n.toNat).data.toList = (3, (digT n.toNat).data.toList.length) ∧ (digT n.toNat).data.toList ≠ [] ∧ celN (digT n.toNat) = n := by
  have := dig_all ⟨n.toNat, by omega⟩ (by show 1 ≤ n.toNat; omega)
  refine ⟨this.1, this.2.1, this.2.2.trans ?_⟩
  show ((n.toNat : Nat) : Int) = n
  omega
theorem dc_all {d : Dc} (h : dcOk d = true) : isN d.1.data.toList = true ∧ (1 ≤ d.2.1 ∧ d.2.1 ≤ 3) ∧ 0 ≤ d.2.2 ∧ d.2.2 ≤ 64 := by
  unfold dcOk at h
  simp only [Bool.and_eq_true, decide_eq_true_eq] at h
  rw [toL] at h
  exact h
theorem wd_word {ty : Int} (h : 1 ≤ ty ∧ ty ≤ 3) : isW (wdOf ty).data.toList = true := by
  rcases (show ty = 1 ∨ ty = 2 ∨ ty = 3 by omega) with rfl | rfl | rfl <;> decide
theorem rd_dc {d : Dc} (h : dcOk d = true) : Tox (dcL d) (kL (dcK d)) Any8 := by
  obtain ⟨h1, h2, h3⟩ := dc_all h
  unfold dcL dcK
  have e := (lt_word (wd_word h2)).app lt_32 (fun r _ => br_sp r)
  by_cases z : d.2.2 = 0
  · have := e.cat ((lt_name h1).app (lt_se.cat lt_10) fun r _ => br_se _)
    rw [if_pos z]
    unfold celL
    rw [if_pos z]
    simpa [kL] using this
  · obtain ⟨t1, t2, _⟩ := dig_of h3 z
    have := e.cat ((lt_name h1).app (lt_lb.cat (((lt_num (Or.inl rfl) t1 t2).app lt_rb fun r _ => br_rb _).cat (lt_se.cat lt_10))) fun r _ => br_lb _)
    rw [if_neg z]
    unfold celL
    rw [if_neg z]
    simpa [kL] using this
theorem rd_dcs : ∀ ds : List Dc, ds.all dcOk = true → Tox (ds.flatMap dcL) (kL (ds.flatMap dcK)) Any8
  | [], _ => lt_nil
  | d :: ds, h => by
    rw [List.all_cons, Bool.and_eq_true] at h
    rw [List.flatMap_cons, List.flatMap_cons, kL_app]
    exact (rd_dc h.1).cat (rd_dcs ds h.2)
theorem ru_parts {p : Pg} {c : Nat × Nat} (h : ruP p = some c) : p.1.length ≤ 24 ∧ p.1.all dcOk = true ∧ p.2.oks := by
  unfold ruP at h
  split at h
  · rename_i q
    simp only [Bool.and_eq_true, decide_eq_true_eq] at q
    unfold ruK at h
    rw [if_pos (by decide)] at h
    exact ⟨q.1, q.2, ruS_oks _ _ _ _ h⟩
  · cases h
theorem lx_pg {p : Pg} {c : Nat × Nat} (h : ruP p = some c) : Lx (pgL p) (kL (pgK p)) := by
  obtain ⟨_, h1, h2⟩ := ru_parts h
  have := ((rd_dcs p.1 h1).cat (rd_so p.2 [] h2 lt_nil)) [] [] trivial (.nil rfl)
  unfold pgL pgK
  rw [kL_app]
  simpa using this
theorem dc_parse {d : Dc} (h : dcOk d = true) {ts q : List Tk} (hk : ky ts = dcK d) (x : Int) : dcP (ts ++ q) x = .ok d q x ∧ tyOf (hd (ts ++ q)).2.1 ≠ 0 := by
  obtain ⟨h1, h2, h3⟩ := dc_all h
  obtain ⟨nm, ty, n⟩ := d
  unfold dcK at hk
  obtain ⟨a, ts1, rfl, k1⟩ := ky_cons hk
  obtain ⟨b, ts2, rfl, k2⟩ := ky_cons k1
  have et : tyOf (wdOf ty) = ty := by rcases (show ty = 1 ∨ ty = 2 ∨ ty = 3 by have h2' : 1 ≤ ty ∧ ty ≤ 3 := h2; omega) with rfl | rfl | rfl <;> decide
  refine ⟨?_, by show tyOf (wdOf ty) ≠ 0; rw [et]; have h2' : 1 ≤ ty ∧ ty ≤ 3 := h2; omega⟩
  unfold dcP
  by_cases z : n = 0
  · subst z
    obtain ⟨c, ts3, rfl, k3⟩ := ky_cons k2
    obtain rfl := ky_nil k3
    rw [List.cons_append, if_pos (by rfl), List.tail_cons, List.cons_append, nameP_hd, List.cons_append, if_neg (isTx_no (by decide)), want_hd]
    show Rs.ok (nm, tyOf (wdOf ty), (0 : Int)) q x = _
    rw [et]
  · have k2' : ky ts2 = [(5, tLb), (3, digT n.toNat), (5, tRb)] ++ [(5, tSe)] := by rw [← if_neg (c := n = 0) (t := ([] : List Kt)) (e := [(5, tLb), (3, digT n.toNat), (5, tRb)]) z]; exact k2
    obtain ⟨c, ts3, rfl, k3⟩ := ky_cons k2'
    obtain ⟨c1, ts4, rfl, k4⟩ := ky_cons k3
    obtain ⟨c2, ts5, rfl, k5⟩ := ky_cons k4
    obtain ⟨c3, ts6, rfl, k6⟩ := ky_cons k5
    obtain rfl := ky_nil k6
    have e5 : [(2, wdOf ty, a), (1, nm, b), (5, tLb, c), (3, digT n.toNat, c1), (5, tRb, c2), (5, tSe, c3)] ++ q = (2, wdOf ty, a) :: (1, nm, b) :: (5, tLb, c) :: (3, digT n.toNat, c1) :: (5, tRb, c2) :: (5, tSe, c3) :: q := rfl
    rw [e5, if_pos (by rfl), List.tail_cons, nameP_hd, isTx_yes, if_pos rfl, List.tail_cons, if_pos (by rfl), List.tail_cons, want_hd, want_hd]
    show Rs.ok (nm, tyOf (wdOf ty), celN (digT n.toNat)) q x = _
    rw [et, (dig_of h3 z).2.2]
theorem ds_parse : ∀ (ds : List Dc), ds.all dcOk = true → ∀ (ts q : List Tk) (x : Int), ky ts = ds.flatMap dcK → tyOf (hd q).2.1 = 0 → ∃ n, dsP n (ts ++ q) x = .ok ds q x
  | [], _, ts, q, x, hk, hq => by
    rw [ky_nil hk]
    exact ⟨1, by rw [List.nil_append, dsP, if_neg (by rw [hq]; exact fun h => h rfl)]⟩
  | d :: ds, h, ts, q, x, hk, hq => by
    rw [List.all_cons, Bool.and_eq_true] at h
    rw [List.flatMap_cons] at hk
    obtain ⟨t1, t2, rfl, k1, k2⟩ := ky_app hk
    obtain ⟨n, hn⟩ := ds_parse ds h.2 t2 q x k2 hq
    obtain ⟨a, b⟩ := dc_parse h.1 (q := t2 ++ q) k1 x
    refine ⟨n + 1, ?_⟩
    rw [List.append_assoc, dsP, if_pos b, a, thn_ok, hn]; rfl
theorem pg_parse {p : Pg} {c : Nat × Nat} (h : ruP p = some c) {ts : List Tk} (hk : ky ts = pgK p) (a : Nat) : ∃ n d, pgP n (ts ++ [eT a]) = .ok p [eT a] d := by
  obtain ⟨_, h1, h2⟩ := ru_parts h
  obtain ⟨t1, t2, rfl, k1, k2⟩ := ky_app hk
  obtain ⟨n2, d, hs⟩ := (ps_so p.2 h2).2 t2 a 0 k2
  have hq : tyOf (hd (t2 ++ [eT a])).2.1 = 0 := by
    cases hf : p.2 with
    | nil => rw [hf] at k2; rw [ky_nil k2]; rfl
    | cons d nm ix v l h' t e r =>
      rw [hf] at k2 h2
      obtain ⟨k, s, u, e1, hb⟩ := so_bg h2
      rw [e1] at k2
      obtain ⟨b, ts', rfl, _⟩ := ky_cons k2
      exact tyOf_bg hb
  obtain ⟨n1, hn⟩ := ds_parse p.1 h1 t1 (t2 ++ [eT a]) 0 k1 hq
  refine ⟨max n1 n2, d, ?_⟩
  unfold pgP
  rw [List.append_assoc, dsP_up hn ok_nm (Nat.le_max_left _ _), thn_ok, ssP_up hs ok_nm (Nat.le_max_right _ _)]; rfl
theorem kL_inj {a b : List Kt} (h : kL a = kL b) : a = b := by
  have := congrArg (List.map (fun x : Nat × List UInt8 => ((x.1, (⟨x.2.toArray⟩ : ByteArray)) : Kt))) h
  simpa [kL, List.map_map, Function.comp_def] using this
theorem ext_list' (s : ByteArray) (a b : Nat) : (s.extract a b).data.toList = (s.toList.drop a).take (b - a) := by
  rw [← toL, toL_cut, List.drop_take]
/-- A program's text is parsed as the program, if it is parsed. -/
theorem prs_back {p q : Pg} {c : Nat × Nat} (h : ruP p = some c) {s : ByteArray} (hs : s.data.toList = pgL p) (hq : prsL s = .ok q) : q = p := by
  unfold prsL at hq
  cases hc : scanL s.toList with
  | error e => rw [hc] at hq; cases hq
  | ok t =>
    rw [hc] at hq
    simp only at hq
    have x := scanL_Lx hc
    have y := lx_pg h
    rw [← hs, ← toL] at y
    have z := x.det y
    have hk : ky (t.map (fun x => (x.1, s.extract x.2.1 (x.2.1 + x.2.2), x.2.1))) = pgK p := by
      apply kL_inj
      rw [← z]
      simp only [ky, kL, List.map_map]
      apply List.map_congr_left
      intro w _
      simp only [Function.comp, ext_list']
      rw [Nat.add_sub_cancel_left]
    obtain ⟨n, d, hn⟩ := pg_parse h hk s.size
    have e : tks s t = t.map (fun x => (x.1, s.extract x.2.1 (x.2.1 + x.2.2), x.2.1)) ++ [eT s.size] := rfl
    rw [← e] at hn
    cases hr : pgP 16500 (tks s t) with
    | bad a => rw [hr] at hq; cases hq
    | more => rw [hr] at hq; cases hq
    | ok p' us d' =>
      have := mo_both (F := fun n => pgP n (tks s t)) (fun n => mo_pg n _) (n := n) (n' := 16500) (by rw [hn]; exact ok_nm) (by rw [hr]; exact ok_nm)
      rw [hn, hr] at this
      rw [hr] at hq
      unfold parT at hq
      simp only at hq
      split at hq
      · cases hq; cases this; rfl
      · cases hq
end Go.Proofs.YtknoibocpbfmmaaGreatDoor

