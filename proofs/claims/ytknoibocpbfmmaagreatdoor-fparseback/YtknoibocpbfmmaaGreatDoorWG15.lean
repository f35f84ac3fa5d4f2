/- Texts of the proof, put together. -/
import Derived.Test.YtknoibocpbfmmaaGreatDoorWPbM
import Derived.Test.YtknoibocpbfmmaaGreatDoorWG6
import Derived.Test.YtknoibocpbfmmaaGreatDoorWG12
import Derived.Test.YtknoibocpbfmmaaGreatDoorWG4
import Derived.Test.YtknoibocpbfmmaaGreatDoorWG11
namespace Go.Proofs.YtknoibocpbfmmaaGreatDoor
open Go.RowKit
set_option linter.unusedVariables false
set_option linter.unusedSimpArgs false
theorem pb_cell {W V : World} {a : Addr} {v : Value} (g : Below W.heap.size W V) (h : W.cell? a = some v) : V.cell? a = some v := (World.cell?_of_block (w := W) (w' := V) (a := a) (g.block a.block (World.block_lt_of_cell? W a h))).trans h
/-- Declarations in memory. -/
def SlDc (V : World) (v : Value) (ds : List Dc) : Prop := ∃ (p : Option Addr) (q : Nat), v = .slice p ds.length q ∧ (ds = [] ∨ ∃ c u, p = some ⟨c, u, none⟩ ∧ ∀ j d, ds[j]? = some d → V.cell? ⟨c, u + j * 3, none⟩ = some (.string d.1) ∧ V.cell? ⟨c, u + j * 3 + 1, none⟩ = some (.int .i64 d.2.1) ∧ V.cell? ⟨c, u + j * 3 + 2, none⟩ = some (.int .i64 d.2.2))
set_option maxRecDepth 100000 in
theorem dc_ix (c u n q j : Nat) (h : j < n) (w : World) : (Instr.indexAt 22 (.slice (some ⟨c, u, none⟩) n q) (.int .i64 j)).run Tryz.prog w = .ok (.pointer (some ⟨c, u + j * 3, none⟩)) w := by
 have e2 : ∀ w, (sizeOf (Tryz.prog.elem 22)).run Tryz.prog w = .ok 3 w := fun w => by kernel_rfl
 rw [run_indexAt_slice (h := by first | exact Tryz.underlying22 | rfl), if_pos ⟨by omega, by omega⟩, e2]
 simp [go_sem]
theorem wd_ok {t : Int} (h : 1 ≤ t ∧ t ≤ 3) : (wdOf t).toList.isEmpty = false := by
 rcases (show t = 1 ∨ t = 2 ∨ t = 3 by omega) with rfl | rfl | rfl <;> decide +kernel
theorem wd_no {t : Int} (h : ¬ (1 ≤ t ∧ t ≤ 3)) : wdOf t = ⟨#[]⟩ := by
 unfold wdOf
 rw [if_neg (by omega), if_neg (by omega), if_neg (by omega)]
set_option maxRecDepth 100000 in
set_option maxHeartbeats 3200000 in
theorem pprog (ds : List Dc) (f : So) (S : Nat → Prop) (dv bv : Value) (b : Nat) (w : World) (hO : OpsAt w) (hG : b ≠ 0) (hS : ¬ S b) (hD : SlDc w dv ds) (hT : SlS w S bv f) (hR : RuAt w b (0, 0)) (hz : ∀ d ∈ ds, d.1.size ≤ 9223372036854775807) (hf : f.szs) :
  Calls Tryz.prog 51 #[.pointer (some ⟨b, 0, none⟩), .agg #[dv, bv]] w fun e w' => RuR (ruP (ds, f)) b w e w' := by
 obtain ⟨R, hQ⟩ : ∃ R, ruP (ds, f) = R := ⟨_, rfl⟩
 rw [hQ]
 unfold ruP at hQ
 simp only at hQ
 obtain ⟨p, q, rfl, hD⟩ := hD
 obtain ⟨pb, qb, rfl, hT0⟩ := hT
 have hT : Hid (SlS w S (.slice pb f.len qb) f) := ⟨pb, qb, rfl, hT0⟩
 have hO' : Hid (OpsAt w) := hO
 have hR' : Hid (RuAt w b (0, 0)) := hR
 have hD' : Hid (ds = [] ∨ ∃ c u, p = some ⟨c, u, none⟩ ∧ ∀ j d, ds[j]? = some d → w.cell? ⟨c, u + j * 3, none⟩ = some (.string d.1) ∧ w.cell? ⟨c, u + j * 3 + 1, none⟩ = some (.int .i64 d.2.1) ∧ w.cell? ⟨c, u + j * 3 + 2, none⟩ = some (.int .i64 d.2.2)) := hD
 obtain ⟨m, hm⟩ : ∃ m, ds.length = m := ⟨_, rfl⟩
 obtain ⟨n, hn⟩ : ∃ n, f.len = n := ⟨_, rfl⟩
 rw [hm] at hQ ⊢
 rw [hn] at hT ⊢
 have hm' : Hid (ds.length = m) := hm
 clear hT0 hO hR hD hm hn
 have hK := pblk_any f hf
 go_enter Tryz.func51, Tryz.ntmps51
 go_upto_region 1 with fail
 have gX := pb_new (Below.refl w.heap.size w) (.cells #[.slice p m q, .slice pb n qb] 25)
 have qX := World.alloc_heap_new w (.cells #[.slice p m q, .slice pb n qb] 25)
 obtain ⟨X, hX⟩ : ∃ X, w.alloc (.cells #[.slice p m q, .slice pb n qb] 25) = X := ⟨_, rfl⟩
 obtain ⟨B, hB⟩ : ∃ B, w.heap.size = B := ⟨_, rfl⟩
 rw [hX] at gX qX ⊢
 rw [hB] at qX
 (try rw [hB])
 have gX' : Hid (Below w.heap.size w X) := gX
 clear hX hB gX
 have x0 : X.cell? ⟨B, 0, none⟩ = some (.slice p m q) := by simp [World.cell?, qX]
 have x1 : X.cell? ⟨B, 1, none⟩ = some (.slice pb n qb) := by simp [World.cell?, qX]
 by_cases gd : m ≤ 24
 case neg =>
  rw [if_neg (by simp; omega)] at hQ
  obtain rfl := hQ
  have gd' : decide ((m : Int) ≤ 24) = false := decide_eq_false (by omega)
  go_wp2_with (first
   | (go_at_call 68; (with_reducible refine (pmust_no _).mono ?_); rintro e v1 ⟨rfl, rfl⟩)
   | fail)
  exact ⟨rfl, (Onl.refl _ _).below gX'.out, rfl⟩
 have gd' : decide ((m : Int) ≤ 24) = true := decide_eq_true (by omega)
 go_upto_region 3 with (first | (go_at_call 68; (with_reducible refine (pmust_yes _).mono ?_); rintro e v9 ⟨rfl, hv⟩; subst v9) | fail)
 go_loopw [14] (fun i wr => ∃ (j : Nat) (V : World), i = .int .i64 j ∧ V = wr ∧ j ≤ m ∧ Hid (Below X.heap.size X V) ∧ Hid (∀ k d, k < j → ds[k]? = some d → dcOk d = true)) (fun i _ => m - (intOf i).toNat)
 case atStart => exact ⟨0, X, rfl, rfl, by omega, Below.refl _ _, fun k d h => by omega⟩
 case round =>
  obtain ⟨j, V, rfl, e, hj, cc, hA⟩ := hrel
  subst e
  by_cases cm : j < m
  ·have cm' : (j : Int) < (m : Int) := by omega
   obtain ⟨d, hd⟩ : ∃ d, ds[j]? = some d := ⟨_, List.getElem?_eq_getElem (by rw [hm'.out]; exact cm)⟩
   have hdz := hz d (List.mem_of_getElem? hd)
   rcases hD'.out with h0 | ⟨c, u, rfl, hc⟩
   ·exfalso; have := hm'.out; rw [h0] at this; simp at this; omega
   obtain ⟨y0, y1, y2⟩ := hc j d hd
   have gV : Below w.heap.size w V := pb_call gX'.out cc.out
   have k0 := pb_cell gV y0
   have k1 := pb_cell gV y1
   have k2 := pb_cell gV y2
   clear y0 y1 y2 hc
   have ix := dc_ix c u m q j cm
   have kI := isName_any d.1 hdz
   have kW := pword d.2.1
   have hbad : dcOk d = false → none = R := fun h => by
    rw [← hQ, if_neg]
    intro h2
    rw [Bool.and_eq_true, List.all_eq_true] at h2
    have := h2.2 d (List.mem_of_getElem? hd)
    rw [h] at this
    cases this
   have hbad' : Hid (dcOk d = false → none = R) := hbad
   have hd' : Hid (ds[j]? = some d) := hd
   generalize u + j * 3 = o at *
   clear hd hbad gV hdz
   go_upto_region 5 with fail
   have gA := pb_new cc.out (.cells #[.string d.1, .int .i64 d.2.1, .int .i64 d.2.2] 53)
   have qA := World.alloc_heap_new V (.cells #[.string d.1, .int .i64 d.2.1, .int .i64 d.2.2] 53)
   obtain ⟨V2, hV2⟩ : ∃ X, V.alloc (.cells #[.string d.1, .int .i64 d.2.1, .int .i64 d.2.2] 53) = X := ⟨_, rfl⟩
   obtain ⟨b5, hb5⟩ : ∃ B, V.heap.size = B := ⟨_, rfl⟩
   rw [hV2] at gA qA ⊢
   rw [hb5] at qA
   (try rw [hb5])
   clear hV2 hb5 k0 k1 k2 ix
   have f0 : V2.cell? ⟨b5, 0, none⟩ = some (.string d.1) := by simp [World.cell?, qA]
   by_cases c1 : isN d.1.toList = true
   case neg =>
    obtain rfl := hbad'.out (by simp [dcOk, c1])
    have c1' : isN d.1.toList = false := by simpa using c1
    rw [c1'] at kI
    go_wp2_with (first
     | (go_at_call 69; (refine (kI _).mono ?_); rintro e v1 ⟨rfl, g1⟩)
     | (go_at_call 68; (with_reducible refine (pmust_no _).mono ?_); rintro e v1 ⟨rfl, rfl⟩)
     | fail)
    exact ⟨rfl, (Onl.refl _ _).below (pb_call gX'.out (pb_call gA g1)), rfl⟩
   rw [c1] at kI
   go_upto_region 6 with (first
    | (go_at_call 69; (refine (kI _).mono ?_); rintro e V3 ⟨rfl, g1⟩)
    | (go_at_call 68; (with_reducible refine (pmust_yes _).mono ?_); rintro e v9 ⟨rfl, hv⟩; subst v9)
    | fail)
   have qB := (g1.block b5 (Array.getElem?_eq_some_iff.1 qA).1).trans qA
   replace gA := pb_call gA g1
   clear f0 kI g1 qA
   have f1 : V3.cell? ⟨b5, 1, none⟩ = some (.int .i64 d.2.1) := by simp [World.cell?, qB]
   have f2 : V3.cell? ⟨b5, 2, none⟩ = some (.int .i64 d.2.2) := by simp [World.cell?, qB]
   by_cases c2 : 1 ≤ d.2.1 ∧ d.2.1 ≤ 3
   case neg =>
    obtain rfl := hbad'.out (by simp [dcOk, c1]; omega)
    rw [wd_no c2] at kW
    go_wp2_with (first
     | (go_at_call 33; (refine (kW _).mono ?_); rintro e v1 ⟨rfl, hv⟩; subst v1)
     | (go_at_call 68; (with_reducible refine (pmust_no _).mono ?_); rintro e v1 ⟨rfl, rfl⟩)
     | fail)
    exact ⟨rfl, (Onl.refl _ _).below (pb_call gX'.out gA), rfl⟩
   have wk := wd_ok c2
   generalize wdOf d.2.1 = wd at kW wk
   go_upto_region 7 with (first
    | (go_at_call 33; (refine (kW _).mono ?_); rintro e v1 ⟨rfl, hv⟩; subst v1)
    | (go_at_call 68; (with_reducible refine (pmust_yes _).mono ?_); rintro e v9 ⟨rfl, hv⟩; subst v9)
    | fail)
   clear kW wk f1
   by_cases c3 : 0 ≤ d.2.2 ∧ d.2.2 ≤ 64
   case neg =>
    obtain rfl := hbad'.out (by simp [dcOk, c1]; omega)
    by_cases c4 : 0 ≤ d.2.2
    ·have c4' : decide (0 ≤ d.2.2) = true := decide_eq_true c4
     have c5' : decide (d.2.2 ≤ 64) = false := decide_eq_false (by omega)
     go_wp2_with (first
      | (go_at_call 68; (with_reducible refine (pmust_no _).mono ?_); rintro e v1 ⟨rfl, rfl⟩)
      | fail)
     exact ⟨rfl, (Onl.refl _ _).below (pb_call gX'.out gA), rfl⟩
    ·have c4' : decide (0 ≤ d.2.2) = false := decide_eq_false c4
     go_wp2_with (first
      | (go_at_call 68; (with_reducible refine (pmust_no _).mono ?_); rintro e v1 ⟨rfl, rfl⟩)
      | fail)
     exact ⟨rfl, (Onl.refl _ _).below (pb_call gX'.out gA), rfl⟩
   have c4' : decide (0 ≤ d.2.2) = true := decide_eq_true c3.1
   have c5' : decide (d.2.2 ≤ 64) = true := decide_eq_true c3.2
   have wj : IntKind.i64.wrap ((j : Int) + 1) = ((j + 1 : Nat) : Int) := by have := gd; rw [IntKind.wrap_i64]; omega
   have hA2 : Hid (∀ k d, k < j + 1 → ds[k]? = some d → dcOk d = true) := fun k e hk he => by
    rcases (show k < j ∨ k = j by omega) with h | rfl
    ·exact hA.out k e h he
    ·rw [hd'.out] at he
     cases he
     simp [dcOk, c1, c2, c3]
   clear c2 c3
   go_wp2_with (first | (go_at_call 68; (with_reducible refine (pmust_yes _).mono ?_); rintro e v9 ⟨rfl, hv⟩; subst v9) | fail)
   exact ⟨⟨j + 1, _, by go_num, rfl, by omega, gA, hA2⟩, by simp [intOf]; omega⟩
  ·obtain rfl : j = m := by omega
   have nn : ¬ ((j : Int) < (j : Int)) := by omega
   rw [if_pos (by
    rw [Bool.and_eq_true]
    refine ⟨by simpa using gd, List.all_eq_true.2 fun d hdm => ?_⟩
    obtain ⟨k, hk, rfl⟩ := List.getElem_of_mem hdm
    exact hA.out k _ (by have := hm'.out; omega) (List.getElem?_eq_getElem hk))] at hQ
   have gV : Below w.heap.size w V := pb_call gX'.out cc.out
   have z1 := pb_cell cc.out x1
   have hS2 := hT.out.kp (Below.kp gV S)
   have kB := hK 1 (0, 0) S (.slice pb n qb) b V (by omega) (hO'.out.bel gV) hG hS hS2 (hR'.out.bel gV)
   rw [hQ] at kB
   have onV : Onl b w V := (Onl.refl _ _).below gV
   cases R with
   | none =>
    go_wp2_with (first
     | (go_at_call 70; (refine kB.mono ?_); rintro e v1 ⟨on1, rfl⟩)
     | fail)
    exact ⟨rfl, onV.trans on1, rfl⟩
   | some c2 =>
    go_wp2_with (first
     | (go_at_call 70; (refine kB.mono ?_); rintro e v1 ⟨on1, rfl, h1⟩)
     | fail)
    exact bodyPost_end (v := .tuple #[]) (by simp [results, Tryz.results51, go_sem]) rfl ⟨onV.trans on1, rfl, h1⟩
end Go.Proofs.YtknoibocpbfmmaaGreatDoor



namespace Go.Proofs.YtknoibocpbfmmaaGreatDoor
set_option linter.unusedVariables false
abbrev szP (s : ByteArray) : Prop := s.size ≤ 9223372036854775807
def Qz (ts : List Tk) : Prop := ∀ t ∈ ts, szP t.2.1
theorem Qz.tl {ts : List Tk} (h : Qz ts) : Qz ts.tail := fun t ht => h t (List.mem_of_mem_tail ht)
theorem sz0 : szP tx0 := Nat.zero_le _
theorem Qz.hd {ts : List Tk} (h : Qz ts) : szP (hd ts).2.1 := by
 cases ts with
 | nil => exact sz0
 | cons t ts => exact h t (by simp)
def Sz {α : Type} (r : Rs α) (A : α → Prop) : Prop := ∀ x us d, r = .ok x us d → A x ∧ Qz us
section
variable {α β : Type} {A : α → Prop} {B : β → Prop}
theorem Sz.ok {x : α} {us : List Tk} {d : Int} (h : A x) (q : Qz us) : Sz (.ok x us d) A := fun y vs d' e => by cases e; exact ⟨h, q⟩
theorem Sz.bad {p : Nat} : Sz (.bad p) A := fun y vs d' e => by cases e
theorem Sz.more : Sz (.more) A := fun y vs d' e => by cases e
theorem Sz.thn {r : Rs α} {f : α → List Tk → Int → Rs β} (h : Sz r A) (hf : ∀ x us d, A x → Qz us → Sz (f x us d) B) : Sz (r.thn f) B := fun y vs d' e => by
 cases r with
 | ok x us d => obtain ⟨a, q⟩ := h x us d rfl; exact hf x us d a q y vs d' e
 | bad p => cases e
 | more => cases e
theorem Sz.ite {c : Prop} [Decidable c] {x y : Rs α} (h : Sz x A) (k : Sz y A) : Sz (if c then x else y) A := by split <;> assumption
theorem Sz.want {s : ByteArray} {ts : List Tk} {f : List Tk → Rs α} (q : Qz ts) (h : ∀ us, Qz us → Sz (f us) A) : Sz (want s ts f) A := Sz.ite (h _ q.tl) Sz.bad
theorem Sz.name {ts : List Tk} {f : ByteArray → List Tk → Rs α} (q : Qz ts) (h : ∀ x us, szP x → Qz us → Sz (f x us) A) : Sz (nameP ts f) A := Sz.ite (h _ _ q.hd q.tl) Sz.bad
end
theorem sz_row {e : Ex} {f : Fo} (h : e.szs) (k : f.szs) : (e.row f).szs := ⟨h.1, h.2, k⟩
theorem sz_num {ts : List Tk} {d : Int} (q : Qz ts) : Sz (numP ts d) Ex.szs := Sz.ite (Sz.ok ⟨q.hd, trivial⟩ q.tl) Sz.bad
theorem sz_ex : ∀ n : Nat,
  (∀ lv o ts d, Qz ts → Sz (eP n lv o ts d) Ex.szs) ∧ (∀ lv o l ts d, Ex.szs l → Qz ts → Sz (lP n lv o l ts d) Ex.szs) ∧ (∀ o ts d, Qz ts → Sz (sP n o ts d) Ex.szs) ∧ (∀ o ts d, Qz ts → Sz (gP n o ts d) Ex.szs) ∧
  (∀ o ts d, Qz ts → Sz (vP n o ts d) Ex.szs) ∧ (∀ o ts d, Qz ts → Sz (iP n o ts d) Ex.szs) ∧ (∀ o ts d, Qz ts → Sz (cP n o ts d) Ex.szs)
 | 0 => ⟨fun _ _ _ _ _ => Sz.more, fun _ _ _ _ _ _ _ => Sz.more, fun _ _ _ _ => Sz.more, fun _ _ _ _ => Sz.more, fun _ _ _ _ => Sz.more, fun _ _ _ _ => Sz.more, fun _ _ _ _ => Sz.more⟩
 | n + 1 => by
  obtain ⟨he, hl, hs, hg, hv, hi, hc⟩ := sz_ex n
  refine ⟨fun lv o ts d q => ?_, fun lv o l ts d hl0 q => ?_, fun o ts d q => ?_, fun o ts d q => ?_, fun o ts d q => ?_, fun o ts d q => ?_, fun o ts d q => ?_⟩
  ·rw [eP]; exact (hs o ts d q).thn fun l us d hl1 q1 => hl lv o l us d hl1 q1
  ·rw [lP]; exact Sz.ite (Sz.ok hl0 q) ((he _ o _ d q.tl).thn fun r us d hr q1 => hl lv o _ us d ⟨sz0, sz_row hl0 (sz_row hr trivial)⟩ q1)
  ·rw [sP]; exact Sz.ite ((hs o _ d q.tl).thn fun e us d h q1 => Sz.ok ⟨sz0, sz_row h trivial⟩ q1) (Sz.ite ((hs o _ d q.tl).thn fun e us d h q1 => Sz.ok ⟨sz0, sz_row h trivial⟩ q1) (hg o ts d q))
  ·rw [gP]; exact Sz.ite (Sz.ite ((hi o _ d q.tl).thn fun e us d h q1 => Sz.ok ⟨sz0, sz_row h trivial⟩ q1) Sz.bad) (Sz.ite (hv o ts d q) (Sz.ite ((hi o _ d q.tl).thn fun e us d h q1 => Sz.ok ⟨sz0, sz_row h trivial⟩ q1) (Sz.ite ((hi o _ d q.tl).thn fun e us d h q1 => Sz.ok ⟨sz0, sz_row h trivial⟩ q1) (Sz.ite (hi o ts d q) (sz_num q)))))
  ·rw [vP]; exact Sz.ite (Sz.ite ((he 0 o _ d q.tl.tl).thn fun e us d h q1 => Sz.want q1 fun us q2 => Sz.ok ⟨q.hd, sz_row h trivial⟩ q2) (Sz.ok ⟨q.hd, trivial⟩ q.tl)) Sz.bad
  ·rw [iP]; exact hc _ ts _ q
  ·rw [cP]; exact Sz.want q fun us q1 => (he 0 o us d q1).thn fun e vs d h q2 => Sz.want q2 fun ws q3 => Sz.ok h q3
theorem sz_bd {ts : List Tk} {d : Int} (q : Qz ts) : Sz (bdP ts d) Ex.szs := Sz.ite ((sz_num q.tl).thn fun e us d h q1 => Sz.ok ⟨sz0, sz_row h trivial⟩ q1) (sz_num q)
theorem sz_n : Ex.szs exN := ⟨sz0, trivial⟩
theorem sz_read {ts : List Tk} {d : Int} (q : Qz ts) : Sz (readP ts d) St.szs := by
 unfold readP
 exact Sz.name q fun x us hx q => Sz.want q fun us q => Sz.want q fun us q => (sz_bd q).thn fun l us d hl q => Sz.want q fun us q => (sz_bd q).thn fun h us d hh q => Sz.want q fun us q => Sz.want q fun us q => Sz.ok ⟨hx, trivial, sz_n, hl, hh, trivial, trivial⟩ q
theorem sz_asg (n : Nat) {ts : List Tk} {d : Int} (q : Qz ts) : Sz (asgP n ts d) St.szs := by
 have he := (sz_ex n).1
 unfold asgP
 exact Sz.name q fun x us hx q => Sz.ite ((he 0 0 _ d q.tl).thn fun i us d hi q => Sz.want q fun us q => Sz.want q fun us q => (he 0 0 us d q).thn fun v us d hv q => Sz.want q fun us q => Sz.ok ⟨hx, sz_row hi trivial, hv, sz_n, sz_n, trivial, trivial⟩ q)
  (Sz.want q fun us q => (he 0 0 us d q).thn fun v us d hv q => Sz.want q fun us q => Sz.ok ⟨hx, trivial, hv, sz_n, sz_n, trivial, trivial⟩ q)
theorem sz_srow {s : St} {r : So} (h : s.szs) (k : r.szs) : (s.row r).szs := ⟨h.1, h.2.1, h.2.2.1, h.2.2.2.1, h.2.2.2.2.1, h.2.2.2.2.2.1, h.2.2.2.2.2.2, k⟩
theorem sz_st : ∀ n : Nat, (∀ ts d, Qz ts → Sz (stP n ts d) St.szs) ∧ (∀ ts d, Qz ts → Sz (blP n ts d) So.szs) ∧ (∀ ts d, Qz ts → Sz (bsP n ts d) So.szs)
 | 0 => ⟨fun _ _ _ => Sz.more, fun _ _ _ => Sz.more, fun _ _ _ => Sz.more⟩
 | n + 1 => by
  obtain ⟨hs, hb, hl⟩ := sz_st n
  have hc := (sz_ex n).2.2.2.2.2.2
  refine ⟨fun ts d q => ?_, fun ts d q => ?_, fun ts d q => ?_⟩
  ·rw [stP]
   refine Sz.ite (sz_read q.tl) (Sz.ite ((hc 0 _ d q.tl).thn fun c us d h1 q => (hb us d q).thn fun t us d h2 q => Sz.ite ((hb _ d q.tl).thn fun e us d h3 q => Sz.ok ?_ q) (Sz.ok ?_ q)) (Sz.ite ((hc 0 _ d q.tl).thn fun c us d h1 q => (hb us d q).thn fun t us d h2 q => Sz.ok ?_ q) (sz_asg n q)))
   ·exact ⟨sz0, trivial, h1, sz_n, sz_n, h2, h3⟩
   ·exact ⟨sz0, trivial, h1, sz_n, sz_n, h2, trivial⟩
   ·exact ⟨sz0, trivial, h1, sz_n, sz_n, h2, trivial⟩
  ·rw [blP]; exact Sz.want q fun us q => hl us d q
  ·rw [bsP]; exact Sz.ite (Sz.ok trivial q.tl) ((hs ts d q).thn fun s us d h1 q => (hl us d q).thn fun l us d h2 q => Sz.ok (sz_srow h1 h2) q)
theorem sz_dc {ts : List Tk} {d : Int} (q : Qz ts) : Sz (dcP ts d) (fun x : Dc => szP x.1) := by
 unfold dcP
 exact Sz.ite (Sz.name q.tl fun x us hx q => Sz.ite (Sz.ite (Sz.want q.tl.tl fun us q => Sz.want q fun us q => Sz.ok hx q) Sz.bad) (Sz.want q fun us q => Sz.ok hx q)) Sz.bad
theorem sz_ds : ∀ (n : Nat) ts d, Qz ts → Sz (dsP n ts d) (fun l : List Dc => ∀ x ∈ l, szP x.1)
 | 0, _, _, _ => Sz.more
 | n + 1, ts, d, q => by
  rw [dsP]
  exact Sz.ite ((sz_dc q).thn fun x us d hx q => (sz_ds n us d q).thn fun l us d hl q => Sz.ok (by intro y hy; rcases List.mem_cons.1 hy with rfl | hy; exact hx; exact hl y hy) q) (Sz.ok (by intro y hy; cases hy) q)
theorem sz_ss : ∀ (n : Nat) ts d, Qz ts → Sz (ssP n ts d) So.szs
 | 0, _, _, _ => Sz.more
 | n + 1, ts, d, q => by
  rw [ssP]
  exact Sz.ite (Sz.ok trivial q) (((sz_st n).1 ts d q).thn fun s us d h1 q => (sz_ss n us d q).thn fun l us d h2 q => Sz.ok (sz_srow h1 h2) q)
theorem sz_pg (n : Nat) {ts : List Tk} (q : Qz ts) : Sz (pgP n ts) (fun p : Pg => (∀ x ∈ p.1, szP x.1) ∧ p.2.szs) := by
 unfold pgP
 exact (sz_ds n ts 0 q).thn fun l us d hl q => (sz_ss n us d q).thn fun b us d hb q => Sz.ok ⟨hl, hb⟩ q
end Go.Proofs.YtknoibocpbfmmaaGreatDoor



namespace Go.Proofs.YtknoibocpbfmmaaGreatDoor
open Go.RowKit
set_option linter.unusedVariables false
set_option linter.unusedSimpArgs false
/-- Digits alone, at least one. -/
def Dg (l : List UInt8) : Prop := l ≠ [] ∧ ∀ b ∈ l, 48 ≤ b.toNat ∧ b.toNat ≤ 57
theorem kb4 {n : Nat} (h : kb n = 4) : 48 ≤ n ∧ n ≤ 57 := by
 revert h; unfold kb; (repeat' split) <;> omega
theorem kb4' {n : Nat} (h : 48 ≤ n ∧ n ≤ 57) : kb n = 4 := by
 unfold kb; (repeat' split) <;> omega
theorem kbn4 {n : Nat} (h : ¬ (kb n &&& 4 = 0)) : kb n = 4 := by
 rcases kb_five n with k | k | k | k | k <;> rw [k] at h ⊢ <;> simp at h
theorem all_of_cnt {l : List UInt8} (h : cnt 4 l = l.length) : ∀ b ∈ l, 48 ≤ b.toNat ∧ b.toNat ≤ 57 := by
 intro b hb
 obtain ⟨j, hj, rfl⟩ := List.mem_iff_getElem.mp hb
 exact kb4 (kbn4 (cnt_in 4 l j hj (by omega)))
theorem shape {T : List UInt8} {k : Nat} (h : tok T = (k, T.length)) (hk : k ≠ 0) :
  (k = 3 ∧ Dg T) ∨ (k = 4 ∧ ∃ D E, T = D ++ 46 :: E ∧ Dg D ∧ Dg E) ∨ (k ≠ 3 ∧ k ≠ 4 ∧ ∃ b t, T = b :: t ∧ ¬ (48 ≤ b.toNat ∧ b.toNat ≤ 57) ∧ b.toNat < 128) := by
 have hp : 1 ≤ T.length := by have := tok_pos (l := T) (by rw [h]; exact hk); rw [h] at this; exact this
 cases T with
 | nil => simp at hp
 | cons b t =>
  unfold tok at h
  split at h
  ·rename_i c2
   refine Or.inr (Or.inr ?_)
   have kb2 : kb b.toNat = 2 := by
    simp only [cnt] at c2
    rcases kb_five b.toNat with q | q | q | q | q <;> rw [q] at c2 ⊢ <;> simp at c2
   have hb : b.toNat < 128 := by
    by_cases z : b.toNat < 128
    ·exact z
    ·rw [kb_high (by omega)] at kb2; omega
   have kk : k ≠ 3 ∧ k ≠ 4 := by
    unfold wonL at h
    split at h
    ·have := (Prod.mk.inj h).1; omega
    ·split at h
     ·have := (Prod.mk.inj h).1; omega
     ·have := (Prod.mk.inj h).1; omega
   exact ⟨kk.1, kk.2, b, t, rfl, fun q => by have := kb4' q; omega, hb⟩
  ·rename_i c2
   split at h
   ·rename_i c4
    unfold iorL at h
    split at h
    ·rename_i q
     obtain ⟨rfl, e⟩ := Prod.mk.inj h
     refine Or.inr (Or.inl ⟨rfl, (b :: t).take (cnt 4 (b :: t)), (b :: t).drop (cnt 4 (b :: t) + 1), ?_, ⟨?_, ?_⟩, ⟨?_, ?_⟩⟩)
     ·have l1 : cnt 4 (b :: t) < (b :: t).length := by
       by_cases z : cnt 4 (b :: t) < (b :: t).length
       ·exact z
       ·rw [List.getElem?_eq_none (by omega)] at q; simp at q
      have e1 : (b :: t)[cnt 4 (b :: t)]'l1 = 46 := by
       have := q.1
       rw [List.getElem?_eq_getElem l1] at this
       exact Option.some.inj this
      conv => lhs; rw [← List.take_append_drop (cnt 4 (b :: t)) (b :: t), List.drop_eq_getElem_cons l1, e1]
     ·intro z
      have := congrArg List.length z
      rw [List.length_take] at this
      have l := cnt_le 4 (b :: t)
      simp only [List.length_nil] at this
      omega
     ·intro x hx
      obtain ⟨j, hj, rfl⟩ := List.mem_iff_getElem.mp hx
      rw [List.length_take] at hj
      rw [List.getElem_take]
      exact kb4 (kbn4 (cnt_in 4 (b :: t) j (by omega) (by omega)))
     ·intro z
      rw [z] at q
      simp [cnt] at q
     ·apply all_of_cnt
      rw [List.length_drop]; omega
    ·obtain ⟨rfl, e⟩ := Prod.mk.inj h
     exact Or.inl ⟨rfl, by simp, all_of_cnt e⟩
   ·rename_i c4
    split at h
    ·rename_i q
     obtain ⟨rfl, e⟩ := Prod.mk.inj h
     refine Or.inr (Or.inr ⟨by decide, by decide, b, t, rfl, fun z => c4 (by have := kb4' z; simp only [cnt, this]; simp), ?_⟩)
     unfold sgnN at q
     split at q
     ·rename_i s
      have s2 := s.2
      cases t with
      | nil => simp at s
      | cons y u =>
       rw [show (b :: y :: u).take 2 = [b, y] from rfl] at s2
       unfold isS2 at s2
       simp only [Bool.or_eq_true, beq_iff_eq, List.cons.injEq, and_true] at s2
       rcases s2 with ⟨rfl, _⟩ | ⟨rfl, _⟩ | ⟨rfl, _⟩ | ⟨rfl, _⟩ | ⟨rfl, _⟩ | ⟨rfl, _⟩ <;> decide
     ·split at q
      ·rename_i s
       have s1 := s.2
       simp only [List.headD_cons] at s1
       unfold isS1 at s1
       simp only [Bool.or_eq_true, beq_iff_eq] at s1
       omega
      ·omega
    ·exact absurd (Prod.mk.inj h).1.symm hk
end Go.Proofs.YtknoibocpbfmmaaGreatDoor



namespace Go.Proofs.YtknoibocpbfmmaaGreatDoor
open Go.RowKit
set_option linter.unusedVariables false
set_option linter.unusedSimpArgs false
/-- Between two rounds of block. -/
structure BlI (b B : Nat) (w V : World) (n : Nat) (R : Rs So) (us : List Tk) (d : Int) (v : Value) (ls : List St) (xs : List Value) : Prop where
 on : Onl b w V
 P : PAt V b B us 0 d
 own : V.ownsRow w.heap.size 87 17 v ls.length xs
 tr : CsAt V (fun k => w.heap.size ≤ k ∧ some k ≠ v.ownBlock) ls xs
 hR : ∃ k, k ≤ n ∧ R = (bsP k us d).thn fun l ts d => .ok (appS ls l) ts d
 z : Tz us
 ln : ls.length + us.length ≤ 1000000
theorem Rs.thn_ok' {α β γ : Type} {r : Rs α} {f : α → List Tk → Int → Rs β} {g : β → List Tk → Int → Rs γ} {x : α} {ts : List Tk} {d : Int} (h : r = .ok x ts d) : (r.thn f).thn g = (f x ts d).thn g := by rw [Rs.thn_ok h]
theorem st_cell (V : World) (cs : List Value) : ∀ j u, cs[j]? = some u → (V.alloc (.cells cs.toArray 87)).cell? ((⟨V.heap.size, 0, none⟩ : Addr).add j) = some u := fun j u h => by
 rw [Addr.add_mid, Nat.zero_add]
 simp [go_sem, h]
theorem st_one (s : St) (p0 p1 p2 p3 p4 p5 : Option Addr) (q0 q1 q2 q3 q4 q5 : Nat) : ∀ u ∈ ([.int .i64 s.dO, .string s.name, .slice p0 s.index.len q0, .int .i64 s.value.op, .string s.value.tx, .int .i64 s.value.ty, .slice p1 s.value.ks.len q1, .int .i64 s.low.op, .string s.low.tx, .int .i64 s.low.ty, .slice p2 s.low.ks.len q2, .int .i64 s.high.op, .string s.high.tx, .int .i64 s.high.ty, .slice p3 s.high.ks.len q3, .slice p4 s.thn.len q4, .slice p5 s.els.len q5] : List Value), u.oneCell' = true := by
 intro u hu
 simp only [List.mem_cons, List.not_mem_nil, or_false] at hu
 rcases hu with rfl | rfl | rfl | rfl | rfl | rfl | rfl | rfl | rfl | rfl | rfl | rfl | rfl | rfl | rfl | rfl | rfl <;> rfl
theorem bl_step {b B : Nat} {w V v1 v2 w3 : World} {n k : Nat} {R : Rs So} {us us2 : List Tk} {d' d2 : Int} {o : Option Addr} {cap : Nat} {ls : List St} {xs CS : List Value} {s : St} {v' : Value} {x : Obj} (hI : BlI b B w V n R us d' (.slice o ls.length cap) ls xs) (hk : k + 1 ≤ n) (hR : R = (bsP k us2 d2).thn fun l ts d => .ok (appS (ls ++ [s]) l) ts d)
  (bl : b < w.heap.size) (Bl : B < w.heap.size) (onN : Onl b V v2) (sz : V.heap.size ≤ v1.heap.size) (hP2 : PAt v2 b B us2 0 d2) (kS : StV v2 (Fr v1.heap.size) (.agg CS.toArray) s) (lC : CS.length = 17) (hown : w3.ownsRow w.heap.size 87 17 v' (ls.length + 1) (xs ++ CS))
  (hgrow : (v2.alloc x).grownBy w3 (Value.slice o ls.length cap).ownBlock) (hat : v'.ownBlock = (Value.slice o ls.length cap).ownBlock ∨ v'.ownBlock = some (v2.alloc x).heap.size) (z2 : Tz us2 ∧ us2.length < us.length) :
  BlI b B w w3 n R us2 d2 v' (ls ++ [s]) (xs ++ CS) ∧ msR b w3 = us2.length := by
 have hrow : ∀ k, (Value.slice o ls.length cap).ownBlock = some k → w.heap.size ≤ k ∧ k < V.heap.size := fun k h => hI.own.lt k h
 have onV := hI.on
 have s1 := onV.size
 have s2 := onN.size
 have sa : (v2.alloc x).heap.size = v2.heap.size + 1 := World.size_alloc _ _
 have g2 : Below v2.heap.size v2 (v2.alloc x) := pb_new (Below.refl _ _) _
 have on3 : Onl b w w3 := ((onV.trans onN).below g2).grown hgrow (fun k h => (hrow k h).1)
 have kp3 : ∀ S : Nat → Prop, (∀ k, S k → k < v2.heap.size ∧ (Value.slice o ls.length cap).ownBlock ≠ some k) → Kp S v2 w3 := fun S h k a _ => (hgrow.block k (by have := (h k a).1; omega) (fun e => (h k a).2 e.symm)).trans (g2.block k (h k a).1)
 have P3 : PAt w3 b B us2 0 d2 := by
  refine hP2.on (kp3 (fun k => k = b) (fun k e => ?_) b rfl (by omega)) (kp3 (fun k => k = B) (fun k e => ?_) B rfl (by omega))
  ·subst e; exact ⟨by omega, fun e => by have := (hrow _ e).1; omega⟩
  ·subst e; exact ⟨by omega, fun e => by have := (hrow _ e).1; omega⟩
 refine ⟨⟨on3, P3, by rw [List.length_append]; exact hown, ?_, ⟨k, by omega, hR⟩, z2.1, ?_⟩, P3.ms⟩
 ·refine CsAt.snoc lC ?_ ?_
  ·refine StV.lo (S := fun k => v1.heap.size ≤ k ∧ k < v2.heap.size) (fun k a => ⟨by omega, fun e => ?_⟩) (kS.lt.kp (kp3 _ (fun k a => ⟨a.2, fun e => by have h1 := (hrow k e).2; have h2 : v1.heap.size ≤ k := a.1; omega⟩)))
   rcases hat with h | h
   ·rw [h] at e; have := (hrow k e.symm).2; omega
   ·rw [h, sa] at e; have := Option.some.inj e; omega
  ·refine CsAt.lo (S := fun k => (w.heap.size ≤ k ∧ some k ≠ (Value.slice o ls.length cap).ownBlock) ∧ k < v2.heap.size) (fun k a => ⟨a.1.1, fun e => ?_⟩) (((hI.tr.kp (onN.kp (fun a => by have := a.1; omega))).lt).kp (kp3 _ (fun k a => ⟨a.2, fun e => a.1.2 e.symm⟩)))
   rcases hat with h | h
   ·rw [h] at e; exact a.1.2 e
   ·rw [h, sa] at e; have := Option.some.inj e; omega
 ·have := hI.ln; have := z2.2; rw [List.length_append]; simp; omega
set_option maxRecDepth 100000 in
set_option maxHeartbeats 3200000 in
theorem step_B (n : Nat) (hS : ∀ k, k ≤ n → SpSt k) : SpBl (n + 1) := by
 intro ts d z m nm b B w hO0 hG h
 obtain ⟨R, hR⟩ : ∃ R, blP (n + 1) ts d = R := ⟨_, rfl⟩
 rw [hR]
 rw [hR] at nm
 rw [blP] at hR
 have bl := h.lt
 have Bl := h.ltB z.ne
 obtain ⟨i0, hi, hz0, hz1, hz2⟩ : ∃ i, Tryz.prog.info? 87 = some i ∧ i.zero = some (.agg #[.int .i64 0, .string ⟨#[]⟩, .slice none 0 0, .int .i64 0, .string ⟨#[]⟩, .int .i64 0, .slice none 0 0, .int .i64 0, .string ⟨#[]⟩, .int .i64 0, .slice none 0 0, .int .i64 0, .string ⟨#[]⟩, .int .i64 0, .slice none 0 0, .slice none 0 0, .slice none 0 0]) ∧ i.size = 17 ∧ i.bytes = 264 := by
  have h := st_info
  cases hq : Tryz.prog.info? 87 with
  | none => rw [hq] at h; cases h
  | some i => rw [hq] at h; simp only [Option.map_some, Option.some.injEq, Prod.mk.injEq] at h; exact ⟨i, rfl, h.1, h.2.1, h.2.2⟩
 obtain ⟨t, us, rfl⟩ := z.cons
 have hne : t :: us ≠ [] := by simp
 by_cases c : t.2.1 = tLc
 case neg =>
  rw [want_no c] at hR
  have e0 : Hid (R = .bad t.2.2) := hR.symm
  clear hR nm hS hi hz0 hz1 hz2
  go_enter Tryz.func84, Tryz.ntmps84
  go_wp2_with (first
   | (go_at_call 80; (with_reducible refine (pwant_no b B t us 0 d tLc c _ h).mono ?_); rintro e v1 ⟨rfl, g1⟩; replace h := (Onl.refl b w).below g1)
   | fail)
  refine ⟨rfl, ?_⟩
  rw [e0.out]
  exact ⟨h, rfl⟩
 rw [want_yes c] at hR
 have zu := want_tail z c tLc_ne
 have kw := pwant_yes b B t us 0 d zu.ne _ h
 rw [c] at kw
 have hR0 : R = (bsP n us d).thn fun l ts d => .ok (appS [] l) ts d := by
  rw [← hR]; cases bsP n us d <;> rfl
 have hR' : Hid (R = (bsP n us d).thn fun l ts d => .ok (appS [] l) ts d) := hR0
 clear hR0
 have ln0 : Hid (us.length ≤ 1000000) := by have := m.out; simp at this; show _ ≤ _; omega
 clear hR c z m
 go_enter Tryz.func84, Tryz.ntmps84
 go_wp2_with (first
  | (go_at_call 80; (with_reducible refine kw.mono ?_); rintro e v1 ⟨rfl, hP1, on1⟩)
  | fail)
 have hI : BlI b B w v1 n R us d (.slice none 0 0) [] [] := ⟨on1, hP1, World.ownsRow_nil _ _ _ _, rfl, ⟨n, Nat.le_refl _, hR'.out⟩, zu, by have := ln0.out; simp; omega⟩
 clear kw h on1 hP1 hR' zu ln0
 go_loopw [3] (fun v wr => ∃ (V : World) (us : List Tk) (d' : Int) (ls : List St) (xs : List Value), V = wr ∧ Hid (BlI b B w V n R us d' v ls xs)) (fun _ wr => msR b wr)
 case atStart => exact ⟨_, us, d, [], [], rfl, hI⟩
 case round =>
  clear hI
  obtain ⟨V, us, d', ls, xs, rfl, hI⟩ := hrel
  obtain ⟨o, cap, rfl⟩ := po_shape hI.out.own
  obtain ⟨t, us', rfl⟩ := hI.out.z.cons
  have hne' : t :: us' ≠ [] := by simp
  obtain ⟨k, hk, hR⟩ := hI.out.hR
  have onV := hI.out.on
  have hP := hI.out.P
  cases k with
  | zero => rw [bsP] at hR; exact absurd hR nm
  | succ k =>
   rw [bsP] at hR
   by_cases c : t.2.1 = tRc
   case pos =>
    rw [if_pos (show isTx (t :: us') tRc = true from decide_eq_true c)] at hR
    simp only [List.tail_cons] at hR
    have e0 : Hid (R = .ok (appS ls .nil) us' d') := hR
    have zt := want_tail hI.out.z c tRc_ne
    have kw := pskip_yes b B t us' 0 d' zt.ne _ hP
    rw [c] at kw
    have fin : Hid (∀ V', Onl b V V' → PAt V' b B us' 0 d' → SoR R b B 0 w (.returned (.slice o ls.length cap)) V') := fun V' on hP' => by
     rw [e0.out]
     exact ⟨onV.trans on, _, rfl, CsAt.sl (po_onl on bl hI.out.own) (S := (fun k => w.heap.size ≤ k ∧ some k ≠ (Value.slice o ls.length cap).ownBlock)) (fun k a => a.1) (hI.out.tr.kp (on.kp (fun a => by have := a.1; omega))), hP'⟩
    clear hR hI c nm zt hi hz0 hz1 hz2 hS
    go_wp2_with (first
     | (go_at_call 78; (with_reducible refine kw.mono ?_); rintro e v1 ⟨rfl, hP1, on1⟩)
     | fail)
    exact bodyPost_ret (v := .slice o ls.length cap) (by simp [results, Tryz.results84, go_sem]) rfl (fin.out _ on1 hP1)
   case neg =>
    rw [if_neg (show ¬ isTx (t :: us') tRc = true by show ¬ decide (t.2.1 = tRc) = true; rw [decide_eq_true_iff]; exact c)] at hR
    have m1 : Hid ((t :: us').length ≤ 1000000) := by have := hI.out.ln; show _ ≤ _; omega
    have hS1 := hS k (by omega) (t :: us') d' hI.out.z m1
    cases hr : stP k (t :: us') d' with
    | more => rw [Rs.thn_more (Rs.thn_more hr)] at hR; exact absurd hR nm
    | bad pl =>
     rw [Rs.thn_bad (Rs.thn_bad hr)] at hR
     have kX := hS1 (by rw [hr]; simp) b B
     rw [hr] at kX
     have e0 : Hid (R = .bad pl) := hR
     clear hR hr nm hI hi hz0 hz1 hz2 hS hS1
     go_wp2_with (first
      | (go_at_call 78; (with_reducible refine (pskip_no b B t us' 0 d' tRc c _ hP).mono ?_); rintro e v1 ⟨rfl, g1⟩; have hP1 := hP.bel hne' g1; have on1 := (Onl.refl b V).below g1; have hO1 := hO0.onl hG (onV.trans on1))
      | (go_at_call 63; (refine (kX _ hO1 hG hP1).mono ?_); rintro e v2 ⟨on2, rfl⟩)
      | fail)
     refine ⟨rfl, ?_⟩
     rw [e0.out]
     exact ⟨(onV.trans on1).trans on2, rfl⟩
    | ok s us2 d2 =>
     rw [Rs.thn_ok' hr] at hR
     have kX := hS1 (by rw [hr]; simp) b B
     have sa := (st_sat k).1 (t :: us') d' hI.out.z
     rw [hr] at kX sa
     have hR3 : R = (bsP k us2 d2).thn fun l ts d => .ok (appS (ls ++ [s]) l) ts d := by
      rw [hR]; cases bsP k us2 d2 <;> simp only [Rs.thn, appS_snoc]
     have hR2 : Hid (R = (bsP k us2 d2).thn fun l ts d => .ok (appS (ls ++ [s]) l) ts d) := hR3
     clear hR3
     have z2 : Hid (Tz us2 ∧ us2.length < (t :: us').length) := sa
     have l1 : ls.length + 1 ≤ maxLen := by have := hI.out.ln; unfold maxLen; omega
     have l2 : (ls.length + 1) * 264 ≤ 140737488355328 := by have := hI.out.ln; omega
     have ms1 : Hid (msR b V = (t :: us').length) := hP.ms
     have own0 := hI.out.own
     clear hR hr sa hS hS1 nm m1
     go_wp2_with (first
      | (go_at_call 78; (with_reducible refine (pskip_no b B t us' 0 d' tRc c _ hP).mono ?_); rintro e v1 ⟨rfl, g1⟩; have hP1 := hP.bel hne' g1; have on1 := (Onl.refl b V).below g1; have hO1 := hO0.onl hG (onV.trans on1))
      | (go_at_call 63; (refine (kX _ hO1 hG hP1).mono ?_); rintro e v2 ⟨on2, vv, rfl, ⟨p0, q0, p1, q1, p2, q2, p3, q3, p4, q4, p5, q5, rfl, j0, j1, j2, j3, j4, j5⟩, hP2⟩; have kS : Hid (StV v2 (Fr v1.heap.size) (.agg #[.int .i64 s.dO, .string s.name, .slice p0 s.index.len q0, .int .i64 s.value.op, .string s.value.tx, .int .i64 s.value.ty, .slice p1 s.value.ks.len q1, .int .i64 s.low.op, .string s.low.tx, .int .i64 s.low.ty, .slice p2 s.low.ks.len q2, .int .i64 s.high.op, .string s.high.tx, .int .i64 s.high.ty, .slice p3 s.high.ks.len q3, .slice p4 s.thn.len q4, .slice p5 s.els.len q5]) s) := ⟨p0, q0, p1, q1, p2, q2, p3, q3, p4, q4, p5, q5, rfl, j0, j1, j2, j3, j4, j5⟩; clear j0 j1 j2 j3 j4 j5; have onN := on1.trans on2; have own2 := po_onl onN bl own0; have lw : w.heap.size ≤ v2.heap.size + 1 := by (have := (onV.trans onN).size; omega))
      | (at_builtin; refine wpList_append_own_at _ rfl _ _ 23 rfl w.heap.size 87 i0 (.agg #[.int .i64 0, .string ⟨#[]⟩, .slice none 0 0, .int .i64 0, .string ⟨#[]⟩, .int .i64 0, .slice none 0 0, .int .i64 0, .string ⟨#[]⟩, .int .i64 0, .slice none 0 0, .int .i64 0, .string ⟨#[]⟩, .int .i64 0, .slice none 0 0, .slice none 0 0, .slice none 0 0]) 17 264 Tryz.underlying23 hi hz0 hz1 hz2 rfl (by decide) _ _ _ rfl (own2.alloc _) ⟨v2.heap.size, 0, none⟩ 1 1 [.int .i64 s.dO, .string s.name, .slice p0 s.index.len q0, .int .i64 s.value.op, .string s.value.tx, .int .i64 s.value.ty, .slice p1 s.value.ks.len q1, .int .i64 s.low.op, .string s.low.tx, .int .i64 s.low.ty, .slice p2 s.low.ks.len q2, .int .i64 s.high.op, .string s.high.tx, .int .i64 s.high.ty, .slice p3 s.high.ks.len q3, .slice p4 s.thn.len q4, .slice p5 s.els.len q5] rfl rfl (st_cell _ _) (st_one _ _ _ _ _ _ _ _ _ _ _ _ _) l1 l2 (by rw [World.size_alloc]; exact lw) ?_; intro v' w3 hown' hgrow hnil hat; clear hnil)
      | fail)
     obtain ⟨hJ, hms⟩ := bl_step hI.out hk hR2.out bl Bl onN g1.size hP2 kS.out rfl hown' hgrow hat z2.out
     exact ⟨⟨w3, us2, d2, ls ++ [s], _, rfl, hJ⟩, by rw [hms, ms1.out]; exact z2.out.2⟩
end Go.Proofs.YtknoibocpbfmmaaGreatDoor


namespace Go.Proofs.YtknoibocpbfmmaaGreatDoor
open Go.RowKit
set_option linter.unusedVariables false
theorem st_upto : ∀ n : Nat, (∀ k, k ≤ n → SpSt k) ∧ SpBl n
 | 0 => ⟨fun k hk => by
   obtain rfl : k = 0 := by omega
   intro ts d z m nm
   rw [stP] at nm
   exact absurd rfl nm, by
   intro ts d z m nm
   rw [blP] at nm
   exact absurd rfl nm⟩
 | n + 1 => by
  obtain ⟨h1, h2⟩ := st_upto n
  have h3 := step_stmt n h2
  refine ⟨fun k hk => ?_, step_B n h1⟩
  rcases (show k ≤ n ∨ k = n + 1 by omega) with h | h
  ·exact h1 k h
  ·subst h; exact h3
theorem st_all (n : Nat) : SpSt n := (st_upto n).1 n (Nat.le_refl _)
end Go.Proofs.YtknoibocpbfmmaaGreatDoor


