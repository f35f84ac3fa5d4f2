/- Texts of the proof, put together. -/
import Derived.Test.YtknoibocpbfmmaaGreatDoorTie
import Derived.Test.YtknoibocpbfmmaaGreatDoorCards
import Derived.Test.YtknoibocpbfmmaaGreatDoorZG1
import Derived.Test.YtknoibocpbfmmaaGreatDoorZG2
import Derived.Test.YtknoibocpbfmmaaGreatDoorZG3
import Derived.Test.YtknoibocpbfmmaaGreatDoorZG4
import Derived.Test.YtknoibocpbfmmaaGreatDoorZG5
import Derived.Test.YtknoibocpbfmmaaGreatDoorZG6
import Derived.Test.YtknoibocpbfmmaaGreatDoorZG7
import Derived.Test.YtknoibocpbfmmaaGreatDoorZG8
import Derived.Test.YtknoibocpbfmmaaGreatDoorZG9
import Derived.Test.YtknoibocpbfmmaaGreatDoorZG10
import Derived.Test.YtknoibocpbfmmaaGreatDoorZPaL
import Derived.Test.YtknoibocpbfmmaaGreatDoorZPaM
import Derived.Test.YtknoibocpbfmmaaGreatDoorZG11
import Derived.Test.YtknoibocpbfmmaaGreatDoorZPaS
import Derived.Test.YtknoibocpbfmmaaGreatDoorZG12
import Derived.Test.YtknoibocpbfmmaaGreatDoorZG13
import Derived.Test.YtknoibocpbfmmaaGreatDoorZPbD
import Derived.Test.YtknoibocpbfmmaaGreatDoorZG14
import Derived.Test.YtknoibocpbfmmaaGreatDoorZPbH
import Derived.Test.YtknoibocpbfmmaaGreatDoorZG15
import Derived.Test.YtknoibocpbfmmaaGreatDoorZG16
import Derived.Test.YtknoibocpbfmmaaGreatDoorZPbM
import Derived.Test.YtknoibocpbfmmaaGreatDoorShelf
import Derived.Test.YtknoibocpbfmmaaGreatDoorZWpI
import Derived.Test.YtknoibocpbfmmaaGreatDoorZWpJ
import Derived.Test.YtknoibocpbfmmaaGreatDoorZG17
import Derived.Test.YtknoibocpbfmmaaGreatDoorZG18
import Derived.Test.YtknoibocpbfmmaaGreatDoorZG19
import Derived.Test.YtknoibocpbfmmaaGreatDoorZPbS
import Derived.Test.YtknoibocpbfmmaaGreatDoorZG20
import Derived.Test.YtknoibocpbfmmaaGreatDoorZPeC
import Derived.Test.YtknoibocpbfmmaaGreatDoorZG21
import Derived.Test.YtknoibocpbfmmaaGreatDoorZPeF
import Derived.Test.YtknoibocpbfmmaaGreatDoorZPeG
import Derived.Test.YtknoibocpbfmmaaGreatDoorZPeH
import Derived.Test.YtknoibocpbfmmaaGreatDoorZG22
import Derived.Test.YtknoibocpbfmmaaGreatDoorZPbU
import Derived.Test.YtknoibocpbfmmaaGreatDoorZPbV
import Derived.Test.YtknoibocpbfmmaaGreatDoorZPbW
import Derived.Test.YtknoibocpbfmmaaGreatDoorZG23
namespace Go.Proofs.YtknoibocpbfmmaaGreatDoor
set_option linter.unusedVariables false
set_option linter.unusedSimpArgs false
/-- A token without its place. -/
abbrev Kt := Nat × ByteArray
end Go.Proofs.YtknoibocpbfmmaaGreatDoor


namespace Go.Proofs.YtknoibocpbfmmaaGreatDoor
set_option linter.unusedVariables false
set_option linter.unusedSimpArgs false
def kL (ks : List Kt) : List (Nat × List UInt8) := ks.map (fun x => (x.1, x.2.data.toList))
end Go.Proofs.YtknoibocpbfmmaaGreatDoor


namespace Go.Proofs.YtknoibocpbfmmaaGreatDoor
set_option linter.unusedVariables false
set_option linter.unusedSimpArgs false
theorem ssP_up {n m : Nat} {ts : List Tk} {d : Int} {R : Rs So} (h : ssP n ts d = R) (hR : R ≠ .more) (hm : n ≤ m) : ssP m ts d = R := by
  obtain ⟨j, rfl⟩ := Nat.exists_eq_add_of_le hm
  exact (mo_upto (F := fun n => ssP n ts d) (fun n => mo_ss n ts d) n j (by rw [h]; exact hR)).trans h
theorem dsP_up {n m : Nat} {ts : List Tk} {d : Int} {R : Rs (List Dc)} (h : dsP n ts d = R) (hR : R ≠ .more) (hm : n ≤ m) : dsP m ts d = R := by
  obtain ⟨j, rfl⟩ := Nat.exists_eq_add_of_le hm
  exact (mo_upto (F := fun n => dsP n ts d) (fun n => mo_ds n ts d) n j (by rw [h]; exact hR)).trans h
end Go.Proofs.YtknoibocpbfmmaaGreatDoor


namespace Go.Proofs.YtknoibocpbfmmaaGreatDoor
set_option linter.unusedVariables false
set_option linter.unusedSimpArgs false
theorem pgP_up {n m : Nat} {ts : List Tk} {R : Rs Pg} (h : pgP n ts = R) (hR : R ≠ .more) (hm : n ≤ m) : pgP m ts = R := by
  unfold pgP at h ⊢
  cases h1 : dsP n ts 0 with
  | more => rw [h1] at h; exact absurd h.symm hR
  | bad a => rw [dsP_up h1 (by simp) hm]; rw [h1] at h; exact h
  | ok l us d =>
    rw [dsP_up h1 (by simp) hm]
    rw [h1] at h
    simp only [Rs.thn] at h ⊢
    cases h2 : ssP n us d with
    | more => rw [h2] at h; exact absurd h.symm hR
    | bad a => rw [ssP_up h2 (by simp) hm]; rw [h2] at h; exact h
    | ok b vs e => rw [ssP_up h2 (by simp) hm]; rw [h2] at h; exact h
theorem pgP_any {n m : Nat} {ts : List Tk} (hn : pgP n ts ≠ .more) (hm : pgP m ts ≠ .more) : pgP n ts = pgP m ts := by
  rcases Nat.le_total n m with k | k
  · exact (pgP_up rfl hn k).symm
  · exact pgP_up rfl hm k
theorem isN_el : isN tEl.toList = false := by decide +kernel
/-- A program doesn't begin with else. -/
theorem no_else {N : Nat} {tb : List Tk} {e : Nat} {q : Pg} {vs : List Tk} {d : Int} (h : pgP N (tb ++ [eT e]) = .ok q vs d) (hn : ∀ x ∈ tb, x.1 = 1 → isN x.2.1.toList = true) (hk : Kd tb) : isTx (tb ++ [eT e]) tEl = false := by
  cases tb with
  | nil => exact decide_eq_false (show ¬ (tx0 : ByteArray) = tEl by decide)
  | cons x r =>
    by_cases c : x.2.1 = tEl
    · exfalso
      have x1 : x.1 ≠ 1 := fun h1 => by
        have := hn x (by simp) h1
        rw [c, isN_el] at this
        cases this
      have x0 := hk x (by simp)
      obtain ⟨us, k, h1, h2⟩ := pg_parts h
      cases N with
      | zero => cases h1
      | succ n =>
        rw [dsP, if_neg (by show ¬ tyOf x.2.1 ≠ 0; rw [c]; decide)] at h1
        injection h1 with g1 g2 g3
        rw [← g2] at h2
        clear g1 g2 g3
        rw [ssP, if_neg (show ¬ (hd (x :: r ++ [eT e])).1 = 0 from x0)] at h2
        cases n with
        | zero => cases h2
        | succ n =>
          rw [stP, if_neg (by show ¬ decide (x.2.1 = tRd) = true; rw [c]; decide), if_neg (by show ¬ decide (x.2.1 = tIf) = true; rw [c]; decide), if_neg (by show ¬ decide (x.2.1 = tWh) = true; rw [c]; decide)] at h2
          unfold asgP nameP at h2
          rw [if_neg (show ¬ (hd (x :: r ++ [eT e])).1 = 1 from x1)] at h2
          cases h2
    · exact decide_eq_false c
theorem toL_add (a b : ByteArray) : (a ++ b).toList = a.toList ++ b.toList := by rw [toL, toL, toL]; simp
theorem ext_eq {s s' : ByteArray} {a b a' b' : Nat} (h : (s.toList.take b).drop a = (s'.toList.take b').drop a') : s.extract a b = s'.extract a' b' := by
  apply ByteArray.ext
  apply Array.ext'
  have e : ∀ (x : ByteArray) (a b : Nat), (x.extract a b).data.toList = (x.toList.take b).drop a := fun x a b => by rw [← toL, toL_cut]
  rw [e, e, h]
theorem par_ok {ts : List Tk} {r : Rs Pg} {p : Pg} (h : parT ts r = .ok p) : ∃ vs d, r = .ok p vs d ∧ d ≤ 24 ∧ (ruP p).isSome = true := by
  cases r with
  | ok x vs d =>
    have h' : (if (decide (d ≤ 24) && (ruP x).isSome) = true then Except.ok x else Except.error (5, 0)) = Except.ok p := h
    split at h'
    · rename_i c
      simp only [Bool.and_eq_true, decide_eq_true_eq] at c
      cases h'
      exact ⟨vs, d, rfl, c.1, c.2⟩
    · cases h'
  | bad a => cases h
  | more => cases h
theorem tks_names {s : ByteArray} {t : List (Nat × Nat × Nat)} (h : scanL s.toList = .ok t) : ∀ x ∈ t.map (fun x => (x.1, s.extract x.2.1 (x.2.1 + x.2.2), x.2.1)), x.1 = 1 → isN x.2.1.toList = true := by
  intro x hx x1
  obtain ⟨y, hy, rfl⟩ := List.mem_map.1 hx
  have := scanL_names h y hy x1
  show isN (s.extract y.2.1 (y.2.1 + y.2.2)).toList = true
  rw [toL_cut, List.drop_take, show y.2.1 + y.2.2 - y.2.1 = y.2.2 by omega]
  exact this
theorem tks_kd {s : ByteArray} {t : List (Nat × Nat × Nat)} (h : scanL s.toList = .ok t) : Kd (t.map (fun x => (x.1, s.extract x.2.1 (x.2.1 + x.2.2), x.2.1))) := fun x hx => by
  obtain ⟨y, hy, rfl⟩ := List.mem_map.1 hx
  exact (scanL_kinds h y hy).1
/-- A program behind another. -/
theorem prs_join {a b : ByteArray} {p q : Pg} (ha : prsL a = .ok p) (hb : prsL b = .ok q) (hc : q.1 = [] ∨ p.2 = .nil) :
    (∃ x, prsL (a ++ ⟨#[32]⟩ ++ b) = .error (5, x)) ∨ prsL (a ++ ⟨#[32]⟩ ++ b) = .ok (p.1 ++ q.1, p.2.app q.2) := by
  obtain ⟨J, hJ⟩ : ∃ J, a ++ (⟨#[32]⟩ : ByteArray) ++ b = J := ⟨_, rfl⟩
  have eJ : J.toList = a.toList ++ 32 :: b.toList := by
    rw [← hJ, toL_add, toL_add, List.append_assoc]
    rw [show (⟨#[32]⟩ : ByteArray).toList = [32] by rw [toL]]
    rfl
  rw [hJ]
  obtain ⟨t, ht⟩ := prs_scan ha
  obtain ⟨u, hu⟩ := prs_scan hb
  have sj := scanL_app ht hu
  rw [← eJ] at sj
  rcases sj with sj | ⟨x, sj⟩
  · unfold prsL at ha hb ⊢
    rw [ht] at ha
    rw [hu] at hb
    rw [sj]
    simp only at ha hb ⊢
    obtain ⟨va, d1, pa, ra, _⟩ := par_ok ha
    obtain ⟨vb, d2, pb, rb, _⟩ := par_ok hb
    have ka := scanL_kinds ht
    have kb := scanL_kinds hu
    rw [toL_len] at ka kb sj
    have eT' : tks J (t ++ u.map fun x => (x.1, x.2.1 + (a.size + 1), x.2.2)) = t.map (fun x => (x.1, a.extract x.2.1 (x.2.1 + x.2.2), x.2.1)) ++ ((u.map (fun x => (x.1, b.extract x.2.1 (x.2.1 + x.2.2), x.2.1))).map (sh (a.size + 1)) ++ [eT J.size]) := by
      unfold tks
      rw [List.map_append, List.append_assoc]
      congr 1
      · apply List.map_congr_left
        intro x hx
        have := (ka x hx).2
        have e : J.extract x.2.1 (x.2.1 + x.2.2) = a.extract x.2.1 (x.2.1 + x.2.2) := ext_eq (by rw [eJ, List.take_append_of_le_length (by rw [toL_len]; exact this)])
        rw [e]
      · congr 1
        rw [List.map_map, List.map_map]
        apply List.map_congr_left
        intro x hx
        have e : J.extract (x.2.1 + (a.size + 1)) (x.2.1 + (a.size + 1) + x.2.2) = b.extract x.2.1 (x.2.1 + x.2.2) := ext_eq (by
          rw [List.drop_take, List.drop_take, eJ]
          rw [show x.2.1 + (a.size + 1) + x.2.2 - (x.2.1 + (a.size + 1)) = x.2.1 + x.2.2 - x.2.1 by omega]
          congr 1
          rw [show x.2.1 + (a.size + 1) = a.toList.length + (1 + x.2.1) by rw [toL_len]; omega, List.drop_append, Nat.add_comm 1 x.2.1, List.drop_eq_nil_of_le (by omega), Nat.add_sub_cancel_left]
          rfl)
        show (x.1, J.extract (x.2.1 + (a.size + 1)) (x.2.1 + (a.size + 1) + x.2.2), x.2.1 + (a.size + 1)) = (x.1, b.extract x.2.1 (x.2.1 + x.2.2), x.2.1 + (a.size + 1))
        rw [e]
    rw [toL_len]
    have pb' := pb
    have pa' := pa
    unfold tks at pb' pa'
    obtain ⟨M, hM⟩ := jn_pg a.size b.size J.size (a.size + 1) (tks_kd ht) (tks_kd hu) pa' pb' (no_else pb' (tks_names hu) (tks_kd hu)) hc
    have nm := tks_nm (s := J) (scanL_len sj)
    rw [eT'] at nm ⊢
    rw [pgP_any nm (by rw [hM]; simp), hM]
    unfold parT
    simp only
    split
    · exact Or.inr rfl
    · exact Or.inl ⟨0, rfl⟩
  · exact Or.inl ⟨x, by unfold prsL; rw [sj]⟩
/-- The points of statements. -/
def So.pts : So → Nat
  | .nil => 0
  | .cons _ _ _ _ _ _ t e r => t.pts + e.pts + r.pts + 1
theorem So.pts_app : ∀ f g : So, (f.app g).pts = f.pts + g.pts
  | .nil, g => by rw [So.app, So.pts, Nat.zero_add]
  | .cons a b c d e f t l r, g => by rw [So.app, So.pts, So.pts, So.pts_app r g]; omega
theorem ruS_pts : ∀ (f : So) (deep : Nat) (c c' : Nat × Nat), ruS deep f c = some c' → c'.1 = c.1 + f.pts
  | .nil, _, c, c', q => by
    have q' : some c = some c' := q
    cases q'
    rfl
  | .cons d nm ix v l h t e r, deep, c, c', q => by
    rw [ruS] at q
    obtain ⟨pc, q⟩ := oi' q
    obtain ⟨c2, q, qr⟩ := ob' q
    have r1 := ruS_pts r _ _ _ qr
    have main : c2.1 = c.1 + 1 + t.pts + e.pts := by
      by_cases d1 : d = 1
      · rw [if_pos d1] at q
        obtain ⟨a, q⟩ := oi' q
        obtain ⟨x, q1, q⟩ := ob' q
        obtain ⟨y, q2, q⟩ := ob' q
        obtain ⟨b, q⟩ := oi' q
        obtain ⟨_, _, _, _, _, b3, b4⟩ := bare_all b
        injection q with q
        rw [← q, so_len0 b3, so_len0 b4]
        rfl
      rw [if_neg d1] at q
      by_cases d2 : d = 2
      · rw [if_pos d2] at q
        obtain ⟨a, q⟩ := oi' q
        obtain ⟨x, q1, q⟩ := ob' q
        obtain ⟨y, q2, q⟩ := ob' q
        obtain ⟨b, q⟩ := oi' q
        obtain ⟨_, _, _, _, _, b3, b4⟩ := bare_all b
        injection q with q
        rw [← q, so_len0 b3, so_len0 b4]
        rfl
      rw [if_neg d2] at q
      by_cases d3 : d = 3
      · rw [if_pos d3] at q
        obtain ⟨x, q1, q⟩ := ob' q
        obtain ⟨a, q⟩ := oi' q
        obtain ⟨y, q2, q⟩ := ob' q
        obtain ⟨z, q3, q⟩ := ob' q
        obtain ⟨b, q⟩ := oi' q
        have e1 := ruS_pts t _ _ _ q2
        have e2 := ruS_pts e _ _ _ q3
        cases q
        rw [e2, e1]
      rw [if_neg d3] at q
      by_cases d4 : d = 4
      · rw [if_pos d4] at q
        obtain ⟨x, q1, q⟩ := ob' q
        obtain ⟨a, q⟩ := oi' q
        obtain ⟨y, q2, q⟩ := ob' q
        obtain ⟨b, q⟩ := oi' q
        obtain ⟨_, _, _, _, _, _, b4⟩ := bare_all b
        have e1 := ruS_pts t _ _ _ q2
        injection q with q
        rw [← q, e1, so_len0 b4]
        rfl
      · rw [if_neg d4] at q
        cases q
    rw [r1, main, So.pts]
    omega
theorem prs_ru {s : ByteArray} {p : Pg} (h : prsL s = .ok p) : (ruP p).isSome = true := by
  obtain ⟨t, ht⟩ := prs_scan h
  unfold prsL at h
  rw [ht] at h
  obtain ⟨_, _, _, _, r⟩ := par_ok h
  exact r
/-- The points of a program that a text is. -/
theorem ms_pts {s : ByteArray} {p : Pg} (h : prsL s = .ok p) : (msP (p.1, p.2)).1 = (p.2.pts : Nat) ∧ p.2.pts ≤ 256 := by
  have r := prs_ru h
  unfold msP
  rw [show (p.1, p.2) = p from rfl]
  cases hr : ruP p with
  | none => rw [hr] at r; cases r
  | some c =>
    simp only
    unfold ruP at hr
    obtain ⟨_, hr⟩ := oi' hr
    unfold ruK at hr
    obtain ⟨_, hr⟩ := oi' hr
    have e := ruS_pts _ _ _ _ hr
    have b := (ruS_wt _ _ _ _ hr).2.1 (by show 0 ≤ 256; omega)
    have e' : c.1 = p.2.pts := by rw [e]; exact Nat.zero_add _
    rw [← e']
    exact ⟨rfl, b⟩
end Go.Proofs.YtknoibocpbfmmaaGreatDoor


namespace Go.Proofs.YtknoibocpbfmmaaGreatDoor
open Go.RowKit
set_option linter.unusedVariables false
set_option linter.unusedSimpArgs false
theorem StepI.ofg {P : Program} {ops : Array Oper} {Q : Exit → Act → World → Prop} {T : Array Value} {D : List Deferred} {ds : List Nat} {W : World} {R : Nat → Value → World → Prop} {i : Nat} {o : Oper} (j dj : Nat) (b : Bool) (hg : o.guard = some (j, b)) (hj : dstOf ops j = some dj) (hc : (depsB .any ops o).contains (j, dj) = true) (hv : ∀ v w, R j v w → v = .bool b) (hds : ((depsB .any ops o).all fun p => ds.contains p.2 && decide (p.2 < T.size)) = true)
    (h : ∀ (A : Act) (w : World), Below W.heap.size W w → (∀ d, ds.contains d = false → A.tmps[d]?.getD undef = T.getD d undef) → (∀ k d, (depsB .any ops o).contains (k, d) = true → R k (A.tmps[d]?.getD undef) w) → ∀ K' : Act → World → Prop, Shut (∀ v w', Below w.heap.size w w' → R i v w' → K' (A.put o.dst v) w') → Oper.wp P o A w K' Q) : StepI P ops Q T D ds W R i o := by
  intro g w hb hd K' hK
  have hgj := hv _ _ (hd j dj hc)
  have hw : Region.wanted o (yielded ops (fillT T ds g)) = true := by
    unfold Region.wanted
    rw [hg]
    have h1 := List.all_eq_true.1 hds _ (List.contains_iff_mem.1 hc)
    rw [Bool.and_eq_true, decide_eq_true_eq] at h1
    have e : (fillT T ds g)[dj]? = some (g dj) := by rw [fillT_at, if_pos ⟨List.contains_iff_mem.1 h1.1, h1.2⟩]
    have y : yielded ops (fillT T ds g) j = some b := by
      unfold dstOf at hj
      unfold yielded
      rw [hj]
      simp only [Option.bind_some]
      rw [e, hgj]
    show (yielded ops (fillT T ds g) j == some b) = true
    rw [y]
    simp
  rw [if_pos hw]
  refine h ⟨fillT T ds g, D⟩ w hb (fun d hd' => ?_) (fun k d hkd => ?_) K' hK
  · have hn : ¬ d ∈ ds := fun hm => by rw [List.contains_iff_mem.2 hm] at hd'; cases hd'
    show (fillT T ds g)[d]?.getD undef = T.getD d undef
    rw [Array.getD_eq_getD_getElem?, fillT_at, if_neg (fun h => hn h.1)]
  · have h1 := List.all_eq_true.1 hds _ (List.contains_iff_mem.1 hkd)
    rw [Bool.and_eq_true, decide_eq_true_eq] at h1
    have e : (fillT T ds g)[d]?.getD undef = g d := by rw [fillT_at, if_pos ⟨List.contains_iff_mem.1 h1.1, h1.2⟩]; rfl
    show R k ((fillT T ds g)[d]?.getD undef) w
    rw [e]
    exact hd k d hkd
end Go.Proofs.YtknoibocpbfmmaaGreatDoor

namespace Go.Proofs.YtknoibocpbfmmaaGreatDoor
open Go.RowKit
set_option linter.unusedVariables false
set_option linter.unusedSimpArgs false
theorem pParse_any (s : ByteArray) (w : World) (hO : OpsAt w) (hE : EvAt w) : Calls Tryz.prog 10 #[.string s] w fun e w' => ∃ wo n wc xo m xc E A, e = .returned (.tuple #[.agg #[.slice wo n wc, .slice xo m xc], .int .i64 ((E : Nat) : Int), .int .i64 ((A : Nat) : Int)]) ∧ Below w.heap.size w w' := by
  cases h : prsL s with
  | error x => exact (pParse_no h w hO hE).mono fun e w' k => ⟨_, _, _, _, _, _, _, _, k.1, k.2⟩
  | ok p =>
    refine (pParse_ok h w hO hE).mono ?_
    rintro e w' ⟨wo, wc, xo, xc, h1, h2, _⟩
    exact ⟨wo, _, wc, xo, _, xc, 0, 0, h1, h2⟩
theorem ln_of {s : ByteArray} {p : Pg} (h : prsL s = .ok p) : p.1.length ≤ 24 := by
  have r := prs_ru h
  cases hr : ruP p with
  | none => rw [hr] at r; cases r
  | some c => exact (ru_parts hr).1
theorem pn_cells {X : World} {b : Nat} {u v : Value} {t : TypeId} (q : X.heap[b]? = some (.cells #[u, v] t (0, 0))) : X.cell? ⟨b, 0, none⟩ = some u ∧ X.cell? ⟨b, 1, none⟩ = some v := ⟨by simp [World.cell?, q], by simp [World.cell?, q]⟩
theorem pn_size {a b : ByteArray} (ha : a.size ≤ 140737488355328) (hb : b.size ≤ 140737488355328) : ¬ 9223372036854775807 < a.size + (⟨#[32]⟩ : ByteArray).size ∧ ¬ 9223372036854775807 < (a ++ (⟨#[32]⟩ : ByteArray)).size + b.size := by
  have e : (a ++ (⟨#[32]⟩ : ByteArray)).size = a.size + 1 := by rw [ByteArray.size_append]; rfl
  have e1 : (⟨#[32]⟩ : ByteArray).size = 1 := rfl
  rw [e, e1]
  omega
set_option maxRecDepth 100000 in
set_option maxHeartbeats 8000000 in
theorem jn_w1 (a b : ByteArray) (w : World) (hh : Hid (OpsAt w ∧ EvAt w)) (nq : ¬ 9223372036854775807 < a.size + (⟨#[32]⟩ : ByteArray).size) (nr : ¬ 9223372036854775807 < (a ++ (⟨#[32]⟩ : ByteArray)).size + b.size) (x : Nat × Nat) (ha : prsL a = .error x) : Calls Tryz.prog 6 #[.string a, .string b] w fun e w' => e = .returned (.bool true) ∧ Below w.heap.size w w' := by
  have x0 := prs_err ha
  have k1 := fun V h1 h2 => pParse_no ha V h1 h2
  have k2 := fun V h1 h2 => pParse_any b V h1 h2
  have k3 := fun V h1 h2 => pParse_any (a ++ ⟨#[32]⟩ ++ b) V h1 h2
  obtain ⟨E, A⟩ := x
  have x1 : (((E : Nat) : Int) != 0) = true := by
    have : E ≠ 0 := x0
    rw [bne_iff_ne]; omega
  clear ha x0
  have gg := Below.refl w.heap.size w
  go_enter Tryz.func6, Tryz.ntmps6
  go_upto_region 2 with (first
    | (go_at_call 10; (refine (k1 _ (hh.out.1.bel gg) (hh.out.2.bel gg)).mono ?_); rintro e v1 ⟨rfl, g1⟩)
    | fail)
  have gY1 := pb_new (Below.refl v1.heap.size v1) (.cells #[.slice none 0 0, .slice none 0 0] 25)
  have qY1 := World.alloc_heap_new v1 (.cells #[.slice none 0 0, .slice none 0 0] 25)
  obtain ⟨Y1, hY1⟩ : ∃ Y, v1.alloc (.cells #[.slice none 0 0, .slice none 0 0] 25) = Y := ⟨_, rfl⟩
  obtain ⟨b1, hb1⟩ : ∃ b, v1.heap.size = b := ⟨_, rfl⟩
  rw [hY1] at gY1 qY1 ⊢
  rw [hb1] at qY1
  (try rw [hb1])
  obtain ⟨c10, c11⟩ := pn_cells qY1
  replace gg := pb_call (pb_call gg g1) gY1
  clear hY1 qY1 gY1 g1 k1
  clear hb1
  go_upto_region 3 with (first
    | (go_at_call 10; (refine (k2 _ (hh.out.1.bel gg) (hh.out.2.bel gg)).mono ?_); rintro e v2 ⟨wo2, n2, wc2, xo2, m2, xc2, E2, A2, rfl, g2⟩)
    | fail)
  have gY2 := pb_new (Below.refl v2.heap.size v2) (.cells #[.slice wo2 n2 wc2, .slice xo2 m2 xc2] 25)
  have qY2 := World.alloc_heap_new v2 (.cells #[.slice wo2 n2 wc2, .slice xo2 m2 xc2] 25)
  obtain ⟨Y2, hY2⟩ : ∃ Y, v2.alloc (.cells #[.slice wo2 n2 wc2, .slice xo2 m2 xc2] 25) = Y := ⟨_, rfl⟩
  obtain ⟨b2, hb2⟩ : ∃ b, v2.heap.size = b := ⟨_, rfl⟩
  rw [hY2] at gY2 qY2 ⊢
  rw [hb2] at qY2
  (try rw [hb2])
  obtain ⟨c20, c21⟩ := pn_cells qY2
  replace gg := pb_call (pb_call gg g2) gY2
  replace c10 := pb_cell (pb_call g2 gY2) c10
  replace c11 := pb_cell (pb_call g2 gY2) c11
  clear hY2 qY2 gY2 g2 k2
  clear hb2
  go_upto_region 4 with (first
    | (go_at_call 10; (refine (k3 _ (hh.out.1.bel gg) (hh.out.2.bel gg)).mono ?_); rintro e v3 ⟨wo3, n3, wc3, xo3, m3, xc3, E3, A3, rfl, g3⟩)
    | fail)
  have gY3 := pb_new (Below.refl v3.heap.size v3) (.cells #[.slice wo3 n3 wc3, .slice xo3 m3 xc3] 25)
  have qY3 := World.alloc_heap_new v3 (.cells #[.slice wo3 n3 wc3, .slice xo3 m3 xc3] 25)
  obtain ⟨Y3, hY3⟩ : ∃ Y, v3.alloc (.cells #[.slice wo3 n3 wc3, .slice xo3 m3 xc3] 25) = Y := ⟨_, rfl⟩
  obtain ⟨b3, hb3⟩ : ∃ b, v3.heap.size = b := ⟨_, rfl⟩
  rw [hY3] at gY3 qY3 ⊢
  rw [hb3] at qY3
  (try rw [hb3])
  obtain ⟨c30, c31⟩ := pn_cells qY3
  replace gg := pb_call (pb_call gg g3) gY3
  replace c10 := pb_cell (pb_call g3 gY3) c10
  replace c11 := pb_cell (pb_call g3 gY3) c11
  replace c20 := pb_cell (pb_call g3 gY3) c20
  replace c21 := pb_cell (pb_call g3 gY3) c21
  clear hY3 qY3 gY3 g3 k3
  clear hb3
  clear c10 c11 c20 c21 c30 c31
  go_wp2_with (first
    | (go_at_call 9; (refine (live5_at hh.out gg).mono ?_); rintro e v9 ⟨rfl, g9⟩)
    | fail)
  go_ret
  exact ⟨rfl, pb_call gg g9⟩
set_option maxRecDepth 100000 in
set_option maxHeartbeats 8000000 in
theorem jn_w2 (a b : ByteArray) (w : World) (hh : Hid (OpsAt w ∧ EvAt w)) (nq : ¬ 9223372036854775807 < a.size + (⟨#[32]⟩ : ByteArray).size) (nr : ¬ 9223372036854775807 < (a ++ (⟨#[32]⟩ : ByteArray)).size + b.size) (p : Pg) (x : Nat × Nat) (ha : prsL a = .ok p) (hb : prsL b = .error x) : Calls Tryz.prog 6 #[.string a, .string b] w fun e w' => e = .returned (.bool true) ∧ Below w.heap.size w w' := by
  have x0 := prs_err hb
  have k1 := fun V h1 h2 => pParse_ok ha V h1 h2
  have k2 := fun V h1 h2 => pParse_no hb V h1 h2
  have k3 := fun V h1 h2 => pParse_any (a ++ ⟨#[32]⟩ ++ b) V h1 h2
  obtain ⟨n1, hn1⟩ : ∃ n, p.1.length = n := ⟨_, rfl⟩
  obtain ⟨m1, hm1⟩ : ∃ n, p.2.len = n := ⟨_, rfl⟩
  rw [hn1, hm1] at k1
  obtain ⟨E, A⟩ := x
  have x1 : (((E : Nat) : Int) != 0) = true := by
    have : E ≠ 0 := x0
    rw [bne_iff_ne]; omega
  clear ha hb x0 hn1 hm1
  have gg := Below.refl w.heap.size w
  go_enter Tryz.func6, Tryz.ntmps6
  go_upto_region 2 with (first
    | (go_at_call 10; (refine (k1 _ (hh.out.1.bel gg) (hh.out.2.bel gg)).mono ?_); rintro e v1 ⟨wo1, wc1, xo1, xc1, rfl, g1, D1, T1⟩)
    | fail)
  have gY1 := pb_new (Below.refl v1.heap.size v1) (.cells #[.slice wo1 n1 wc1, .slice xo1 m1 xc1] 25)
  have qY1 := World.alloc_heap_new v1 (.cells #[.slice wo1 n1 wc1, .slice xo1 m1 xc1] 25)
  obtain ⟨Y1, hY1⟩ : ∃ Y, v1.alloc (.cells #[.slice wo1 n1 wc1, .slice xo1 m1 xc1] 25) = Y := ⟨_, rfl⟩
  obtain ⟨b1, hb1⟩ : ∃ b, v1.heap.size = b := ⟨_, rfl⟩
  rw [hY1] at gY1 qY1 ⊢
  rw [hb1] at qY1
  (try rw [hb1])
  obtain ⟨c10, c11⟩ := pn_cells qY1
  replace gg := pb_call (pb_call gg g1) gY1
  replace D1 := D1.bel gY1
  replace T1 := T1.kp (Below.kp gY1 _)
  clear hY1 qY1 gY1 g1 k1
  clear hb1
  go_upto_region 3 with (first
    | (go_at_call 10; (refine (k2 _ (hh.out.1.bel gg) (hh.out.2.bel gg)).mono ?_); rintro e v2 ⟨rfl, g2⟩)
    | fail)
  have gY2 := pb_new (Below.refl v2.heap.size v2) (.cells #[.slice none 0 0, .slice none 0 0] 25)
  have qY2 := World.alloc_heap_new v2 (.cells #[.slice none 0 0, .slice none 0 0] 25)
  obtain ⟨Y2, hY2⟩ : ∃ Y, v2.alloc (.cells #[.slice none 0 0, .slice none 0 0] 25) = Y := ⟨_, rfl⟩
  obtain ⟨b2, hb2⟩ : ∃ b, v2.heap.size = b := ⟨_, rfl⟩
  rw [hY2] at gY2 qY2 ⊢
  rw [hb2] at qY2
  (try rw [hb2])
  obtain ⟨c20, c21⟩ := pn_cells qY2
  replace gg := pb_call (pb_call gg g2) gY2
  replace c10 := pb_cell (pb_call g2 gY2) c10
  replace c11 := pb_cell (pb_call g2 gY2) c11
  replace D1 := D1.bel (pb_call g2 gY2)
  replace T1 := T1.kp (Below.kp (pb_call g2 gY2) _)
  clear hY2 qY2 gY2 g2 k2
  clear hb2
  go_upto_region 4 with (first
    | (go_at_call 10; (refine (k3 _ (hh.out.1.bel gg) (hh.out.2.bel gg)).mono ?_); rintro e v3 ⟨wo3, n3, wc3, xo3, m3, xc3, E3, A3, rfl, g3⟩)
    | fail)
  have gY3 := pb_new (Below.refl v3.heap.size v3) (.cells #[.slice wo3 n3 wc3, .slice xo3 m3 xc3] 25)
  have qY3 := World.alloc_heap_new v3 (.cells #[.slice wo3 n3 wc3, .slice xo3 m3 xc3] 25)
  obtain ⟨Y3, hY3⟩ : ∃ Y, v3.alloc (.cells #[.slice wo3 n3 wc3, .slice xo3 m3 xc3] 25) = Y := ⟨_, rfl⟩
  obtain ⟨b3, hb3⟩ : ∃ b, v3.heap.size = b := ⟨_, rfl⟩
  rw [hY3] at gY3 qY3 ⊢
  rw [hb3] at qY3
  (try rw [hb3])
  obtain ⟨c30, c31⟩ := pn_cells qY3
  replace gg := pb_call (pb_call gg g3) gY3
  replace c10 := pb_cell (pb_call g3 gY3) c10
  replace c11 := pb_cell (pb_call g3 gY3) c11
  replace c20 := pb_cell (pb_call g3 gY3) c20
  replace c21 := pb_cell (pb_call g3 gY3) c21
  replace D1 := D1.bel (pb_call g3 gY3)
  replace T1 := T1.kp (Below.kp (pb_call g3 gY3) _)
  clear hY3 qY3 gY3 g3 k3
  clear hb3
  clear c10 c11 c20 c21 c30 c31 D1 T1
  go_wp2_with (first
    | (go_at_call 9; (refine (live5_at hh.out gg).mono ?_); rintro e v9 ⟨rfl, g9⟩)
    | fail)
  go_ret
  exact ⟨rfl, pb_call gg g9⟩
set_option maxRecDepth 100000 in
set_option maxHeartbeats 8000000 in
theorem jn_w3 (a b : ByteArray) (w : World) (hh : Hid (OpsAt w ∧ EvAt w)) (nq : ¬ 9223372036854775807 < a.size + (⟨#[32]⟩ : ByteArray).size) (nr : ¬ 9223372036854775807 < (a ++ (⟨#[32]⟩ : ByteArray)).size + b.size) (p q : Pg) (ha : prsL a = .ok p) (hb : prsL b = .ok q) (h1 : q.1.length ≠ 0) (h2 : p.2.len ≠ 0) : Calls Tryz.prog 6 #[.string a, .string b] w fun e w' => e = .returned (.bool true) ∧ Below w.heap.size w w' := by
  have k1 := fun V h1 h2 => pParse_ok ha V h1 h2
  have k2 := fun V h1 h2 => pParse_ok hb V h1 h2
  have k3 := fun V h1 h2 => pParse_any (a ++ ⟨#[32]⟩ ++ b) V h1 h2
  obtain ⟨n1, hn1⟩ : ∃ n, p.1.length = n := ⟨_, rfl⟩
  obtain ⟨m1, hm1⟩ : ∃ n, p.2.len = n := ⟨_, rfl⟩
  obtain ⟨n2, hn2⟩ : ∃ n, q.1.length = n := ⟨_, rfl⟩
  obtain ⟨m2, hm2⟩ : ∃ n, q.2.len = n := ⟨_, rfl⟩
  rw [hn1, hm1] at k1
  rw [hn2, hm2] at k2
  rw [hn2] at h1
  rw [hm1] at h2
  have z1 : decide ((0 : Int) < ((n2 : Nat) : Int)) = true := decide_eq_true (by omega)
  have z2 : decide ((0 : Int) < ((m1 : Nat) : Int)) = true := decide_eq_true (by omega)
  have z3 : (0 : Int) < ((n2 : Nat) : Int) := by omega
  have z4 : (0 : Int) < ((m1 : Nat) : Int) := by omega
  clear ha hb hn1 hm1 hn2 hm2
  have gg := Below.refl w.heap.size w
  go_enter Tryz.func6, Tryz.ntmps6
  go_upto_region 2 with (first
    | (go_at_call 10; (refine (k1 _ (hh.out.1.bel gg) (hh.out.2.bel gg)).mono ?_); rintro e v1 ⟨wo1, wc1, xo1, xc1, rfl, g1, D1, T1⟩)
    | fail)
  have gY1 := pb_new (Below.refl v1.heap.size v1) (.cells #[.slice wo1 n1 wc1, .slice xo1 m1 xc1] 25)
  have qY1 := World.alloc_heap_new v1 (.cells #[.slice wo1 n1 wc1, .slice xo1 m1 xc1] 25)
  obtain ⟨Y1, hY1⟩ : ∃ Y, v1.alloc (.cells #[.slice wo1 n1 wc1, .slice xo1 m1 xc1] 25) = Y := ⟨_, rfl⟩
  obtain ⟨b1, hb1⟩ : ∃ b, v1.heap.size = b := ⟨_, rfl⟩
  rw [hY1] at gY1 qY1 ⊢
  rw [hb1] at qY1
  (try rw [hb1])
  obtain ⟨c10, c11⟩ := pn_cells qY1
  replace gg := pb_call (pb_call gg g1) gY1
  replace D1 := D1.bel gY1
  replace T1 := T1.kp (Below.kp gY1 _)
  clear hY1 qY1 gY1 g1 k1
  clear hb1
  go_upto_region 3 with (first
    | (go_at_call 10; (refine (k2 _ (hh.out.1.bel gg) (hh.out.2.bel gg)).mono ?_); rintro e v2 ⟨wo2, wc2, xo2, xc2, rfl, g2, D2, T2⟩)
    | fail)
  have gY2 := pb_new (Below.refl v2.heap.size v2) (.cells #[.slice wo2 n2 wc2, .slice xo2 m2 xc2] 25)
  have qY2 := World.alloc_heap_new v2 (.cells #[.slice wo2 n2 wc2, .slice xo2 m2 xc2] 25)
  obtain ⟨Y2, hY2⟩ : ∃ Y, v2.alloc (.cells #[.slice wo2 n2 wc2, .slice xo2 m2 xc2] 25) = Y := ⟨_, rfl⟩
  obtain ⟨b2, hb2⟩ : ∃ b, v2.heap.size = b := ⟨_, rfl⟩
  rw [hY2] at gY2 qY2 ⊢
  rw [hb2] at qY2
  (try rw [hb2])
  obtain ⟨c20, c21⟩ := pn_cells qY2
  replace gg := pb_call (pb_call gg g2) gY2
  replace c10 := pb_cell (pb_call g2 gY2) c10
  replace c11 := pb_cell (pb_call g2 gY2) c11
  replace D1 := D1.bel (pb_call g2 gY2)
  replace T1 := T1.kp (Below.kp (pb_call g2 gY2) _)
  replace D2 := D2.bel gY2
  replace T2 := T2.kp (Below.kp gY2 _)
  clear hY2 qY2 gY2 g2 k2
  clear hb2
  go_upto_region 4 with (first
    | (go_at_call 10; (refine (k3 _ (hh.out.1.bel gg) (hh.out.2.bel gg)).mono ?_); rintro e v3 ⟨wo3, n3, wc3, xo3, m3, xc3, E3, A3, rfl, g3⟩)
    | fail)
  have gY3 := pb_new (Below.refl v3.heap.size v3) (.cells #[.slice wo3 n3 wc3, .slice xo3 m3 xc3] 25)
  have qY3 := World.alloc_heap_new v3 (.cells #[.slice wo3 n3 wc3, .slice xo3 m3 xc3] 25)
  obtain ⟨Y3, hY3⟩ : ∃ Y, v3.alloc (.cells #[.slice wo3 n3 wc3, .slice xo3 m3 xc3] 25) = Y := ⟨_, rfl⟩
  obtain ⟨b3, hb3⟩ : ∃ b, v3.heap.size = b := ⟨_, rfl⟩
  rw [hY3] at gY3 qY3 ⊢
  rw [hb3] at qY3
  (try rw [hb3])
  obtain ⟨c30, c31⟩ := pn_cells qY3
  replace gg := pb_call (pb_call gg g3) gY3
  replace c10 := pb_cell (pb_call g3 gY3) c10
  replace c11 := pb_cell (pb_call g3 gY3) c11
  replace c20 := pb_cell (pb_call g3 gY3) c20
  replace c21 := pb_cell (pb_call g3 gY3) c21
  replace D1 := D1.bel (pb_call g3 gY3)
  replace T1 := T1.kp (Below.kp (pb_call g3 gY3) _)
  replace D2 := D2.bel (pb_call g3 gY3)
  replace T2 := T2.kp (Below.kp (pb_call g3 gY3) _)
  clear hY3 qY3 gY3 g3 k3
  clear hb3
  clear D1 T1 D2 T2 c30 c31
  go_wp2_with (first
    | (go_at_call 9; (refine (live5_at hh.out gg).mono ?_); rintro e v9 ⟨rfl, g9⟩)
    | fail)
  go_ret
  exact ⟨rfl, pb_call gg g9⟩
set_option maxRecDepth 100000 in
set_option maxHeartbeats 8000000 in
theorem jn_w4 (a b : ByteArray) (w : World) (hh : Hid (OpsAt w ∧ EvAt w)) (nq : ¬ 9223372036854775807 < a.size + (⟨#[32]⟩ : ByteArray).size) (nr : ¬ 9223372036854775807 < (a ++ (⟨#[32]⟩ : ByteArray)).size + b.size) (p q : Pg) (x : Nat) (ha : prsL a = .ok p) (hb : prsL b = .ok q) (hj : prsL (a ++ ⟨#[32]⟩ ++ b) = .error (5, x)) (hc : q.1.length = 0 ∨ p.2.len = 0) : Calls Tryz.prog 6 #[.string a, .string b] w fun e w' => e = .returned (.bool true) ∧ Below w.heap.size w w' := by
  have k1 := fun V h1 h2 => pParse_ok ha V h1 h2
  have k2 := fun V h1 h2 => pParse_ok hb V h1 h2
  have k3 := fun V h1 h2 => pParse_no hj V h1 h2
  obtain ⟨n1, hn1⟩ : ∃ n, p.1.length = n := ⟨_, rfl⟩
  obtain ⟨m1, hm1⟩ : ∃ n, p.2.len = n := ⟨_, rfl⟩
  obtain ⟨n2, hn2⟩ : ∃ n, q.1.length = n := ⟨_, rfl⟩
  obtain ⟨m2, hm2⟩ : ∃ n, q.2.len = n := ⟨_, rfl⟩
  rw [hn1, hm1] at k1
  rw [hn2, hm2] at k2
  rw [hn2, hm1] at hc
  clear ha hb hj hn1 hm1 hn2 hm2
  have zz : n2 = 0 ∨ 0 < n2 ∧ m1 = 0 := by omega
  clear hc
  have gg := Below.refl w.heap.size w
  go_enter Tryz.func6, Tryz.ntmps6
  go_upto_region 2 with (first
    | (go_at_call 10; (refine (k1 _ (hh.out.1.bel gg) (hh.out.2.bel gg)).mono ?_); rintro e v1 ⟨wo1, wc1, xo1, xc1, rfl, g1, D1, T1⟩)
    | fail)
  have gY1 := pb_new (Below.refl v1.heap.size v1) (.cells #[.slice wo1 n1 wc1, .slice xo1 m1 xc1] 25)
  have qY1 := World.alloc_heap_new v1 (.cells #[.slice wo1 n1 wc1, .slice xo1 m1 xc1] 25)
  obtain ⟨Y1, hY1⟩ : ∃ Y, v1.alloc (.cells #[.slice wo1 n1 wc1, .slice xo1 m1 xc1] 25) = Y := ⟨_, rfl⟩
  obtain ⟨b1, hb1⟩ : ∃ b, v1.heap.size = b := ⟨_, rfl⟩
  rw [hY1] at gY1 qY1 ⊢
  rw [hb1] at qY1
  (try rw [hb1])
  obtain ⟨c10, c11⟩ := pn_cells qY1
  replace gg := pb_call (pb_call gg g1) gY1
  replace D1 := D1.bel gY1
  replace T1 := T1.kp (Below.kp gY1 _)
  clear hY1 qY1 gY1 g1 k1
  clear hb1
  go_upto_region 3 with (first
    | (go_at_call 10; (refine (k2 _ (hh.out.1.bel gg) (hh.out.2.bel gg)).mono ?_); rintro e v2 ⟨wo2, wc2, xo2, xc2, rfl, g2, D2, T2⟩)
    | fail)
  have gY2 := pb_new (Below.refl v2.heap.size v2) (.cells #[.slice wo2 n2 wc2, .slice xo2 m2 xc2] 25)
  have qY2 := World.alloc_heap_new v2 (.cells #[.slice wo2 n2 wc2, .slice xo2 m2 xc2] 25)
  obtain ⟨Y2, hY2⟩ : ∃ Y, v2.alloc (.cells #[.slice wo2 n2 wc2, .slice xo2 m2 xc2] 25) = Y := ⟨_, rfl⟩
  obtain ⟨b2, hb2⟩ : ∃ b, v2.heap.size = b := ⟨_, rfl⟩
  rw [hY2] at gY2 qY2 ⊢
  rw [hb2] at qY2
  (try rw [hb2])
  obtain ⟨c20, c21⟩ := pn_cells qY2
  replace gg := pb_call (pb_call gg g2) gY2
  replace c10 := pb_cell (pb_call g2 gY2) c10
  replace c11 := pb_cell (pb_call g2 gY2) c11
  replace D1 := D1.bel (pb_call g2 gY2)
  replace T1 := T1.kp (Below.kp (pb_call g2 gY2) _)
  replace D2 := D2.bel gY2
  replace T2 := T2.kp (Below.kp gY2 _)
  clear hY2 qY2 gY2 g2 k2
  clear hb2
  go_upto_region 4 with (first
    | (go_at_call 10; (refine (k3 _ (hh.out.1.bel gg) (hh.out.2.bel gg)).mono ?_); rintro e v3 ⟨rfl, g3⟩)
    | fail)
  have gY3 := pb_new (Below.refl v3.heap.size v3) (.cells #[.slice none 0 0, .slice none 0 0] 25)
  have qY3 := World.alloc_heap_new v3 (.cells #[.slice none 0 0, .slice none 0 0] 25)
  obtain ⟨Y3, hY3⟩ : ∃ Y, v3.alloc (.cells #[.slice none 0 0, .slice none 0 0] 25) = Y := ⟨_, rfl⟩
  obtain ⟨b3, hb3⟩ : ∃ b, v3.heap.size = b := ⟨_, rfl⟩
  rw [hY3] at gY3 qY3 ⊢
  rw [hb3] at qY3
  (try rw [hb3])
  obtain ⟨c30, c31⟩ := pn_cells qY3
  replace gg := pb_call (pb_call gg g3) gY3
  replace c10 := pb_cell (pb_call g3 gY3) c10
  replace c11 := pb_cell (pb_call g3 gY3) c11
  replace c20 := pb_cell (pb_call g3 gY3) c20
  replace c21 := pb_cell (pb_call g3 gY3) c21
  replace D1 := D1.bel (pb_call g3 gY3)
  replace T1 := T1.kp (Below.kp (pb_call g3 gY3) _)
  replace D2 := D2.bel (pb_call g3 gY3)
  replace T2 := T2.kp (Below.kp (pb_call g3 gY3) _)
  clear hY3 qY3 gY3 g3 k3
  clear hb3
  clear D1 T1 D2 T2 c30 c31
  rcases zz with rfl | ⟨zz, rfl⟩
  · go_wp2_with (first
      | (go_at_call 9; (refine (live5_at hh.out gg).mono ?_); rintro e v9 ⟨rfl, g9⟩)
      | fail)
    go_ret
    exact ⟨rfl, pb_call gg g9⟩
  · skip
    go_wp2_with (first
      | (go_at_call 9; (refine (live5_at hh.out gg).mono ?_); rintro e v9 ⟨rfl, g9⟩)
      | fail)
    go_ret
    exact ⟨rfl, pb_call gg g9⟩
set_option maxRecDepth 100000 in
set_option maxHeartbeats 8000000 in
theorem jn_w5 (a b : ByteArray) (w : World) (hh : Hid (OpsAt w ∧ EvAt w)) (nq : ¬ 9223372036854775807 < a.size + (⟨#[32]⟩ : ByteArray).size) (nr : ¬ 9223372036854775807 < (a ++ (⟨#[32]⟩ : ByteArray)).size + b.size) (p q : Pg) (ha : prsL a = .ok p) (hb : prsL b = .ok q) (hj : prsL (a ++ ⟨#[32]⟩ ++ b) = .ok (p.1 ++ q.1, p.2.app q.2)) (hc : q.1.length = 0 ∨ p.2.len = 0) : Calls Tryz.prog 6 #[.string a, .string b] w fun e w' => e = .returned (.bool true) ∧ Below w.heap.size w w' := by
  have k1 := fun V h1 h2 => pParse_ok ha V h1 h2
  have k2 := fun V h1 h2 => pParse_ok hb V h1 h2
  have k3 := fun V h1 h2 => pParse_ok hj V h1 h2
  have z1 := prs_sz ha
  have z2 := prs_sz hb
  have z3 := prs_sz hj
  have y1 := ms_pts ha
  have y2 := ms_pts hb
  have y3 := ms_pts hj
  simp only [So.pts_app] at y3
  have kM1 := fun V dv bv (h1 : OpsAt V) S h3 h4 => ppoints p.1 p.2 S dv bv V h1 (ops_lt h1) h3 h4 z1.2.1 z1.2.2.1
  have kM2 := fun V dv bv (h1 : OpsAt V) S h3 h4 => ppoints q.1 q.2 S dv bv V h1 (ops_lt h1) h3 h4 z2.2.1 z2.2.2.1
  have kM3 := fun V dv bv (h1 : OpsAt V) S h3 h4 => ppoints (p.1 ++ q.1) (p.2.app q.2) S dv bv V h1 (ops_lt h1) h3 h4 z3.2.1 z3.2.2.1
  rw [y1.1] at kM1
  rw [y2.1] at kM2
  rw [y3.1] at kM3
  have p1 := y1.2
  have p2 := y2.2
  have l1 := z1.1
  obtain ⟨pp, hpp⟩ : ∃ n, p.2.pts = n := ⟨_, rfl⟩
  obtain ⟨qq, hqq⟩ : ∃ n, q.2.pts = n := ⟨_, rfl⟩
  rw [hpp] at kM1 kM3 p1
  rw [hqq] at kM2 kM3 p2
  have hn3 : (p.1 ++ q.1).length = p.1.length + q.1.length := List.length_append
  have l3 := ln_of hj
  obtain ⟨n3, hn3'⟩ : ∃ n, (p.1 ++ q.1).length = n := ⟨_, rfl⟩
  obtain ⟨m3, hm3⟩ : ∃ n, (p.2.app q.2).len = n := ⟨_, rfl⟩
  obtain ⟨n1, hn1⟩ : ∃ n, p.1.length = n := ⟨_, rfl⟩
  obtain ⟨m1, hm1⟩ : ∃ n, p.2.len = n := ⟨_, rfl⟩
  obtain ⟨n2, hn2⟩ : ∃ n, q.1.length = n := ⟨_, rfl⟩
  obtain ⟨m2, hm2⟩ : ∃ n, q.2.len = n := ⟨_, rfl⟩
  simp only [hn1, hm1] at k1
  simp only [hn2, hm2] at k2
  simp only [hn3', hm3] at k3 l3
  rw [hn3', hn1, hn2] at hn3
  have hn4 : Hid (n3 = n1 + n2) := hn3
  clear hn3
  rw [hn2, hm1] at hc
  clear ha hb hj hn1 hm1 hn2 hm2 hn3' hm3 z1 z2 z3 y1 y2 y3 l1 hpp hqq
  have zz : n2 = 0 ∨ 0 < n2 ∧ m1 = 0 := by omega
  clear hc
  have gg := Below.refl w.heap.size w
  go_enter Tryz.func6, Tryz.ntmps6
  go_upto_region 2 with (first
    | (go_at_call 10; (refine (k1 _ (hh.out.1.bel gg) (hh.out.2.bel gg)).mono ?_); rintro e v1 ⟨wo1, wc1, xo1, xc1, rfl, g1, D1, T1⟩)
    | fail)
  have gY1 := pb_new (Below.refl v1.heap.size v1) (.cells #[.slice wo1 n1 wc1, .slice xo1 m1 xc1] 25)
  have qY1 := World.alloc_heap_new v1 (.cells #[.slice wo1 n1 wc1, .slice xo1 m1 xc1] 25)
  obtain ⟨Y1, hY1⟩ : ∃ Y, v1.alloc (.cells #[.slice wo1 n1 wc1, .slice xo1 m1 xc1] 25) = Y := ⟨_, rfl⟩
  obtain ⟨b1, hb1⟩ : ∃ b, v1.heap.size = b := ⟨_, rfl⟩
  rw [hY1] at gY1 qY1 ⊢
  rw [hb1] at qY1
  (try rw [hb1])
  obtain ⟨c10, c11⟩ := pn_cells qY1
  replace gg := pb_call (pb_call gg g1) gY1
  replace D1 := D1.bel gY1
  replace T1 := T1.kp (Below.kp gY1 _)
  clear hY1 qY1 gY1 g1 k1
  clear hb1
  go_upto_region 3 with (first
    | (go_at_call 10; (refine (k2 _ (hh.out.1.bel gg) (hh.out.2.bel gg)).mono ?_); rintro e v2 ⟨wo2, wc2, xo2, xc2, rfl, g2, D2, T2⟩)
    | fail)
  have gY2 := pb_new (Below.refl v2.heap.size v2) (.cells #[.slice wo2 n2 wc2, .slice xo2 m2 xc2] 25)
  have qY2 := World.alloc_heap_new v2 (.cells #[.slice wo2 n2 wc2, .slice xo2 m2 xc2] 25)
  obtain ⟨Y2, hY2⟩ : ∃ Y, v2.alloc (.cells #[.slice wo2 n2 wc2, .slice xo2 m2 xc2] 25) = Y := ⟨_, rfl⟩
  obtain ⟨b2, hb2⟩ : ∃ b, v2.heap.size = b := ⟨_, rfl⟩
  rw [hY2] at gY2 qY2 ⊢
  rw [hb2] at qY2
  (try rw [hb2])
  obtain ⟨c20, c21⟩ := pn_cells qY2
  replace gg := pb_call (pb_call gg g2) gY2
  replace c10 := pb_cell (pb_call g2 gY2) c10
  replace c11 := pb_cell (pb_call g2 gY2) c11
  replace D1 := D1.bel (pb_call g2 gY2)
  replace T1 := T1.kp (Below.kp (pb_call g2 gY2) _)
  replace D2 := D2.bel gY2
  replace T2 := T2.kp (Below.kp gY2 _)
  clear hY2 qY2 gY2 g2 k2
  clear hb2
  go_upto_region 4 with (first
    | (go_at_call 10; (refine (k3 _ (hh.out.1.bel gg) (hh.out.2.bel gg)).mono ?_); rintro e v3 ⟨wo3, wc3, xo3, xc3, rfl, g3, D3, T3⟩)
    | fail)
  have gY3 := pb_new (Below.refl v3.heap.size v3) (.cells #[.slice wo3 n3 wc3, .slice xo3 m3 xc3] 25)
  have qY3 := World.alloc_heap_new v3 (.cells #[.slice wo3 n3 wc3, .slice xo3 m3 xc3] 25)
  obtain ⟨Y3, hY3⟩ : ∃ Y, v3.alloc (.cells #[.slice wo3 n3 wc3, .slice xo3 m3 xc3] 25) = Y := ⟨_, rfl⟩
  obtain ⟨b3, hb3⟩ : ∃ b, v3.heap.size = b := ⟨_, rfl⟩
  rw [hY3] at gY3 qY3 ⊢
  rw [hb3] at qY3
  (try rw [hb3])
  obtain ⟨c30, c31⟩ := pn_cells qY3
  replace gg := pb_call (pb_call gg g3) gY3
  replace c10 := pb_cell (pb_call g3 gY3) c10
  replace c11 := pb_cell (pb_call g3 gY3) c11
  replace c20 := pb_cell (pb_call g3 gY3) c20
  replace c21 := pb_cell (pb_call g3 gY3) c21
  replace D1 := D1.bel (pb_call g3 gY3)
  replace T1 := T1.kp (Below.kp (pb_call g3 gY3) _)
  replace D2 := D2.bel (pb_call g3 gY3)
  replace T2 := T2.kp (Below.kp (pb_call g3 gY3) _)
  replace D3 := D3.bel gY3
  replace T3 := T3.kp (Below.kp gY3 _)
  clear hY3 qY3 gY3 g3 k3
  clear hb3
  have O3 := hh.out.1.bel gg
  have kA : ∀ V, Below Y3.heap.size Y3 V → Calls Tryz.prog 15 #[.agg #[.slice wo1 n1 wc1, .slice xo1 m1 xc1]] V fun e w' => e = .returned (.int .i64 ((pp : Nat) : Int)) ∧ Below V.heap.size V w' := fun V g => kM1 V _ _ (O3.bel g) _ (D1.bel g) (T1.kp (Below.kp g _))
  have kB : ∀ V, Below Y3.heap.size Y3 V → Calls Tryz.prog 15 #[.agg #[.slice wo2 n2 wc2, .slice xo2 m2 xc2]] V fun e w' => e = .returned (.int .i64 ((qq : Nat) : Int)) ∧ Below V.heap.size V w' := fun V g => kM2 V _ _ (O3.bel g) _ (D2.bel g) (T2.kp (Below.kp g _))
  have kC : ∀ V, Below Y3.heap.size Y3 V → Calls Tryz.prog 15 #[.agg #[.slice wo3 n3 wc3, .slice xo3 m3 xc3]] V fun e w' => e = .returned (.int .i64 ((pp + qq : Nat) : Int)) ∧ Below V.heap.size V w' := fun V g => kM3 V _ _ (O3.bel g) _ (D3.bel g) (T3.kp (Below.kp g _))
  have kL : ∀ V, Below Y3.heap.size Y3 V → Calls Tryz.prog 9 #[] V fun e w' => e = .returned (.bool true) ∧ Below V.heap.size V w' := fun V g => live5_at hh.out (pb_call gg g)
  have hall : ∀ X9, Below Y3.heap.size Y3 X9 → (X9.cell? ⟨b1, 0, none⟩ = some (.slice wo1 n1 wc1) ∧ X9.cell? ⟨b1, 1, none⟩ = some (.slice xo1 m1 xc1) ∧ X9.cell? ⟨b2, 0, none⟩ = some (.slice wo2 n2 wc2) ∧ X9.cell? ⟨b2, 1, none⟩ = some (.slice xo2 m2 xc2) ∧ X9.cell? ⟨b3, 0, none⟩ = some (.slice wo3 n3 wc3) ∧ X9.cell? ⟨b3, 1, none⟩ = some (.slice xo3 m3 xc3)) := fun X9 g => ⟨pb_cell g c10, pb_cell g c11, pb_cell g c20, pb_cell g c21, pb_cell g c30, pb_cell g c31⟩
  clear kM1 kM2 kM3 D1 D2 D3 T1 T2 T3 O3 c30 c31
  have gg9 : Hid (Below w.heap.size w Y3) := gg
  clear gg
  rcases zz with rfl | ⟨zz, rfl⟩
  · go_upto_region 8 with fail
    clear c10 c11 c20 c21
    refine wp_region_inv [61, 62, 63, 64, 65, 66, 67, 68, 69, 70, 71, 72, 73, 74, 75, 76, 77, 78, 79, 80, 81, 82, 83, 84, 4] (Rls [Eqv (.bool true), Eqv (.bool true), Eqv (.agg #[.slice wo3 n3 wc3, .slice xo3 m3 xc3]), Eqv (.int .i64 ((pp + qq : Nat) : Int)), Eqv (.agg #[.slice wo1 n1 wc1, .slice xo1 m1 xc1]), Eqv (.int .i64 ((pp : Nat) : Int)), Eqv (.agg #[.slice wo2 0 wc2, .slice xo2 m2 xc2]), Eqv (.int .i64 ((qq : Nat) : Int)), Eqv (.int .i64 ((pp + qq : Nat) : Int)), Eqv (.bool true), Eqv (.bool true), Eqv (.bool true), Eqv (.pointer (some ⟨b3, 0, none⟩)), Eqv (.slice wo3 n3 wc3), Eqv (.int .i64 ((n3 : Nat) : Int)), Eqv (.pointer (some ⟨b1, 0, none⟩)), Eqv (.slice wo1 n1 wc1), Eqv (.int .i64 ((n1 : Nat) : Int)), Eqv (.pointer (some ⟨b2, 0, none⟩)), Eqv (.slice wo2 0 wc2), Eqv (.int .i64 ((0 : Nat) : Int)), Eqv (.int .i64 ((n3 : Nat) : Int)), Eqv (.bool true), Eqv (.bool true), Eqv (.bool true)]) [0, 1, 2, 3, 4, 5, 6, 7, 8, 9, 10, 11, 12, 13, 14, 15, 16, 17, 18, 19, 20, 21, 22, 23, 24] (by kernel_rfl) (by kernel_rfl) (by kernel_rfl) (by kernel_rfl) (MonoL.of (MonoL.eq (MonoL.eq (MonoL.eq (MonoL.eq (MonoL.eq (MonoL.eq (MonoL.eq (MonoL.eq (MonoL.eq (MonoL.eq (MonoL.eq (MonoL.eq (MonoL.eq (MonoL.eq (MonoL.eq (MonoL.eq (MonoL.eq (MonoL.eq (MonoL.eq (MonoL.eq (MonoL.eq (MonoL.eq (MonoL.eq (MonoL.eq (MonoL.eq MonoL.nil)))))))))))))))))))))))))) ?_ ?_
    · skip
      refine StepsI.cons (o := _) rfl ?_ ?_
      · try simp only [List.getElem_toArray, List.getElem_cons_zero, List.getElem_cons_succ]
        refine StepI.of ?_ ?_ ?_
        · rfl
        · kernel_rfl
        intro A w hb hT0 hd0 K hK
        clear hT0 hd0
        go_simp
        refine (kL w hb).mono ?_
        rintro e w2 ⟨rfl, g⟩
        exact hK.out _ _ g (rfl)
      refine StepsI.cons (o := _) rfl ?_ ?_
      · try simp only [List.getElem_toArray, List.getElem_cons_zero, List.getElem_cons_succ]
        refine StepI.of ?_ ?_ ?_
        · rfl
        · kernel_rfl
        intro A w hb hT0 hd0 K hK
        have e0 : A.tmps[61]?.getD undef = .bool true := hd0 0 61 (by kernel_rfl)
        clear hT0 hd0
        go_simp
        exact hK.out _ _ (Below.refl _ _) rfl
      refine StepsI.cons (o := _) rfl ?_ ?_
      · try simp only [List.getElem_toArray, List.getElem_cons_zero, List.getElem_cons_succ]
        refine @StepI.ofg _ _ _ _ _ _ _ _ _ _ 1 62 true ?_ ?_ ?_ ?_ ?_ ?_
        · rfl
        · kernel_rfl
        · kernel_rfl
        · exact fun v w h => h
        · kernel_rfl
        intro A w hb hT0 hd0 K hK
        obtain ⟨z10, z11, z20, z21, z30, z31⟩ := hall w hb
        have f0 : A.tmps[11]?.getD undef = .pointer (some ⟨b3, 0, none⟩) := hT0 11 (by kernel_rfl)
        clear hT0 hd0
        go_simp
        exact hK.out _ _ (Below.refl _ _) rfl
      refine StepsI.cons (o := _) rfl ?_ ?_
      · try simp only [List.getElem_toArray, List.getElem_cons_zero, List.getElem_cons_succ]
        refine @StepI.ofg _ _ _ _ _ _ _ _ _ _ 1 62 true ?_ ?_ ?_ ?_ ?_ ?_
        · rfl
        · kernel_rfl
        · kernel_rfl
        · exact fun v w h => h
        · kernel_rfl
        intro A w hb hT0 hd0 K hK
        have e0 : A.tmps[63]?.getD undef = .agg #[.slice wo3 n3 wc3, .slice xo3 m3 xc3] := hd0 2 63 (by kernel_rfl)
        clear hT0 hd0
        go_simp
        refine (kC w hb).mono ?_
        rintro e w2 ⟨rfl, g⟩
        exact hK.out _ _ g (rfl)
      refine StepsI.cons (o := _) rfl ?_ ?_
      · try simp only [List.getElem_toArray, List.getElem_cons_zero, List.getElem_cons_succ]
        refine @StepI.ofg _ _ _ _ _ _ _ _ _ _ 1 62 true ?_ ?_ ?_ ?_ ?_ ?_
        · rfl
        · kernel_rfl
        · kernel_rfl
        · exact fun v w h => h
        · kernel_rfl
        intro A w hb hT0 hd0 K hK
        obtain ⟨z10, z11, z20, z21, z30, z31⟩ := hall w hb
        have f0 : A.tmps[5]?.getD undef = .pointer (some ⟨b1, 0, none⟩) := hT0 5 (by kernel_rfl)
        clear hT0 hd0
        go_simp
        exact hK.out _ _ (Below.refl _ _) rfl
      refine StepsI.cons (o := _) rfl ?_ ?_
      · try simp only [List.getElem_toArray, List.getElem_cons_zero, List.getElem_cons_succ]
        refine @StepI.ofg _ _ _ _ _ _ _ _ _ _ 1 62 true ?_ ?_ ?_ ?_ ?_ ?_
        · rfl
        · kernel_rfl
        · kernel_rfl
        · exact fun v w h => h
        · kernel_rfl
        intro A w hb hT0 hd0 K hK
        have e0 : A.tmps[65]?.getD undef = .agg #[.slice wo1 n1 wc1, .slice xo1 m1 xc1] := hd0 4 65 (by kernel_rfl)
        clear hT0 hd0
        go_simp
        refine (kA w hb).mono ?_
        rintro e w2 ⟨rfl, g⟩
        exact hK.out _ _ g (rfl)
      refine StepsI.cons (o := _) rfl ?_ ?_
      · try simp only [List.getElem_toArray, List.getElem_cons_zero, List.getElem_cons_succ]
        refine @StepI.ofg _ _ _ _ _ _ _ _ _ _ 1 62 true ?_ ?_ ?_ ?_ ?_ ?_
        · rfl
        · kernel_rfl
        · kernel_rfl
        · exact fun v w h => h
        · kernel_rfl
        intro A w hb hT0 hd0 K hK
        obtain ⟨z10, z11, z20, z21, z30, z31⟩ := hall w hb
        have f0 : A.tmps[8]?.getD undef = .pointer (some ⟨b2, 0, none⟩) := hT0 8 (by kernel_rfl)
        clear hT0 hd0
        go_simp
        exact hK.out _ _ (Below.refl _ _) rfl
      refine StepsI.cons (o := _) rfl ?_ ?_
      · try simp only [List.getElem_toArray, List.getElem_cons_zero, List.getElem_cons_succ]
        refine @StepI.ofg _ _ _ _ _ _ _ _ _ _ 1 62 true ?_ ?_ ?_ ?_ ?_ ?_
        · rfl
        · kernel_rfl
        · kernel_rfl
        · exact fun v w h => h
        · kernel_rfl
        intro A w hb hT0 hd0 K hK
        have e0 : A.tmps[67]?.getD undef = .agg #[.slice wo2 0 wc2, .slice xo2 m2 xc2] := hd0 6 67 (by kernel_rfl)
        clear hT0 hd0
        go_simp
        refine (kB w hb).mono ?_
        rintro e w2 ⟨rfl, g⟩
        exact hK.out _ _ g (rfl)
      refine StepsI.cons (o := _) rfl ?_ ?_
      · try simp only [List.getElem_toArray, List.getElem_cons_zero, List.getElem_cons_succ]
        refine @StepI.ofg _ _ _ _ _ _ _ _ _ _ 1 62 true ?_ ?_ ?_ ?_ ?_ ?_
        · rfl
        · kernel_rfl
        · kernel_rfl
        · exact fun v w h => h
        · kernel_rfl
        intro A w hb hT0 hd0 K hK
        have e0 : A.tmps[66]?.getD undef = .int .i64 ((pp : Nat) : Int) := hd0 5 66 (by kernel_rfl)
        have e1 : A.tmps[68]?.getD undef = .int .i64 ((qq : Nat) : Int) := hd0 7 68 (by kernel_rfl)
        clear hT0 hd0
        have wn : IntKind.i64.wrap (((pp : Nat) : Int) + ((qq : Nat) : Int)) = ((pp + qq : Nat) : Int) := by rw [IntKind.wrap_i64]; omega
        go_simp
        exact hK.out _ _ (Below.refl _ _) rfl
      refine StepsI.cons (o := _) rfl ?_ ?_
      · try simp only [List.getElem_toArray, List.getElem_cons_zero, List.getElem_cons_succ]
        refine @StepI.ofg _ _ _ _ _ _ _ _ _ _ 1 62 true ?_ ?_ ?_ ?_ ?_ ?_
        · rfl
        · kernel_rfl
        · kernel_rfl
        · exact fun v w h => h
        · kernel_rfl
        intro A w hb hT0 hd0 K hK
        have e0 : A.tmps[64]?.getD undef = .int .i64 ((pp + qq : Nat) : Int) := hd0 3 64 (by kernel_rfl)
        have e1 : A.tmps[69]?.getD undef = .int .i64 ((pp + qq : Nat) : Int) := hd0 8 69 (by kernel_rfl)
        clear hT0 hd0
        go_simp
        exact hK.out _ _ (Below.refl _ _) rfl
      refine StepsI.cons (o := _) rfl ?_ ?_
      · try simp only [List.getElem_toArray, List.getElem_cons_zero, List.getElem_cons_succ]
        refine StepI.of ?_ ?_ ?_
        · rfl
        · kernel_rfl
        intro A w hb hT0 hd0 K hK
        have e0 : A.tmps[62]?.getD undef = .bool true := hd0 1 62 (by kernel_rfl)
        have e1 : A.tmps[70]?.getD undef = .bool true := hd0 9 70 (by kernel_rfl)
        clear hT0 hd0
        go_simp
        exact hK.out _ _ (Below.refl _ _) rfl
      refine StepsI.cons (o := _) rfl ?_ ?_
      · try simp only [List.getElem_toArray, List.getElem_cons_zero, List.getElem_cons_succ]
        refine StepI.of ?_ ?_ ?_
        · rfl
        · kernel_rfl
        intro A w hb hT0 hd0 K hK
        have e0 : A.tmps[71]?.getD undef = .bool true := hd0 10 71 (by kernel_rfl)
        clear hT0 hd0
        go_simp
        exact hK.out _ _ (Below.refl _ _) rfl
      refine StepsI.cons (o := _) rfl ?_ ?_
      · try simp only [List.getElem_toArray, List.getElem_cons_zero, List.getElem_cons_succ]
        refine @StepI.ofg _ _ _ _ _ _ _ _ _ _ 11 72 true ?_ ?_ ?_ ?_ ?_ ?_
        · rfl
        · kernel_rfl
        · kernel_rfl
        · exact fun v w h => h
        · kernel_rfl
        intro A w hb hT0 hd0 K hK
        have f0 : A.tmps[11]?.getD undef = .pointer (some ⟨b3, 0, none⟩) := hT0 11 (by kernel_rfl)
        clear hT0 hd0
        go_simp
        exact hK.out _ _ (Below.refl _ _) rfl
      refine StepsI.cons (o := _) rfl ?_ ?_
      · try simp only [List.getElem_toArray, List.getElem_cons_zero, List.getElem_cons_succ]
        refine @StepI.ofg _ _ _ _ _ _ _ _ _ _ 11 72 true ?_ ?_ ?_ ?_ ?_ ?_
        · rfl
        · kernel_rfl
        · kernel_rfl
        · exact fun v w h => h
        · kernel_rfl
        intro A w hb hT0 hd0 K hK
        obtain ⟨z10, z11, z20, z21, z30, z31⟩ := hall w hb
        have e0 : A.tmps[73]?.getD undef = .pointer (some ⟨b3, 0, none⟩) := hd0 12 73 (by kernel_rfl)
        clear hT0 hd0
        go_simp
        exact hK.out _ _ (Below.refl _ _) rfl
      refine StepsI.cons (o := _) rfl ?_ ?_
      · try simp only [List.getElem_toArray, List.getElem_cons_zero, List.getElem_cons_succ]
        refine @StepI.ofg _ _ _ _ _ _ _ _ _ _ 11 72 true ?_ ?_ ?_ ?_ ?_ ?_
        · rfl
        · kernel_rfl
        · kernel_rfl
        · exact fun v w h => h
        · kernel_rfl
        intro A w hb hT0 hd0 K hK
        have e0 : A.tmps[74]?.getD undef = .slice wo3 n3 wc3 := hd0 13 74 (by kernel_rfl)
        clear hT0 hd0
        go_simp
        exact hK.out _ _ (Below.refl _ _) rfl
      refine StepsI.cons (o := _) rfl ?_ ?_
      · try simp only [List.getElem_toArray, List.getElem_cons_zero, List.getElem_cons_succ]
        refine @StepI.ofg _ _ _ _ _ _ _ _ _ _ 11 72 true ?_ ?_ ?_ ?_ ?_ ?_
        · rfl
        · kernel_rfl
        · kernel_rfl
        · exact fun v w h => h
        · kernel_rfl
        intro A w hb hT0 hd0 K hK
        have f0 : A.tmps[5]?.getD undef = .pointer (some ⟨b1, 0, none⟩) := hT0 5 (by kernel_rfl)
        clear hT0 hd0
        go_simp
        exact hK.out _ _ (Below.refl _ _) rfl
      refine StepsI.cons (o := _) rfl ?_ ?_
      · try simp only [List.getElem_toArray, List.getElem_cons_zero, List.getElem_cons_succ]
        refine @StepI.ofg _ _ _ _ _ _ _ _ _ _ 11 72 true ?_ ?_ ?_ ?_ ?_ ?_
        · rfl
        · kernel_rfl
        · kernel_rfl
        · exact fun v w h => h
        · kernel_rfl
        intro A w hb hT0 hd0 K hK
        obtain ⟨z10, z11, z20, z21, z30, z31⟩ := hall w hb
        have e0 : A.tmps[76]?.getD undef = .pointer (some ⟨b1, 0, none⟩) := hd0 15 76 (by kernel_rfl)
        clear hT0 hd0
        go_simp
        exact hK.out _ _ (Below.refl _ _) rfl
      refine StepsI.cons (o := _) rfl ?_ ?_
      · try simp only [List.getElem_toArray, List.getElem_cons_zero, List.getElem_cons_succ]
        refine @StepI.ofg _ _ _ _ _ _ _ _ _ _ 11 72 true ?_ ?_ ?_ ?_ ?_ ?_
        · rfl
        · kernel_rfl
        · kernel_rfl
        · exact fun v w h => h
        · kernel_rfl
        intro A w hb hT0 hd0 K hK
        have e0 : A.tmps[77]?.getD undef = .slice wo1 n1 wc1 := hd0 16 77 (by kernel_rfl)
        clear hT0 hd0
        go_simp
        exact hK.out _ _ (Below.refl _ _) rfl
      refine StepsI.cons (o := _) rfl ?_ ?_
      · try simp only [List.getElem_toArray, List.getElem_cons_zero, List.getElem_cons_succ]
        refine @StepI.ofg _ _ _ _ _ _ _ _ _ _ 11 72 true ?_ ?_ ?_ ?_ ?_ ?_
        · rfl
        · kernel_rfl
        · kernel_rfl
        · exact fun v w h => h
        · kernel_rfl
        intro A w hb hT0 hd0 K hK
        have f0 : A.tmps[8]?.getD undef = .pointer (some ⟨b2, 0, none⟩) := hT0 8 (by kernel_rfl)
        clear hT0 hd0
        go_simp
        exact hK.out _ _ (Below.refl _ _) rfl
      refine StepsI.cons (o := _) rfl ?_ ?_
      · try simp only [List.getElem_toArray, List.getElem_cons_zero, List.getElem_cons_succ]
        refine @StepI.ofg _ _ _ _ _ _ _ _ _ _ 11 72 true ?_ ?_ ?_ ?_ ?_ ?_
        · rfl
        · kernel_rfl
        · kernel_rfl
        · exact fun v w h => h
        · kernel_rfl
        intro A w hb hT0 hd0 K hK
        obtain ⟨z10, z11, z20, z21, z30, z31⟩ := hall w hb
        have e0 : A.tmps[79]?.getD undef = .pointer (some ⟨b2, 0, none⟩) := hd0 18 79 (by kernel_rfl)
        clear hT0 hd0
        go_simp
        exact hK.out _ _ (Below.refl _ _) rfl
      refine StepsI.cons (o := _) rfl ?_ ?_
      · try simp only [List.getElem_toArray, List.getElem_cons_zero, List.getElem_cons_succ]
        refine @StepI.ofg _ _ _ _ _ _ _ _ _ _ 11 72 true ?_ ?_ ?_ ?_ ?_ ?_
        · rfl
        · kernel_rfl
        · kernel_rfl
        · exact fun v w h => h
        · kernel_rfl
        intro A w hb hT0 hd0 K hK
        have e0 : A.tmps[80]?.getD undef = .slice wo2 0 wc2 := hd0 19 80 (by kernel_rfl)
        clear hT0 hd0
        go_simp
        exact hK.out _ _ (Below.refl _ _) rfl
      refine StepsI.cons (o := _) rfl ?_ ?_
      · try simp only [List.getElem_toArray, List.getElem_cons_zero, List.getElem_cons_succ]
        refine @StepI.ofg _ _ _ _ _ _ _ _ _ _ 11 72 true ?_ ?_ ?_ ?_ ?_ ?_
        · rfl
        · kernel_rfl
        · kernel_rfl
        · exact fun v w h => h
        · kernel_rfl
        intro A w hb hT0 hd0 K hK
        have e0 : A.tmps[78]?.getD undef = .int .i64 ((n1 : Nat) : Int) := hd0 17 78 (by kernel_rfl)
        have e1 : A.tmps[81]?.getD undef = .int .i64 ((0 : Nat) : Int) := hd0 20 81 (by kernel_rfl)
        clear hT0 hd0
        have wn : IntKind.i64.wrap (((n1 : Nat) : Int) + ((0 : Nat) : Int)) = ((n3 : Nat) : Int) := by have := hn4.out; rw [IntKind.wrap_i64]; omega
        have wn2 : IntKind.i64.wrap ((n1 : Nat) : Int) = ((n3 : Nat) : Int) := by have := hn4.out; rw [IntKind.wrap_i64]; omega
        go_simp
        exact hK.out _ _ (Below.refl _ _) rfl
      refine StepsI.cons (o := _) rfl ?_ ?_
      · try simp only [List.getElem_toArray, List.getElem_cons_zero, List.getElem_cons_succ]
        refine @StepI.ofg _ _ _ _ _ _ _ _ _ _ 11 72 true ?_ ?_ ?_ ?_ ?_ ?_
        · rfl
        · kernel_rfl
        · kernel_rfl
        · exact fun v w h => h
        · kernel_rfl
        intro A w hb hT0 hd0 K hK
        have e0 : A.tmps[75]?.getD undef = .int .i64 ((n3 : Nat) : Int) := hd0 14 75 (by kernel_rfl)
        have e1 : A.tmps[82]?.getD undef = .int .i64 ((n3 : Nat) : Int) := hd0 21 82 (by kernel_rfl)
        clear hT0 hd0
        go_simp
        exact hK.out _ _ (Below.refl _ _) rfl
      refine StepsI.cons (o := _) rfl ?_ ?_
      · try simp only [List.getElem_toArray, List.getElem_cons_zero, List.getElem_cons_succ]
        refine StepI.of ?_ ?_ ?_
        · rfl
        · kernel_rfl
        intro A w hb hT0 hd0 K hK
        have e0 : A.tmps[72]?.getD undef = .bool true := hd0 11 72 (by kernel_rfl)
        have e1 : A.tmps[83]?.getD undef = .bool true := hd0 22 83 (by kernel_rfl)
        clear hT0 hd0
        go_simp
        exact hK.out _ _ (Below.refl _ _) rfl
      refine StepsI.cons (o := _) rfl ?_ ?_
      · try simp only [List.getElem_toArray, List.getElem_cons_zero, List.getElem_cons_succ]
        refine StepI.of ?_ ?_ ?_
        · rfl
        · kernel_rfl
        intro A w hb hT0 hd0 K hK
        have e0 : A.tmps[84]?.getD undef = .bool true := hd0 23 84 (by kernel_rfl)
        clear hT0 hd0
        go_simp
        exact hK.out _ _ (Below.refl _ _) rfl
      exact StepsI.nil
    intro g wz hb hR
    have e6 : g 4 = .bool true := hR 24 4 (by decide) (by kernel_rfl)
    simp only [fillT, List.foldl_cons, List.foldl_nil, List.setIfInBounds_toArray, List.set_cons_zero, List.set_cons_succ]
    rw [e6]
    clear e6 hR hall kA kB kC kL
    go_wp2_with fail
    go_ret
    exact ⟨rfl, pb_call gg9.out hb⟩
  · go_upto_region 8 with fail
    clear c10 c11 c20 c21 zz
    refine wp_region_inv [61, 62, 63, 64, 65, 66, 67, 68, 69, 70, 71, 72, 73, 74, 75, 76, 77, 78, 79, 80, 81, 82, 83, 84, 4] (Rls [Eqv (.bool true), Eqv (.bool true), Eqv (.agg #[.slice wo3 n3 wc3, .slice xo3 m3 xc3]), Eqv (.int .i64 ((pp + qq : Nat) : Int)), Eqv (.agg #[.slice wo1 n1 wc1, .slice xo1 0 xc1]), Eqv (.int .i64 ((pp : Nat) : Int)), Eqv (.agg #[.slice wo2 n2 wc2, .slice xo2 m2 xc2]), Eqv (.int .i64 ((qq : Nat) : Int)), Eqv (.int .i64 ((pp + qq : Nat) : Int)), Eqv (.bool true), Eqv (.bool true), Eqv (.bool true), Eqv (.pointer (some ⟨b3, 0, none⟩)), Eqv (.slice wo3 n3 wc3), Eqv (.int .i64 ((n3 : Nat) : Int)), Eqv (.pointer (some ⟨b1, 0, none⟩)), Eqv (.slice wo1 n1 wc1), Eqv (.int .i64 ((n1 : Nat) : Int)), Eqv (.pointer (some ⟨b2, 0, none⟩)), Eqv (.slice wo2 n2 wc2), Eqv (.int .i64 ((n2 : Nat) : Int)), Eqv (.int .i64 ((n3 : Nat) : Int)), Eqv (.bool true), Eqv (.bool true), Eqv (.bool true)]) [0, 1, 2, 3, 4, 5, 6, 7, 8, 9, 10, 11, 12, 13, 14, 15, 16, 17, 18, 19, 20, 21, 22, 23, 24] (by kernel_rfl) (by kernel_rfl) (by kernel_rfl) (by kernel_rfl) (MonoL.of (MonoL.eq (MonoL.eq (MonoL.eq (MonoL.eq (MonoL.eq (MonoL.eq (MonoL.eq (MonoL.eq (MonoL.eq (MonoL.eq (MonoL.eq (MonoL.eq (MonoL.eq (MonoL.eq (MonoL.eq (MonoL.eq (MonoL.eq (MonoL.eq (MonoL.eq (MonoL.eq (MonoL.eq (MonoL.eq (MonoL.eq (MonoL.eq (MonoL.eq MonoL.nil)))))))))))))))))))))))))) ?_ ?_
    · skip
      refine StepsI.cons (o := _) rfl ?_ ?_
      · try simp only [List.getElem_toArray, List.getElem_cons_zero, List.getElem_cons_succ]
        refine StepI.of ?_ ?_ ?_
        · rfl
        · kernel_rfl
        intro A w hb hT0 hd0 K hK
        clear hT0 hd0
        go_simp
        refine (kL w hb).mono ?_
        rintro e w2 ⟨rfl, g⟩
        exact hK.out _ _ g (rfl)
      refine StepsI.cons (o := _) rfl ?_ ?_
      · try simp only [List.getElem_toArray, List.getElem_cons_zero, List.getElem_cons_succ]
        refine StepI.of ?_ ?_ ?_
        · rfl
        · kernel_rfl
        intro A w hb hT0 hd0 K hK
        have e0 : A.tmps[61]?.getD undef = .bool true := hd0 0 61 (by kernel_rfl)
        clear hT0 hd0
        go_simp
        exact hK.out _ _ (Below.refl _ _) rfl
      refine StepsI.cons (o := _) rfl ?_ ?_
      · try simp only [List.getElem_toArray, List.getElem_cons_zero, List.getElem_cons_succ]
        refine @StepI.ofg _ _ _ _ _ _ _ _ _ _ 1 62 true ?_ ?_ ?_ ?_ ?_ ?_
        · rfl
        · kernel_rfl
        · kernel_rfl
        · exact fun v w h => h
        · kernel_rfl
        intro A w hb hT0 hd0 K hK
        obtain ⟨z10, z11, z20, z21, z30, z31⟩ := hall w hb
        have f0 : A.tmps[11]?.getD undef = .pointer (some ⟨b3, 0, none⟩) := hT0 11 (by kernel_rfl)
        clear hT0 hd0
        go_simp
        exact hK.out _ _ (Below.refl _ _) rfl
      refine StepsI.cons (o := _) rfl ?_ ?_
      · try simp only [List.getElem_toArray, List.getElem_cons_zero, List.getElem_cons_succ]
        refine @StepI.ofg _ _ _ _ _ _ _ _ _ _ 1 62 true ?_ ?_ ?_ ?_ ?_ ?_
        · rfl
        · kernel_rfl
        · kernel_rfl
        · exact fun v w h => h
        · kernel_rfl
        intro A w hb hT0 hd0 K hK
        have e0 : A.tmps[63]?.getD undef = .agg #[.slice wo3 n3 wc3, .slice xo3 m3 xc3] := hd0 2 63 (by kernel_rfl)
        clear hT0 hd0
        go_simp
        refine (kC w hb).mono ?_
        rintro e w2 ⟨rfl, g⟩
        exact hK.out _ _ g (rfl)
      refine StepsI.cons (o := _) rfl ?_ ?_
      · try simp only [List.getElem_toArray, List.getElem_cons_zero, List.getElem_cons_succ]
        refine @StepI.ofg _ _ _ _ _ _ _ _ _ _ 1 62 true ?_ ?_ ?_ ?_ ?_ ?_
        · rfl
        · kernel_rfl
        · kernel_rfl
        · exact fun v w h => h
        · kernel_rfl
        intro A w hb hT0 hd0 K hK
        obtain ⟨z10, z11, z20, z21, z30, z31⟩ := hall w hb
        have f0 : A.tmps[5]?.getD undef = .pointer (some ⟨b1, 0, none⟩) := hT0 5 (by kernel_rfl)
        clear hT0 hd0
        go_simp
        exact hK.out _ _ (Below.refl _ _) rfl
      refine StepsI.cons (o := _) rfl ?_ ?_
      · try simp only [List.getElem_toArray, List.getElem_cons_zero, List.getElem_cons_succ]
        refine @StepI.ofg _ _ _ _ _ _ _ _ _ _ 1 62 true ?_ ?_ ?_ ?_ ?_ ?_
        · rfl
        · kernel_rfl
        · kernel_rfl
        · exact fun v w h => h
        · kernel_rfl
        intro A w hb hT0 hd0 K hK
        have e0 : A.tmps[65]?.getD undef = .agg #[.slice wo1 n1 wc1, .slice xo1 0 xc1] := hd0 4 65 (by kernel_rfl)
        clear hT0 hd0
        go_simp
        refine (kA w hb).mono ?_
        rintro e w2 ⟨rfl, g⟩
        exact hK.out _ _ g (rfl)
      refine StepsI.cons (o := _) rfl ?_ ?_
      · try simp only [List.getElem_toArray, List.getElem_cons_zero, List.getElem_cons_succ]
        refine @StepI.ofg _ _ _ _ _ _ _ _ _ _ 1 62 true ?_ ?_ ?_ ?_ ?_ ?_
        · rfl
        · kernel_rfl
        · kernel_rfl
        · exact fun v w h => h
        · kernel_rfl
        intro A w hb hT0 hd0 K hK
        obtain ⟨z10, z11, z20, z21, z30, z31⟩ := hall w hb
        have f0 : A.tmps[8]?.getD undef = .pointer (some ⟨b2, 0, none⟩) := hT0 8 (by kernel_rfl)
        clear hT0 hd0
        go_simp
        exact hK.out _ _ (Below.refl _ _) rfl
      refine StepsI.cons (o := _) rfl ?_ ?_
      · try simp only [List.getElem_toArray, List.getElem_cons_zero, List.getElem_cons_succ]
        refine @StepI.ofg _ _ _ _ _ _ _ _ _ _ 1 62 true ?_ ?_ ?_ ?_ ?_ ?_
        · rfl
        · kernel_rfl
        · kernel_rfl
        · exact fun v w h => h
        · kernel_rfl
        intro A w hb hT0 hd0 K hK
        have e0 : A.tmps[67]?.getD undef = .agg #[.slice wo2 n2 wc2, .slice xo2 m2 xc2] := hd0 6 67 (by kernel_rfl)
        clear hT0 hd0
        go_simp
        refine (kB w hb).mono ?_
        rintro e w2 ⟨rfl, g⟩
        exact hK.out _ _ g (rfl)
      refine StepsI.cons (o := _) rfl ?_ ?_
      · try simp only [List.getElem_toArray, List.getElem_cons_zero, List.getElem_cons_succ]
        refine @StepI.ofg _ _ _ _ _ _ _ _ _ _ 1 62 true ?_ ?_ ?_ ?_ ?_ ?_
        · rfl
        · kernel_rfl
        · kernel_rfl
        · exact fun v w h => h
        · kernel_rfl
        intro A w hb hT0 hd0 K hK
        have e0 : A.tmps[66]?.getD undef = .int .i64 ((pp : Nat) : Int) := hd0 5 66 (by kernel_rfl)
        have e1 : A.tmps[68]?.getD undef = .int .i64 ((qq : Nat) : Int) := hd0 7 68 (by kernel_rfl)
        clear hT0 hd0
        have wn : IntKind.i64.wrap (((pp : Nat) : Int) + ((qq : Nat) : Int)) = ((pp + qq : Nat) : Int) := by rw [IntKind.wrap_i64]; omega
        go_simp
        exact hK.out _ _ (Below.refl _ _) rfl
      refine StepsI.cons (o := _) rfl ?_ ?_
      · try simp only [List.getElem_toArray, List.getElem_cons_zero, List.getElem_cons_succ]
        refine @StepI.ofg _ _ _ _ _ _ _ _ _ _ 1 62 true ?_ ?_ ?_ ?_ ?_ ?_
        · rfl
        · kernel_rfl
        · kernel_rfl
        · exact fun v w h => h
        · kernel_rfl
        intro A w hb hT0 hd0 K hK
        have e0 : A.tmps[64]?.getD undef = .int .i64 ((pp + qq : Nat) : Int) := hd0 3 64 (by kernel_rfl)
        have e1 : A.tmps[69]?.getD undef = .int .i64 ((pp + qq : Nat) : Int) := hd0 8 69 (by kernel_rfl)
        clear hT0 hd0
        go_simp
        exact hK.out _ _ (Below.refl _ _) rfl
      refine StepsI.cons (o := _) rfl ?_ ?_
      · try simp only [List.getElem_toArray, List.getElem_cons_zero, List.getElem_cons_succ]
        refine StepI.of ?_ ?_ ?_
        · rfl
        · kernel_rfl
        intro A w hb hT0 hd0 K hK
        have e0 : A.tmps[62]?.getD undef = .bool true := hd0 1 62 (by kernel_rfl)
        have e1 : A.tmps[70]?.getD undef = .bool true := hd0 9 70 (by kernel_rfl)
        clear hT0 hd0
        go_simp
        exact hK.out _ _ (Below.refl _ _) rfl
      refine StepsI.cons (o := _) rfl ?_ ?_
      · try simp only [List.getElem_toArray, List.getElem_cons_zero, List.getElem_cons_succ]
        refine StepI.of ?_ ?_ ?_
        · rfl
        · kernel_rfl
        intro A w hb hT0 hd0 K hK
        have e0 : A.tmps[71]?.getD undef = .bool true := hd0 10 71 (by kernel_rfl)
        clear hT0 hd0
        go_simp
        exact hK.out _ _ (Below.refl _ _) rfl
      refine StepsI.cons (o := _) rfl ?_ ?_
      · try simp only [List.getElem_toArray, List.getElem_cons_zero, List.getElem_cons_succ]
        refine @StepI.ofg _ _ _ _ _ _ _ _ _ _ 11 72 true ?_ ?_ ?_ ?_ ?_ ?_
        · rfl
        · kernel_rfl
        · kernel_rfl
        · exact fun v w h => h
        · kernel_rfl
        intro A w hb hT0 hd0 K hK
        have f0 : A.tmps[11]?.getD undef = .pointer (some ⟨b3, 0, none⟩) := hT0 11 (by kernel_rfl)
        clear hT0 hd0
        go_simp
        exact hK.out _ _ (Below.refl _ _) rfl
      refine StepsI.cons (o := _) rfl ?_ ?_
      · try simp only [List.getElem_toArray, List.getElem_cons_zero, List.getElem_cons_succ]
        refine @StepI.ofg _ _ _ _ _ _ _ _ _ _ 11 72 true ?_ ?_ ?_ ?_ ?_ ?_
        · rfl
        · kernel_rfl
        · kernel_rfl
        · exact fun v w h => h
        · kernel_rfl
        intro A w hb hT0 hd0 K hK
        obtain ⟨z10, z11, z20, z21, z30, z31⟩ := hall w hb
        have e0 : A.tmps[73]?.getD undef = .pointer (some ⟨b3, 0, none⟩) := hd0 12 73 (by kernel_rfl)
        clear hT0 hd0
        go_simp
        exact hK.out _ _ (Below.refl _ _) rfl
      refine StepsI.cons (o := _) rfl ?_ ?_
      · try simp only [List.getElem_toArray, List.getElem_cons_zero, List.getElem_cons_succ]
        refine @StepI.ofg _ _ _ _ _ _ _ _ _ _ 11 72 true ?_ ?_ ?_ ?_ ?_ ?_
        · rfl
        · kernel_rfl
        · kernel_rfl
        · exact fun v w h => h
        · kernel_rfl
        intro A w hb hT0 hd0 K hK
        have e0 : A.tmps[74]?.getD undef = .slice wo3 n3 wc3 := hd0 13 74 (by kernel_rfl)
        clear hT0 hd0
        go_simp
        exact hK.out _ _ (Below.refl _ _) rfl
      refine StepsI.cons (o := _) rfl ?_ ?_
      · try simp only [List.getElem_toArray, List.getElem_cons_zero, List.getElem_cons_succ]
        refine @StepI.ofg _ _ _ _ _ _ _ _ _ _ 11 72 true ?_ ?_ ?_ ?_ ?_ ?_
        · rfl
        · kernel_rfl
        · kernel_rfl
        · exact fun v w h => h
        · kernel_rfl
        intro A w hb hT0 hd0 K hK
        have f0 : A.tmps[5]?.getD undef = .pointer (some ⟨b1, 0, none⟩) := hT0 5 (by kernel_rfl)
        clear hT0 hd0
        go_simp
        exact hK.out _ _ (Below.refl _ _) rfl
      refine StepsI.cons (o := _) rfl ?_ ?_
      · try simp only [List.getElem_toArray, List.getElem_cons_zero, List.getElem_cons_succ]
        refine @StepI.ofg _ _ _ _ _ _ _ _ _ _ 11 72 true ?_ ?_ ?_ ?_ ?_ ?_
        · rfl
        · kernel_rfl
        · kernel_rfl
        · exact fun v w h => h
        · kernel_rfl
        intro A w hb hT0 hd0 K hK
        obtain ⟨z10, z11, z20, z21, z30, z31⟩ := hall w hb
        have e0 : A.tmps[76]?.getD undef = .pointer (some ⟨b1, 0, none⟩) := hd0 15 76 (by kernel_rfl)
        clear hT0 hd0
        go_simp
        exact hK.out _ _ (Below.refl _ _) rfl
      refine StepsI.cons (o := _) rfl ?_ ?_
      · try simp only [List.getElem_toArray, List.getElem_cons_zero, List.getElem_cons_succ]
        refine @StepI.ofg _ _ _ _ _ _ _ _ _ _ 11 72 true ?_ ?_ ?_ ?_ ?_ ?_
        · rfl
        · kernel_rfl
        · kernel_rfl
        · exact fun v w h => h
        · kernel_rfl
        intro A w hb hT0 hd0 K hK
        have e0 : A.tmps[77]?.getD undef = .slice wo1 n1 wc1 := hd0 16 77 (by kernel_rfl)
        clear hT0 hd0
        go_simp
        exact hK.out _ _ (Below.refl _ _) rfl
      refine StepsI.cons (o := _) rfl ?_ ?_
      · try simp only [List.getElem_toArray, List.getElem_cons_zero, List.getElem_cons_succ]
        refine @StepI.ofg _ _ _ _ _ _ _ _ _ _ 11 72 true ?_ ?_ ?_ ?_ ?_ ?_
        · rfl
        · kernel_rfl
        · kernel_rfl
        · exact fun v w h => h
        · kernel_rfl
        intro A w hb hT0 hd0 K hK
        have f0 : A.tmps[8]?.getD undef = .pointer (some ⟨b2, 0, none⟩) := hT0 8 (by kernel_rfl)
        clear hT0 hd0
        go_simp
        exact hK.out _ _ (Below.refl _ _) rfl
      refine StepsI.cons (o := _) rfl ?_ ?_
      · try simp only [List.getElem_toArray, List.getElem_cons_zero, List.getElem_cons_succ]
        refine @StepI.ofg _ _ _ _ _ _ _ _ _ _ 11 72 true ?_ ?_ ?_ ?_ ?_ ?_
        · rfl
        · kernel_rfl
        · kernel_rfl
        · exact fun v w h => h
        · kernel_rfl
        intro A w hb hT0 hd0 K hK
        obtain ⟨z10, z11, z20, z21, z30, z31⟩ := hall w hb
        have e0 : A.tmps[79]?.getD undef = .pointer (some ⟨b2, 0, none⟩) := hd0 18 79 (by kernel_rfl)
        clear hT0 hd0
        go_simp
        exact hK.out _ _ (Below.refl _ _) rfl
      refine StepsI.cons (o := _) rfl ?_ ?_
      · try simp only [List.getElem_toArray, List.getElem_cons_zero, List.getElem_cons_succ]
        refine @StepI.ofg _ _ _ _ _ _ _ _ _ _ 11 72 true ?_ ?_ ?_ ?_ ?_ ?_
        · rfl
        · kernel_rfl
        · kernel_rfl
        · exact fun v w h => h
        · kernel_rfl
        intro A w hb hT0 hd0 K hK
        have e0 : A.tmps[80]?.getD undef = .slice wo2 n2 wc2 := hd0 19 80 (by kernel_rfl)
        clear hT0 hd0
        go_simp
        exact hK.out _ _ (Below.refl _ _) rfl
      refine StepsI.cons (o := _) rfl ?_ ?_
      · try simp only [List.getElem_toArray, List.getElem_cons_zero, List.getElem_cons_succ]
        refine @StepI.ofg _ _ _ _ _ _ _ _ _ _ 11 72 true ?_ ?_ ?_ ?_ ?_ ?_
        · rfl
        · kernel_rfl
        · kernel_rfl
        · exact fun v w h => h
        · kernel_rfl
        intro A w hb hT0 hd0 K hK
        have e0 : A.tmps[78]?.getD undef = .int .i64 ((n1 : Nat) : Int) := hd0 17 78 (by kernel_rfl)
        have e1 : A.tmps[81]?.getD undef = .int .i64 ((n2 : Nat) : Int) := hd0 20 81 (by kernel_rfl)
        clear hT0 hd0
        have wn : IntKind.i64.wrap (((n1 : Nat) : Int) + ((n2 : Nat) : Int)) = ((n3 : Nat) : Int) := by have := hn4.out; rw [IntKind.wrap_i64]; omega
        skip
        go_simp
        exact hK.out _ _ (Below.refl _ _) rfl
      refine StepsI.cons (o := _) rfl ?_ ?_
      · try simp only [List.getElem_toArray, List.getElem_cons_zero, List.getElem_cons_succ]
        refine @StepI.ofg _ _ _ _ _ _ _ _ _ _ 11 72 true ?_ ?_ ?_ ?_ ?_ ?_
        · rfl
        · kernel_rfl
        · kernel_rfl
        · exact fun v w h => h
        · kernel_rfl
        intro A w hb hT0 hd0 K hK
        have e0 : A.tmps[75]?.getD undef = .int .i64 ((n3 : Nat) : Int) := hd0 14 75 (by kernel_rfl)
        have e1 : A.tmps[82]?.getD undef = .int .i64 ((n3 : Nat) : Int) := hd0 21 82 (by kernel_rfl)
        clear hT0 hd0
        go_simp
        exact hK.out _ _ (Below.refl _ _) rfl
      refine StepsI.cons (o := _) rfl ?_ ?_
      · try simp only [List.getElem_toArray, List.getElem_cons_zero, List.getElem_cons_succ]
        refine StepI.of ?_ ?_ ?_
        · rfl
        · kernel_rfl
        intro A w hb hT0 hd0 K hK
        have e0 : A.tmps[72]?.getD undef = .bool true := hd0 11 72 (by kernel_rfl)
        have e1 : A.tmps[83]?.getD undef = .bool true := hd0 22 83 (by kernel_rfl)
        clear hT0 hd0
        go_simp
        exact hK.out _ _ (Below.refl _ _) rfl
      refine StepsI.cons (o := _) rfl ?_ ?_
      · try simp only [List.getElem_toArray, List.getElem_cons_zero, List.getElem_cons_succ]
        refine StepI.of ?_ ?_ ?_
        · rfl
        · kernel_rfl
        intro A w hb hT0 hd0 K hK
        have e0 : A.tmps[84]?.getD undef = .bool true := hd0 23 84 (by kernel_rfl)
        clear hT0 hd0
        go_simp
        exact hK.out _ _ (Below.refl _ _) rfl
      exact StepsI.nil
    intro g wz hb hR
    have e6 : g 4 = .bool true := hR 24 4 (by decide) (by kernel_rfl)
    simp only [fillT, List.foldl_cons, List.foldl_nil, List.setIfInBounds_toArray, List.set_cons_zero, List.set_cons_succ]
    rw [e6]
    clear e6 hR hall kA kB kC kL
    go_wp2_with fail
    go_ret
    exact ⟨rfl, pb_call gg9.out hb⟩
theorem law_joins (a b : ByteArray) (ha : a.size ≤ 140737488355328) (hb : b.size ≤ 140737488355328) (w : World) (hO : OpsAt w) (hE : EvAt w) : Calls Tryz.prog 6 #[.string a, .string b] w fun e w' => e = .returned (.bool true) ∧ Below w.heap.size w w' := by
  have hh : Hid (OpsAt w ∧ EvAt w) := ⟨hO, hE⟩
  obtain ⟨nq, nr⟩ := pn_size ha hb
  cases h1 : prsL a with
  | error x => exact jn_w1 a b w hh nq nr x h1
  | ok p =>
    cases h2 : prsL b with
    | error x => exact jn_w2 a b w hh nq nr p x h1 h2
    | ok q =>
      by_cases hc : q.1.length = 0 ∨ p.2.len = 0
      · have hc' : q.1 = [] ∨ p.2 = .nil := hc.imp (fun h => List.eq_nil_of_length_eq_zero h) (fun h => so_len0 h)
        rcases prs_join h1 h2 hc' with ⟨x, hj⟩ | hj
        · exact jn_w4 a b w hh nq nr p q x h1 h2 hj hc
        · exact jn_w5 a b w hh nq nr p q h1 h2 hj hc
      · rw [not_or] at hc
        exact jn_w3 a b w hh nq nr p q h1 h2 hc.1 hc.2
end Go.Proofs.YtknoibocpbfmmaaGreatDoor


