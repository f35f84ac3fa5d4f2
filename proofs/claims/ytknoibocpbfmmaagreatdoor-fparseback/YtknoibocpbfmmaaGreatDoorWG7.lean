/- Texts of the proof, put together. -/
import Derived.Test.YtknoibocpbfmmaaGreatDoorWG6
import Derived.Test.YtknoibocpbfmmaaGreatDoorWG5
import Derived.Test.YtknoibocpbfmmaaGreatDoorWG4
namespace Go.Proofs.YtknoibocpbfmmaaGreatDoor
open Go.RowKit
set_option linter.unusedVariables false
set_option linter.unusedSimpArgs false
/-- The operator of a number: the number, its text (none: it is none between two), its level. -/
def ofT (op : Int) : Int × ByteArray × Int := (opT.find? (fun x => decide (x.1 = op))).getD (op, tx0, 5)
theorem of_no {s : Int} (h : ∀ (j : Nat) x, opT[j]? = some x → x.1 ≠ s) : ofT s = (s, tx0, 5) := by
 unfold ofT
 rw [List.find?_eq_none.2 (fun x hx => ?_)]
 ·rfl
 ·obtain ⟨j, hj, e⟩ := List.getElem_of_mem hx
  have := h j x (by rw [← e]; exact List.getElem?_eq_getElem hj)
  simp [this]
theorem of_yes {s : Int} {j : Nat} {t : ByteArray} {l : Int} (h : opT[j]? = some (s, t, l)) : ofT s = (s, t, l) := by
 have hj : j < 12 := (List.getElem?_eq_some_iff.1 h).1
 rcases (show j = 0 ∨ j = 1 ∨ j = 2 ∨ j = 3 ∨ j = 4 ∨ j = 5 ∨ j = 6 ∨ j = 7 ∨ j = 8 ∨ j = 9 ∨ j = 10 ∨ j = 11 by omega) with rfl | rfl | rfl | rfl | rfl | rfl | rfl | rfl | rfl | rfl | rfl | rfl <;> (cases h; decide)
theorem of_txt (s : Int) : (ofT s).2.1 ≠ tx0 ↔ (8 ≤ s ∧ s ≤ 19) := by
 by_cases c : 8 ≤ s ∧ s ≤ 19
 ·rcases (show s = 8 ∨ s = 9 ∨ s = 10 ∨ s = 11 ∨ s = 12 ∨ s = 13 ∨ s = 14 ∨ s = 15 ∨ s = 16 ∨ s = 17 ∨ s = 18 ∨ s = 19 by omega) with rfl | rfl | rfl | rfl | rfl | rfl | rfl | rfl | rfl | rfl | rfl | rfl <;> decide
 ·rw [of_no (fun j x h e => ?_)]
  ·exact ⟨fun h => absurd rfl h, fun h => absurd h c⟩
  ·have hj : j < 12 := (List.getElem?_eq_some_iff.1 h).1
   subst e
   apply c
   rcases (show j = 0 ∨ j = 1 ∨ j = 2 ∨ j = 3 ∨ j = 4 ∨ j = 5 ∨ j = 6 ∨ j = 7 ∨ j = 8 ∨ j = 9 ∨ j = 10 ∨ j = 11 by omega) with rfl | rfl | rfl | rfl | rfl | rfl | rfl | rfl | rfl | rfl | rfl | rfl <;> (cases h; decide)
set_option maxRecDepth 100000 in
set_option maxHeartbeats 1600000 in
theorem popFor (s : Int) (w : World) (hO : OpsAt w) : Calls Tryz.prog 94 #[.int .i64 s] w fun e w' => e = .returned (.agg #[.int .i64 (ofT s).1, .string (ofT s).2.1, .int .i64 (ofT s).2.2]) ∧ Below w.heap.size w w' := by
 have on := @of_no s
 have oy := @of_yes
 obtain ⟨R, hR⟩ : ∃ R, ofT s = R := ⟨_, rfl⟩
 rw [hR]
 have on' : Hid ((∀ (j : Nat) x, opT[j]? = some x → x.1 ≠ s) → R = (s, tx0, 5)) := fun h => by rw [← hR]; exact on h
 have oy' : Hid (∀ (j : Nat) (t : ByteArray) (l : Int), opT[j]? = some (s, t, l) → R = (s, t, l)) := fun j t l h => by rw [← hR]; exact oy h
 clear on oy hR
 go_enter Tryz.func94, Tryz.ntmps94
 go_upto_region 1 with fail
 obtain ⟨W, hW⟩ : ∃ W, w.alloc (.cells #[.int .i64 0, .string ⟨#[]⟩, .int .i64 0] 133) = W := ⟨_, rfl⟩
 obtain ⟨p, hp⟩ : ∃ p, w.heap.size = p := ⟨_, rfl⟩
 have gW : Below w.heap.size w W := by rw [← hW]; exact pb_new (Below.refl _ _) _
 have x0 : W.heap[p]? = some (.cells #[.int .i64 0, .string ⟨#[]⟩, .int .i64 0] 133 (0, 0)) := by
  rw [← hW, ← hp]; exact World.alloc_heap_new w _
 have hO1 := hO.bel gW
 have ld := op_load W hO1
 rw [hW]
 (try rw [hp])
 clear hW hO1
 have ixs := op_index
 generalize Value.agg (opC opT).toArray = A at *
 refine wp_region_list ?_
 refine Eq.mpr (if_pos (by rfl)) (Or.inl ?_)
 refine wp_load_by 146 (.global 0) rfl _ _ rfl ld ?_
 go_upto_region 2 with fail
 clear ld
 go_loopw [6] (fun i wr => ∃ (j : Nat) (V : World), i = .int .i64 j ∧ j ≤ 12 ∧ Hid (∀ (k : Nat) x, k < j → opT[k]? = some x → x.1 ≠ s) ∧ V = wr ∧ V.heap[p]? = some (.cells #[.int .i64 0, .string ⟨#[]⟩, .int .i64 0] 133 (0, 0)) ∧ Below w.heap.size w V) (fun i _ => 12 - (intOf i).toNat)
 case atStart => exact ⟨0, W, rfl, by omega, fun k x h => by omega, rfl, x0, gW⟩
 case round =>
  clear x0 gW
  obtain ⟨j, V, rfl, hj, hx, e, x0, gV⟩ := hrel
  subst e
  have f0 : V.cell? ⟨p, 0, none⟩ = some (.int .i64 0) := by simp [World.cell?, x0]
  have f1 : V.cell? ⟨p, 1, none⟩ = some (.string ⟨#[]⟩) := by simp [World.cell?, x0]
  have f2 : V.cell? ⟨p, 2, none⟩ = some (.int .i64 0) := by simp [World.cell?, x0]
  have ff : ∀ k, V.frozen? ⟨p, k, none⟩ = false := fun k => by simp [World.frozen?, x0]
  have pV : p < V.heap.size := (Array.getElem?_eq_some_iff.1 x0).1
  have zp : p ≠ V.heap.size := by omega
  have zq : V.heap.size ≠ p := by omega
  by_cases cj : j < 12
  ·have cj' : (j : Int) < 12 := by omega
   have wj : IntKind.i64.wrap ((j : Int) + 1) = ((j + 1 : Nat) : Int) := by rw [IntKind.wrap_i64]; omega
   obtain ⟨⟨a, t, l⟩, hxj⟩ : ∃ x, opT[j]? = some x := ⟨_, List.getElem?_eq_getElem (show j < opT.length from cj)⟩
   have ix := ixs j a l t hxj
   clear ixs
   by_cases ex : a = s
   ·subst ex
    have ht : (a == a) = true := by simp
    have eR : Hid (R = (a, t, l)) := oy'.out j t l hxj
    clear hx hxj on' oy'
    go_wp2_with fail
    rw [eR.out]
    exact bodyPost_ret (v := .agg #[.int .i64 a, .string t, .int .i64 l]) (by simp [results, Tryz.results94, go_sem, zp, zq, pV, Nat.ne_of_lt pV, f0, f1, f2, ff]) rfl ⟨rfl, by rw [← hp] at *; exact pb_new (pb_set (pb_set (pb_set gV (Nat.le_refl _) _) (Nat.le_refl _) _) (Nat.le_refl _) _) _⟩
   ·have ht : (a == s) = false := by rw [beq_eq_false_iff_ne]; exact ex
    have hx2 : Hid (∀ (k : Nat) x, k < j + 1 → opT[k]? = some x → x.1 ≠ s) := fun k x h e => by
     rcases (show k < j ∨ k = j by omega) with h | h
     ·exact hx.out k x h e
     ·rw [h, hxj] at e; cases e; exact ex
    have x02 := (Below.heap_alloc V (.cells #[.int .i64 a, .string t, .int .i64 l] 133) p pV).trans x0
    clear hx hxj ex on' oy'
    go_wp2_with fail
    exact ⟨⟨j + 1, _, by go_num, by omega, hx2, rfl, x02, by rw [← hp] at *; exact pb_new gV _⟩, by simp [intOf]; omega⟩
  ·obtain rfl : j = 12 := by omega
   have eR : Hid (R = (s, tx0, 5)) := on'.out fun k x e => hx.out k x (op_len e) e
   clear hx on' oy'
   go_wp2_with fail
   rw [eR.out]
   exact bodyPost_ret (v := .agg #[.int .i64 s, .string ⟨#[]⟩, .int .i64 5]) (by simp [results, Tryz.results94, go_sem, f0, f1, f2]) rfl ⟨rfl, by rw [← hp] at *; first | exact gV | exact pb_set (pb_set (pb_set gV (Nat.le_refl _) _) (Nat.le_refl _) _) (Nat.le_refl _) _⟩
set_option maxRecDepth 100000 in
set_option maxHeartbeats 1600000 in
theorem pmust_yes (w : World) : Calls Tryz.prog 68 #[.bool true] w fun e w' => e = .returned (.tuple #[]) ∧ w' = w := by
 go_enter Tryz.func68, Tryz.ntmps68
 go_wp2_with fail
 exact bodyPost_end (v := .tuple #[]) (by simp [results, Tryz.results68, go_sem]) rfl ⟨rfl, rfl⟩
set_option maxRecDepth 100000 in
set_option maxHeartbeats 1600000 in
theorem pmust_no (w : World) : Calls Tryz.prog 68 #[.bool false] w fun e w' => Fault 4 0 e ∧ w' = w := by
 unfold Fault fltV
 go_enter Tryz.func68, Tryz.ntmps68
 go_wp2_with fail
 exact ⟨rfl, rfl, rfl⟩
theorem txt_b (a b : ByteArray) : (a.toList == b.toList) = decide (a = b) := by
 by_cases h : a = b
 ·subst h; simp
 ·rw [txt_no h, decide_eq_false h]
theorem txt_e (a : ByteArray) : a.toList.isEmpty = decide (a = tx0) := by
 have t0 : tx0.toList = [] := by rw [toL]
 by_cases h : a = tx0
 ·subst h; rw [t0]; rfl
 ·rw [decide_eq_false h]
  cases e : a.toList with
  | nil => exact absurd (by have := txt_b a tx0; rw [e, t0] at this; exact of_decide_eq_true this.symm) h
  | cons x xs => rfl
set_option maxRecDepth 100000 in
set_option maxHeartbeats 1600000 in
theorem pbare (op ty : Int) (tx : ByteArray) (p : Option Addr) (n q : Nat) (w : World) : Calls Tryz.prog 116 #[.agg #[.int .i64 op, .string tx, .int .i64 ty, .slice p n q]] w fun e w' => e = .returned (.bool (decide (tx = tx0) && decide (ty = 0))) ∧ Below w.heap.size w w' := by
 have e1 := txt_e tx
 have e2 : (ty == 0) = decide (ty = 0) := by by_cases h : ty = 0 <;> simp [h]
 generalize decide (tx = tx0) = b1 at *
 generalize decide (ty = 0) = b2 at *
 cases b1 <;> cases b2
 all_goals
  go_enter Tryz.func116, Tryz.ntmps116
  go_wp2_with fail
  go_ret
  exact ⟨rfl, pb_new (Below.refl _ _) _⟩
set_option maxRecDepth 100000 in
set_option maxHeartbeats 1600000 in
theorem pnone (x : Ex) (p : Option Addr) (q : Nat) (w : World) : Calls Tryz.prog 104 #[.agg #[.int .i64 x.op, .string x.tx, .int .i64 x.ty, .slice p x.ks.len q]] w fun e w' => e = .returned (.bool (isNone x)) ∧ Below w.heap.size w w' := by
 have kb := pbare x.op x.ty x.tx p x.ks.len q
 have e1 : (x.op == 0) = decide (x.op = 0) := by by_cases h : x.op = 0 <;> simp [h]
 have e2 : (((x.ks.len : Nat) : Int) == 0) = decide (x.ks.len = 0) := by by_cases h : x.ks.len = 0 <;> simp [h]
 obtain ⟨R, hR⟩ : ∃ R, isNone x = R := ⟨_, rfl⟩
 rw [hR]
 have hR' : (decide (x.op = 0) && ((decide (x.tx = tx0) && decide (x.ty = 0)) && decide (x.ks.len = 0))) = R := by rw [← hR]; unfold isNone; simp only [Bool.and_assoc]
 clear hR
 generalize (decide (x.tx = tx0) && decide (x.ty = 0)) = bb at *
 generalize decide (x.op = 0) = b1 at *
 generalize decide (x.ks.len = 0) = b4 at *
 generalize x.op = op at *
 generalize x.ty = ty at *
 generalize x.tx = tx at *
 generalize x.ks.len = n at *
 cases b1 <;> cases bb <;> cases b4
 all_goals
  obtain rfl := hR'
  go_enter Tryz.func104, Tryz.ntmps104
  go_wp2_with (first
   | (go_at_call 116; (refine (kb _).mono ?_); rintro e v1 ⟨rfl, g1⟩; have c3 : v1.cell? ⟨w.heap.size, 3, none⟩ = some (.slice p n q) := (g1.cell (p := ⟨w.heap.size, 3, none⟩) (by simp [go_sem])).trans (by simp [go_sem]))
   | fail)
  go_ret
  first | exact ⟨rfl, pb_new (Below.refl _ _) _⟩ | exact ⟨rfl, pb_call (pb_new (Below.refl _ _) _) g1⟩
theorem scanAt_err : ∀ (l : List UInt8) (a n E A : Nat), scanAt l a n = .error (E, A) → E = 3 ∨ E = 5
 | l, a, n, E, A, h => by
  by_cases h0 : l.length = 0
  ·rw [scanAt_end l a n h0] at h; cases h
  by_cases hk : (tok l).1 = 0
  ·rw [scanAt_bad l a n h0 hk] at h; cases h; exact Or.inl rfl
  by_cases hn : n = 2048
  ·subst hn; rw [scanAt_full l a h0 hk] at h; cases h; exact Or.inr rfl
  rw [scanAt, if_neg h0, dif_neg hk, if_neg hn] at h
  have hp := tok_pos hk
  cases hr : scanAt ((l.drop (tok l).2).drop (cnt 1 (l.drop (tok l).2))) (a + (tok l).2 + cnt 1 (l.drop (tok l).2)) (n + 1) with
  | ok r => rw [hr] at h; cases h
  | error e =>
   rw [hr] at h
   cases h
   exact scanAt_err _ _ _ _ _ hr
 termination_by l => l.length
 decreasing_by
  simp only [List.length_drop]
  omega
theorem scanL_err {l : List UInt8} {E A : Nat} (h : scanL l = .error (E, A)) : E = 3 ∨ E = 5 := by
 unfold scanL at h
 split at h
 ·cases h; exact Or.inr rfl
 ·exact scanAt_err _ _ _ _ _ h
set_option maxRecDepth 100000 in
set_option maxHeartbeats 1600000 in
theorem pnumb (s : ByteArray) (w : World) : Calls Tryz.prog 115 #[.string s] w fun e w' => e = .returned (.bool (isNum s)) ∧ Below w.heap.size w w' := by
 obtain ⟨R, hR⟩ : ∃ R, isNum s = R := ⟨_, rfl⟩
 rw [hR]
 unfold isNum at hR
 cases h : scanL s.toList with
 | error e =>
  obtain ⟨E, A⟩ := e
  have hE := scanL_err h
  have kS := scan_err s E A h
  rw [h] at hR
  obtain rfl := hR
  have e0 : ((E : Nat) : Int) ≠ 0 := by omega
  have e1 : ((((E : Nat) : Int)) == 0) = false := by rw [beq_eq_false_iff_ne]; exact e0
  clear h hE
  generalize ((E : Nat) : Int) = Ei at *
  go_enter Tryz.func115, Tryz.ntmps115
  go_wp2_with (first | (go_at_call 16; (refine (kS _).mono ?_); rintro e v1 ⟨rfl, g1⟩) | fail)
  go_ret
  exact ⟨rfl, g1⟩
 | ok t =>
  have kS := scan_ok s t h
  rw [h] at hR
  by_cases ht : t.length = 1
  ·match t, ht with
   | [(k, a, n)], _ =>
   simp only at hR
   have e1 := txt_b (s.extract a (a + n)) s
   have e3 : (((k : Nat) : Int) == 3) = (k == 3) := by
    by_cases c : k = 3
    ·subst c; rfl
    ·rw [beq_eq_false_iff_ne.2 (show ¬ ((k : Nat) : Int) = 3 by omega), beq_eq_false_iff_ne.2 c]
   have e4 : (((k : Nat) : Int) == 4) = (k == 4) := by
    by_cases c : k = 4
    ·subst c; rfl
    ·rw [beq_eq_false_iff_ne.2 (show ¬ ((k : Nat) : Int) = 4 by omega), beq_eq_false_iff_ne.2 c]
   simp only [tcells] at kS
   clear h ht
   generalize s.extract a (a + n) = x at *
   generalize decide (x = s) = b1 at *
   generalize (k == 3) = b3 at *
   generalize (k == 4) = b4 at *
   generalize ((k : Nat) : Int) = kk at *
   generalize ((a : Nat) : Int) = aa at *
   cases b1 <;> cases b3 <;> cases b4
   all_goals
    obtain rfl := hR
    go_enter Tryz.func115, Tryz.ntmps115
    go_wp2_with (first | (go_at_call 16; (refine (kS _).mono ?_); rintro e v1 ⟨v, rfl, own, g1⟩; obtain ⟨g, cap, rfl, gl, gc, gb, cells⟩ := own_cells own (by simp); have c0 := cells 0 _ rfl; have c1 := cells 1 _ rfl; clear cells own) | fail)
    go_ret
    exact ⟨rfl, g1⟩
  ·have hR0 : R = false := by
    rw [← hR]
    match t, ht with
    | [], _ => rfl
    | _ :: _ :: _, _ => rfl
   subst hR0
   obtain ⟨m, hm⟩ : ∃ m, t.length = m := ⟨_, rfl⟩
   rw [hm] at kS ht
   have e1 : (((m : Nat) : Int) == 1) = false := by rw [beq_eq_false_iff_ne]; omega
   clear h hR hm
   go_enter Tryz.func115, Tryz.ntmps115
   go_wp2_with (first | (go_at_call 16; (refine (kS _).mono ?_); rintro e v1 ⟨v, rfl, own, g1⟩; obtain ⟨o, cap, rfl⟩ := own_shape own; clear own) | fail)
   go_ret
   exact ⟨rfl, g1⟩
end Go.Proofs.YtknoibocpbfmmaaGreatDoor



namespace Go.Proofs.YtknoibocpbfmmaaGreatDoor
open Go.RowKit
set_option linter.unusedVariables false
set_option linter.unusedSimpArgs false
/-- From a block on. -/
abbrev Fr (n : Nat) : Nat → Prop := fun k => n ≤ k
/-- What a part of the parser comes to, of expressions. -/
def ExR (r : Rs Ex) (b B : Nat) (o : Int) (w : World) (e : Ending) (w' : World) : Prop :=
 Onl b w w' ∧ match r with
 | .ok x us d => ∃ p q, e = .returned (.agg #[.int .i64 x.op, .string x.tx, .int .i64 x.ty, .slice p x.ks.len q]) ∧ SlF w' (Fr w.heap.size) (.slice p x.ks.len q) x.ks ∧ PAt w' b B us o d
 | .bad p => Fault 4 p e
 | .more => True
theorem lt_of {W : World} {p : Nat} {x : Obj} (h : W.heap[p]? = some x) : p < W.heap.size := (Array.getElem?_eq_some_iff.1 h).1
theorem ex_cells {V : World} {b : Nat} {t : TypeId} {x0 x1 x2 x3 : Value} (q : V.heap[b]? = some (.cells #[x0, x1, x2, x3] t (0, 0))) : V.cell? ⟨b, 0, none⟩ = some x0 ∧ V.cell? ⟨b, 1, none⟩ = some x1 ∧ V.cell? ⟨b, 2, none⟩ = some x2 ∧ V.cell? ⟨b, 3, none⟩ = some x3 ∧ ∀ j, V.frozen? ⟨b, j, none⟩ = false :=
 ⟨by simp [World.cell?, q], by simp [World.cell?, q], by simp [World.cell?, q], by simp [World.cell?, q], fun j => by simp [World.frozen?, q]⟩
theorem Onl.setNew {b c j : Nat} {x y : World} (h : Onl b x y) (hc : x.heap.size ≤ c) (v : Value) : Onl b x (y.setCell ⟨c, j, none⟩ v) :=
 ⟨h.os, h.tape, h.output, by simpa [World.setCell] using h.size, fun k hk hb => (Below.heap_setCell y _ v k (by show k ≠ c; omega)).trans (h.block k hk hb)⟩
theorem PAt.far {W : World} {b B : Nat} {ts : List Tk} {o d : Int} (h : PAt W b B ts o d) {c j : Nat} (hb : c ≠ b) (hB : c ≠ B) (v : Value) : PAt (W.setCell ⟨c, j, none⟩ v) b B ts o d :=
 h.on (Below.heap_setCell W _ v b (fun e => hb e.symm)) (Below.heap_setCell W _ v B (fun e => hB e.symm))
/-- Between a part's calls: its own block as it lay, the parser, the table. -/
structure Sit (b B p : Nat) (w V : World) (ts : List Tk) (o d : Int) : Prop where
 on : Onl b w V
 q : V.heap[p]? = some (.cells #[.int .i64 0, .string ⟨#[]⟩, .int .i64 0, .slice none 0 0] 85 (0, 0))
 P : PAt V b B ts o d
 O : OpsAt V
 zp : w.heap.size ≤ p
 pb : p ≠ b
 pB : p ≠ B
 hG : b ≠ 0
 bl : b < w.heap.size
theorem Sit.bel {b B p : Nat} {w V V' : World} {ts : List Tk} {o d : Int} (h : Sit b B p w V ts o d) (hne : ts ≠ []) (g : Below V.heap.size V V') : Sit b B p w V' ts o d :=
 ⟨h.on.below g, (g.block p (lt_of h.q)).trans h.q, h.P.bel hne g, h.O.bel g, h.zp, h.pb, h.pB, h.hG, h.bl⟩
theorem Sit.onl {b B p : Nat} {w V V' : World} {ts us : List Tk} {o d o' d' : Int} (h : Sit b B p w V ts o d) (g : Onl b V V') (P : PAt V' b B us o' d') : Sit b B p w V' us o' d' :=
 ⟨h.on.trans g, (g.block p (lt_of h.q) h.pb).trans h.q, P, h.O.onl h.hG g, h.zp, h.pb, h.pB, h.hG, h.bl⟩
theorem Sit.new {b B p : Nat} {w V : World} {ts : List Tk} {o d : Int} (h : Sit b B p w V ts o d) (hne : ts ≠ []) (x : Obj) : Sit b B p w (V.alloc x) ts o d := h.bel hne (pb_new (Below.refl _ _) _)
/-- Four cells stored into the block of what is told. -/
theorem ex_done {w V : World} {b B p : Nat} {us : List Tk} {o d : Int} (h : Sit b B p w V us o d) {x : Ex} {s : Value} {pp : Option Addr} {qq : Nat} (hv : s = .slice pp x.ks.len qq) {S : Nat → Prop} (hs : SlF V S s x.ks) (h1 : ∀ k, S k → w.heap.size ≤ k) (h2 : ¬ S p) {e : Ending} (he : e = .returned (.agg #[.int .i64 x.op, .string x.tx, .int .i64 x.ty, s])) {r : Rs Ex} (hr : r = .ok x us d) (y0 y1 y2 y3 : Value) :
  ExR r b B o w e ((((V.setCell ⟨p, 0, none⟩ y0).setCell ⟨p, 1, none⟩ y1).setCell ⟨p, 2, none⟩ y2).setCell ⟨p, 3, none⟩ y3) := by
 subst hr hv
 refine ⟨(((h.on.setNew h.zp _).setNew h.zp _).setNew h.zp _).setNew h.zp _, _, _, he, ?_, (((h.P.far h.pb h.pB _).far h.pb h.pB _).far h.pb h.pB _).far h.pb h.pB _⟩
 exact ((((hs.kp (Kp.set h2)).kp (Kp.set h2)).kp (Kp.set h2)).kp (Kp.set h2)).lo h1
/-- A new row of expressions. -/
theorem SlF.one {W : World} {S : Nat → Prop} {c q : Nat} {e : Ex} (hc : S c) (h : ExC W S c 0 e) : SlF W S (.slice (some ⟨c, 0, none⟩) 1 q) (e.row .nil) :=
 ⟨_, _, rfl, Or.inr ⟨c, 0, rfl, FoAt.row hc h trivial⟩⟩
theorem SlF.two {W : World} {S : Nat → Prop} {c q : Nat} {e f : Ex} (hc : S c) (h : ExC W S c 0 e) (k : ExC W S c 4 f) : SlF W S (.slice (some ⟨c, 0, none⟩) 2 q) (e.row (f.row .nil)) :=
 ⟨_, _, rfl, Or.inr ⟨c, 0, rfl, FoAt.row hc h (FoAt.row hc k trivial)⟩⟩
/-- A new row of one expression: laid behind its tree. -/
theorem slf_new {V : World} {S : Nat → Prop} {c q : Nat} {s : Value} {e : Ex} (hs : SlF V S s e.ks) (hc : V.heap.size = c) (hS : S c) : SlF (V.alloc (.cells #[.int .i64 e.op, .string e.tx, .int .i64 e.ty, s] 85)) S (.slice (some ⟨c, 0, none⟩) 1 q) (e.row .nil) := by
 subst hc
 have k := hs.kp (Below.kp (pb_new (Below.refl V.heap.size V) (.cells #[.int .i64 e.op, .string e.tx, .int .i64 e.ty, s] 85)) S)
 have q2 := World.alloc_heap_new V (.cells #[.int .i64 e.op, .string e.tx, .int .i64 e.ty, s] 85)
 obtain ⟨c0, c1, c2, c3, _⟩ := ex_cells q2
 exact SlF.one hS ⟨c0, c1, c2, s, c3, k⟩
theorem ks1 {V : World} {c : Nat} (a : Nat) (hc : V.heap.size = c) : KsAt (V.alloc (.cells #[.int .i64 a] 43)) c [a] := by
 subst hc
 intro j k e
 match j, e with
 | 0, e => cases e; simp [go_sem]
 | j + 1, e => simp at e
theorem ks2 {V : World} {c : Nat} (a a' : Nat) (hc : V.heap.size = c) : KsAt (V.alloc (.cells #[.int .i64 a, .int .i64 a'] 43)) c [a, a'] := by
 subst hc
 intro j k e
 match j, e with
 | 0, e => cases e; simp [go_sem]
 | 1, e => cases e; simp [go_sem]
 | j + 2, e => simp at e
theorem Tz.ne {ts : List Tk} (h : Tz ts) : ts ≠ [] := by
 obtain ⟨l, e, rfl⟩ := h; simp
theorem Tz.cons {ts : List Tk} (h : Tz ts) : ∃ t us, ts = t :: us := by
 obtain ⟨l, e, rfl⟩ := h
 cases l <;> exact ⟨_, _, rfl⟩
set_option maxRecDepth 100000 in
set_option maxHeartbeats 1600000 in
theorem pover (op : Int) (s : Value) (w : World) (hs : ∃ p n q, s = .slice p n q) : Calls Tryz.prog 111 #[.int .i64 op, s] w fun e w' => e = .returned (.agg #[.int .i64 op, .string tx0, .int .i64 0, s]) ∧ Below w.heap.size w w' := by
 obtain ⟨p, n, q, rfl⟩ := hs
 go_enter Tryz.func111, Tryz.ntmps111
 go_wp2_with fail
 exact bodyPost_ret (v := .agg #[.int .i64 op, .string ⟨#[]⟩, .int .i64 0, .slice p n q]) (by simp [results, Tryz.results111, go_sem]) rfl ⟨rfl, pb_new (Below.refl _ _) _⟩
set_option maxRecDepth 100000 in
set_option maxHeartbeats 1600000 in
theorem pnumber (b B : Nat) (ts : List Tk) (o d : Int) (z : Tz ts) (w : World) (hO0 : OpsAt w) (hG : b ≠ 0) (h : PAt w b B ts o d) :
  Calls Tryz.prog 112 #[.pointer (some ⟨b, 0, none⟩)] w fun e w' => ExR (numP ts d) b B o w e w' := by
 have zt := fun k => z.tail k
 obtain ⟨t, us, rfl⟩ := z.cons
 have hne : t :: us ≠ [] := by simp
 obtain ⟨R, hR⟩ : ∃ R, numP (t :: us) d = R := ⟨_, rfl⟩
 rw [hR]
 by_cases c : t.1 = 3 ∨ t.1 = 4
 ·have e : Hid (R = .ok ⟨1, t.2.1, 0, .nil⟩ us d) := by rw [← hR]; exact if_pos c
  have us0 : us ≠ [] := (zt (Or.inl (by show t.1 ≠ 0; omega))).1.ne
  have cm : t.1 ∈ [3, 4] := by simp; exact c
  clear hR zt z c
  have hlt := h.lt
  have hltB := h.ltB hne
  go_enter Tryz.func112, Tryz.ntmps112
  go_upto_region 1 with fail
  obtain ⟨W, hW⟩ : ∃ W, w.alloc (.cells #[.int .i64 0, .string ⟨#[]⟩, .int .i64 0, .slice none 0 0] 85) = W := ⟨_, rfl⟩
  obtain ⟨p, hp⟩ : ∃ p, w.heap.size = p := ⟨_, rfl⟩
  have hS : Sit b B p w W (t :: us) o d := by
   have gW : Below w.heap.size w W := by rw [← hW]; exact pb_new (Below.refl _ _) _
   refine ⟨(Onl.refl b w).below gW, ?_, h.bel hne gW, hO0.bel gW, Nat.le_of_eq hp, by omega, by omega, hG, hlt⟩
   rw [← hW, ← hp]; exact World.alloc_heap_new w _
  rw [hW]
  (try rw [hp])
  clear hW h hO0 hp hlt hltB
  go_wp2_with (first
   | (go_at_call 77; (refine (ptake_yes b B _ 2 2 t us o d us0 [3, 4] rfl (by omega) cm _ (ks2 3 4 rfl) (hS.new hne _).P).mono ?_); rintro e v ⟨rfl, hP, on1⟩; replace hS := (hS.new hne _).onl on1 hP; obtain ⟨f0, f1, f2, f3, ff⟩ := ex_cells hS.q)
   | fail)
  exact bodyPost_ret (v := .agg #[.int .i64 1, .string t.2.1, .int .i64 0, .slice none 0 0]) (by simp [results, Tryz.results112, go_sem, f0, f1, f2, f3]) rfl (ex_done hS (x := ⟨1, t.2.1, 0, .nil⟩) rfl (SlF.nil _ (fun k => w.heap.size ≤ k ∧ k ≠ p)) (fun k a => a.1) (fun a => a.2 rfl) rfl e.out _ _ _ _)
 ·have e : Hid (R = .bad t.2.2) := by rw [← hR]; exact if_neg c
  have cm : t.1 ∉ [3, 4] := by simp; omega
  clear hR zt z c
  have hlt := h.lt
  have hltB := h.ltB hne
  go_enter Tryz.func112, Tryz.ntmps112
  go_upto_region 1 with fail
  obtain ⟨W, hW⟩ : ∃ W, w.alloc (.cells #[.int .i64 0, .string ⟨#[]⟩, .int .i64 0, .slice none 0 0] 85) = W := ⟨_, rfl⟩
  obtain ⟨p, hp⟩ : ∃ p, w.heap.size = p := ⟨_, rfl⟩
  have hS : Sit b B p w W (t :: us) o d := by
   have gW : Below w.heap.size w W := by rw [← hW]; exact pb_new (Below.refl _ _) _
   refine ⟨(Onl.refl b w).below gW, ?_, h.bel hne gW, hO0.bel gW, Nat.le_of_eq hp, by omega, by omega, hG, hlt⟩
   rw [← hW, ← hp]; exact World.alloc_heap_new w _
  rw [hW]
  (try rw [hp])
  clear hW h hO0 hp hlt hltB
  go_wp2_with (first
   | (go_at_call 77; (refine (ptake_no b B _ 2 2 t us o d [3, 4] rfl (by omega) cm _ (ks2 3 4 rfl) (hS.new hne _).P).mono ?_); rintro e v ⟨rfl, g⟩; replace hS := (hS.new hne _).bel hne g)
   | fail)
  refine ⟨rfl, ?_⟩
  rw [e.out]
  exact ⟨hS.on, rfl⟩
end Go.Proofs.YtknoibocpbfmmaaGreatDoor


namespace Go.Proofs.YtknoibocpbfmmaaGreatDoor
open Go.RowKit
set_option linter.unusedVariables false
set_option linter.unusedSimpArgs false
def SpE (n : Nat) : Prop := ∀ (lv : Int) (o : Int) (ts : List Tk) (d : Int), Tz ts → 0 ≤ o → o + ts.length ≤ 1000000 → 0 ≤ lv → lv ≤ 10 → eP n lv o ts d ≠ .more → ∀ (b B : Nat) (w : World), OpsAt w → b ≠ 0 → PAt w b B ts o d →
 Calls Tryz.prog 98 #[.pointer (some ⟨b, 0, none⟩), .int .i64 lv] w fun e w' => ExR (eP n lv o ts d) b B o w e w'
def SpS (n : Nat) : Prop := ∀ (o : Int) (ts : List Tk) (d : Int), Tz ts → 0 ≤ o → o + ts.length ≤ 1000000 → sP n o ts d ≠ .more → ∀ (b B : Nat) (w : World), OpsAt w → b ≠ 0 → PAt w b B ts o d →
 Calls Tryz.prog 113 #[.pointer (some ⟨b, 0, none⟩)] w fun e w' => ExR (sP n o ts d) b B o w e w'
def SpG (n : Nat) : Prop := ∀ (o : Int) (ts : List Tk) (d : Int), Tz ts → 0 ≤ o → o + ts.length ≤ 1000000 → gP n o ts d ≠ .more → ∀ (b B : Nat) (w : World), OpsAt w → b ≠ 0 → PAt w b B ts o d →
 Calls Tryz.prog 127 #[.pointer (some ⟨b, 0, none⟩)] w fun e w' => ExR (gP n o ts d) b B o w e w'
def SpV (n : Nat) : Prop := ∀ (o : Int) (ts : List Tk) (d : Int), Tz ts → 0 ≤ o → o + ts.length ≤ 1000000 → vP n o ts d ≠ .more → ∀ (b B : Nat) (w : World), OpsAt w → b ≠ 0 → PAt w b B ts o d →
 Calls Tryz.prog 134 #[.pointer (some ⟨b, 0, none⟩)] w fun e w' => ExR (vP n o ts d) b B o w e w'
def SpI (n : Nat) : Prop := ∀ (o : Int) (ts : List Tk) (d : Int), Tz ts → 0 ≤ o → o + ts.length ≤ 1000000 → iP n o ts d ≠ .more → ∀ (b B : Nat) (w : World), OpsAt w → b ≠ 0 → PAt w b B ts o d →
 Calls Tryz.prog 133 #[.pointer (some ⟨b, 0, none⟩)] w fun e w' => ExR (iP n o ts d) b B o w e w'
def SpC (n : Nat) : Prop := ∀ (o : Int) (ts : List Tk) (d : Int), Tz ts → 0 ≤ o → o + ts.length ≤ 1000001 → cP n o ts d ≠ .more → ∀ (b B : Nat) (w : World), OpsAt w → b ≠ 0 → PAt w b B ts o d →
 Calls Tryz.prog 83 #[.pointer (some ⟨b, 0, none⟩)] w fun e w' => ExR (cP n o ts d) b B o w e w'
theorem Rs.thn_ok {α β : Type} {r : Rs α} {f : α → List Tk → Int → Rs β} {x : α} {ts : List Tk} {d : Int} (h : r = .ok x ts d) : r.thn f = f x ts d := by rw [h]; rfl
theorem Rs.thn_bad {α β : Type} {r : Rs α} {f : α → List Tk → Int → Rs β} {p : Nat} (h : r = .bad p) : r.thn f = .bad p := by rw [h]; rfl
theorem Rs.thn_more {α β : Type} {r : Rs α} {f : α → List Tk → Int → Rs β} (h : r = .more) : r.thn f = .more := by rw [h]; rfl
theorem want_yes {α : Type} {s : ByteArray} {t : Tk} {us : List Tk} {f : List Tk → Rs α} (h : t.2.1 = s) : want s (t :: us) f = f us := if_pos (decide_eq_true h)
theorem want_no {α : Type} {s : ByteArray} {t : Tk} {us : List Tk} {f : List Tk → Rs α} (h : t.2.1 ≠ s) : want s (t :: us) f = .bad t.2.2 := if_neg (by show ¬ decide (t.2.1 = s) = true; rw [decide_eq_true_iff]; exact h)
theorem Sit.pl {b B p : Nat} {w V : World} {ts : List Tk} {o d : Int} (h : Sit b B p w V ts o d) : p < V.heap.size := lt_of h.q
theorem Sit.fr {b B p : Nat} {w V : World} {ts : List Tk} {o d : Int} (h : Sit b B p w V ts o d) : ∀ k, Fr V.heap.size k → w.heap.size ≤ k ∧ k ≠ p := fun k a => by
 have h1 := h.zp
 have h2 := h.pl
 have h3 : V.heap.size ≤ k := a
 omega
theorem Sit.nb {b B p : Nat} {w V : World} {ts : List Tk} {o d : Int} (h : Sit b B p w V ts o d) : ¬ (w.heap.size ≤ b ∧ b ≠ p) := fun a => by have := h.bl; omega
theorem want_tail {t : Tk} {us : List Tk} {s : ByteArray} (z : Tz (t :: us)) (h : t.2.1 = s) (hs : s ≠ tx0) : Tz us := (z.tail (Or.inr (by show t.2.1 ≠ tx0; rw [h]; exact hs))).1
theorem kind_tl {t : Tk} {us : List Tk} (z : Tz (t :: us)) (h : t.1 ≠ 0) : Tz us := (z.tail (Or.inl h)).1
/-- What is told where one part is told behind all that may be stored. -/
theorem SlF.away {V : World} {S : Nat → Prop} {v : Value} {f : Fo} (h : SlF V S v f) {b : Nat} {V' : World} (on : Onl b V V') (hb : ¬ S b) : SlF V' S v f := h.kp (on.kp hb)
set_option maxRecDepth 100000 in
set_option maxHeartbeats 1600000 in
theorem step_C (n : Nat) (ihE : SpE n) : SpC (n + 1) := by
 intro o ts d z o0 oM nm b B w hO0 hG h
 obtain ⟨t, us, rfl⟩ := z.cons
 have hne : t :: us ≠ [] := by simp
 obtain ⟨R, hR⟩ : ∃ R, cP (n + 1) o (t :: us) d = R := ⟨_, rfl⟩
 rw [hR]
 rw [hR] at nm
 rw [cP] at hR
 by_cases c : t.2.1 = tLp
 ·rw [want_yes c] at hR
  have zu := want_tail z c tLp_ne
  have ou : o + us.length ≤ 1000000 := by simp at oM; omega
  cases hr : eP n 0 o us d with
  | more => rw [Rs.thn_more hr] at hR; exact absurd hR.symm nm
  | bad pl =>
   rw [Rs.thn_bad hr] at hR
   have kE := ihE 0 o us d zu o0 ou (by decide) (by decide) (by rw [hr]; simp) b B
   rw [hr] at kE
   have e0 : Hid (R = .bad pl) := hR.symm
   have c' : Hid (t.2.1 = tLp) := c
   clear hR hr nm c z ihE oM
   have hlt := h.lt
   have hltB := h.ltB hne
   go_enter Tryz.func83, Tryz.ntmps83
   go_upto_region 1 with fail
   obtain ⟨W, hW⟩ : ∃ W, w.alloc (.cells #[.int .i64 0, .string ⟨#[]⟩, .int .i64 0, .slice none 0 0] 85) = W := ⟨_, rfl⟩
   obtain ⟨p, hp⟩ : ∃ p, w.heap.size = p := ⟨_, rfl⟩
   have hS : Sit b B p w W (t :: us) o d := by
    have gW : Below w.heap.size w W := by rw [← hW]; exact pb_new (Below.refl _ _) _
    refine ⟨(Onl.refl b w).below gW, ?_, h.bel hne gW, hO0.bel gW, Nat.le_of_eq hp, by omega, by omega, hG, hlt⟩
    rw [← hW, ← hp]; exact World.alloc_heap_new w _
   rw [hW]
   (try rw [hp])
   clear hW h hO0 hp hlt hltB
   have kw := pwant_yes b B t us o d zu.ne _ hS.P
   rw [c'.out] at kw
   go_wp2_with (first
    | (go_at_call 80; (with_reducible refine (kw).mono ?_); rintro e v1 ⟨rfl, hP1, on1⟩; replace hS := hS.onl on1 hP1)
    | (go_at_call 98; (refine (kE _ hS.O hS.hG hS.P).mono ?_); rintro e v2 ⟨on2, rfl⟩; replace hS := hS.on.trans on2)
    | fail)
   refine ⟨rfl, ?_⟩
   rw [e0.out]
   exact ⟨hS, rfl⟩
  | ok x1 us1 d1 =>
   rw [Rs.thn_ok hr] at hR
   have kE := ihE 0 o us d zu o0 ou (by decide) (by decide) (by rw [hr]; simp) b B
   have z1 : Tz us1 := by have := eP_sat n 0 o us d zu; rw [hr] at this; exact this.1
   rw [hr] at kE
   obtain ⟨t2, us2, rfl⟩ := z1.cons
   have ne1 : t2 :: us2 ≠ [] := by simp
   have c' : Hid (t.2.1 = tLp) := c
   by_cases c2 : t2.2.1 = tRp
   ·rw [want_yes c2] at hR
    have z2 := want_tail z1 c2 tRp_ne
    have e0 : Hid (R = .ok x1 us2 d1) := hR.symm
    have c2' : Hid (t2.2.1 = tRp) := c2
    clear hR hr nm c c2 z ihE oM
    have hlt := h.lt
    have hltB := h.ltB hne
    go_enter Tryz.func83, Tryz.ntmps83
    go_upto_region 1 with fail
    obtain ⟨W, hW⟩ : ∃ W, w.alloc (.cells #[.int .i64 0, .string ⟨#[]⟩, .int .i64 0, .slice none 0 0] 85) = W := ⟨_, rfl⟩
    obtain ⟨p, hp⟩ : ∃ p, w.heap.size = p := ⟨_, rfl⟩
    have hS : Sit b B p w W (t :: us) o d := by
     have gW : Below w.heap.size w W := by rw [← hW]; exact pb_new (Below.refl _ _) _
     refine ⟨(Onl.refl b w).below gW, ?_, h.bel hne gW, hO0.bel gW, Nat.le_of_eq hp, by omega, by omega, hG, hlt⟩
     rw [← hW, ← hp]; exact World.alloc_heap_new w _
    rw [hW]
    (try rw [hp])
    clear hW h hO0 hp hlt hltB
    have kw := pwant_yes b B t us o d zu.ne _ hS.P
    rw [c'.out] at kw
    go_upto_region 3 with (first
     | (go_at_call 80; (with_reducible refine (kw).mono ?_); rintro e v1 ⟨rfl, hP1, on1⟩; replace hS := hS.onl on1 hP1)
     | (go_at_call 98; (refine (kE _ hS.O hS.hG hS.P).mono ?_); rintro e v2 ⟨on2, pp2, qq2, rfl, k2, hP2⟩; replace k2 := k2.lo (lo' := (fun k => w.heap.size ≤ k ∧ k ≠ p)) (hS.fr); replace hS := hS.onl on2 hP2)
     | fail)
    obtain ⟨V3, hV3⟩ : ∃ V, v2.alloc (.cells #[.int .i64 x1.op, .string x1.tx, .int .i64 x1.ty, .slice pp2 x1.ks.len qq2] 85) = V := ⟨_, rfl⟩
    obtain ⟨c3, hc3⟩ : ∃ c, v2.heap.size = c := ⟨_, rfl⟩
    have qc3 : V3.heap[c3]? = some (.cells #[.int .i64 x1.op, .string x1.tx, .int .i64 x1.ty, .slice pp2 x1.ks.len qq2] 85 (0, 0)) := by rw [← hV3, ← hc3]; exact World.alloc_heap_new _ _
    have lc3 : p < c3 := by rw [← hc3]; exact hS.pl
    have bc3 : c3 ≠ b := by have := hS.P.lt; omega
    have Bc3 : c3 ≠ B := by have := hS.P.ltB ne1; omega
    replace hS := hS.new ne1 (.cells #[.int .i64 x1.op, .string x1.tx, .int .i64 x1.ty, .slice pp2 x1.ks.len qq2] 85)
    replace k2 := k2.kp (Below.kp (pb_new (Below.refl v2.heap.size v2) (.cells #[.int .i64 x1.op, .string x1.tx, .int .i64 x1.ty, .slice pp2 x1.ks.len qq2] 85)) _)
    rw [hV3] at hS k2
    rw [hV3]
    (try rw [hc3])
    have ec3 : Hid (v2.heap.size = c3) := hc3
    clear hV3 hc3
    have kw2 := pwant_yes b B t2 us2 o d1 z2.ne _ hS.P
    rw [c2'.out] at kw2
    clear kw
    go_wp2_with (first
     | (go_at_call 80; (with_reducible refine (kw2).mono ?_); rintro e v4 ⟨rfl, hP4, on4⟩; replace hS := hS.onl on4 hP4; replace qc3 := (on4.block _ (lt_of qc3) bc3).trans qc3; replace k2 := k2.away on4 hS.nb; obtain ⟨f0, f1, f2, f3, ff⟩ := ex_cells hS.q; obtain ⟨e0_, e1_, e2_, e3_, _⟩ := ex_cells qc3)
     | fail)
    exact bodyPost_ret (v := .agg #[.int .i64 x1.op, .string x1.tx, .int .i64 x1.ty, .slice pp2 x1.ks.len qq2]) (by simp [results, Tryz.results83, go_sem, f0, f1, f2, f3]) rfl (ex_done hS (x := x1) rfl k2 (fun k a => a.1) (fun a => a.2 rfl) rfl e0.out _ _ _ _)
   ·rw [want_no c2] at hR
    have e0 : Hid (R = .bad t2.2.2) := hR.symm
    clear hR hr nm c z ihE oM
    have hlt := h.lt
    have hltB := h.ltB hne
    go_enter Tryz.func83, Tryz.ntmps83
    go_upto_region 1 with fail
    obtain ⟨W, hW⟩ : ∃ W, w.alloc (.cells #[.int .i64 0, .string ⟨#[]⟩, .int .i64 0, .slice none 0 0] 85) = W := ⟨_, rfl⟩
    obtain ⟨p, hp⟩ : ∃ p, w.heap.size = p := ⟨_, rfl⟩
    have hS : Sit b B p w W (t :: us) o d := by
     have gW : Below w.heap.size w W := by rw [← hW]; exact pb_new (Below.refl _ _) _
     refine ⟨(Onl.refl b w).below gW, ?_, h.bel hne gW, hO0.bel gW, Nat.le_of_eq hp, by omega, by omega, hG, hlt⟩
     rw [← hW, ← hp]; exact World.alloc_heap_new w _
    rw [hW]
    (try rw [hp])
    clear hW h hO0 hp hlt hltB
    have kw := pwant_yes b B t us o d zu.ne _ hS.P
    rw [c'.out] at kw
    go_wp2_with (first
     | (go_at_call 80; (with_reducible refine (kw).mono ?_); rintro e v1 ⟨rfl, hP1, on1⟩; replace hS := hS.onl on1 hP1)
     | (go_at_call 98; (refine (kE _ hS.O hS.hG hS.P).mono ?_); rintro e v2 ⟨on2, pp2, qq2, rfl, k2, hP2⟩; replace k2 := k2.lo (lo' := (fun k => w.heap.size ≤ k ∧ k ≠ p)) (hS.fr); replace hS := hS.onl on2 hP2)
     | (go_at_call 80; (with_reducible refine (pwant_no b B t2 us2 o d1 tRp c2 _ (hS.new ne1 _).P).mono ?_); rintro e v4 ⟨rfl, g4⟩; replace hS := ((hS.new ne1 _).bel ne1 g4).on)
     | fail)
    refine ⟨rfl, ?_⟩
    rw [e0.out]
    exact ⟨hS, rfl⟩
 ·rw [want_no c] at hR
  have e0 : Hid (R = .bad t.2.2) := hR.symm
  clear hR nm z ihE oM
  have hlt := h.lt
  have hltB := h.ltB hne
  go_enter Tryz.func83, Tryz.ntmps83
  go_upto_region 1 with fail
  obtain ⟨W, hW⟩ : ∃ W, w.alloc (.cells #[.int .i64 0, .string ⟨#[]⟩, .int .i64 0, .slice none 0 0] 85) = W := ⟨_, rfl⟩
  obtain ⟨p, hp⟩ : ∃ p, w.heap.size = p := ⟨_, rfl⟩
  have hS : Sit b B p w W (t :: us) o d := by
   have gW : Below w.heap.size w W := by rw [← hW]; exact pb_new (Below.refl _ _) _
   refine ⟨(Onl.refl b w).below gW, ?_, h.bel hne gW, hO0.bel gW, Nat.le_of_eq hp, by omega, by omega, hG, hlt⟩
   rw [← hW, ← hp]; exact World.alloc_heap_new w _
  rw [hW]
  (try rw [hp])
  clear hW h hO0 hp hlt hltB
  go_wp2_with (first
   | (go_at_call 80; (with_reducible refine (pwant_no b B t us o d tLp c _ hS.P).mono ?_); rintro e v1 ⟨rfl, g1⟩; replace hS := (hS.bel hne g1).on)
   | fail)
  refine ⟨rfl, ?_⟩
  rw [e0.out]
  exact ⟨hS, rfl⟩
end Go.Proofs.YtknoibocpbfmmaaGreatDoor


