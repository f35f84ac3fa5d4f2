/- A ruler: must, operators by their number, bare expressions, numbers; a ruler in memory. -/
import Derived.Test.YtknoibocpbfmmaaGreatDoorPaF
import Derived.Test.YtknoibocpbfmmaaGreatDoorPbA
import Derived.Test.YtknoibocpbfmmaaGreatDoorFxL
namespace Go.Proofs.YtknoibocpbfmmaaGreatDoor
open Go.RowKit
set_option linter.unusedVariables false
set_option linter.unusedSimpArgs false
/-- The operator of a number: the number, its text (none: it is none between two), its level. -/
def ofT (op : Int) : Int × ByteArray × Int := (opT.find? (fun x => decide (x.1 = op))).getD (op, tx0, 5)
theorem of_no {s : Int} (h : ∀ (j : Nat) x, opT[j]? = some x → x.1 ≠ s) : ofT s = (s, tx0, 5) := by
  unfold ofT
  rw [List.find?_eq_none.2 (fun x hx => ?_)]
  · rfl
  · obtain ⟨j, hj, e⟩ := List.getElem_of_mem hx
    have := h j x (by rw [← e]; exact List.getElem?_eq_getElem hj)
    simp [this]
theorem of_yes {s : Int} {j : Nat} {t : ByteArray} {l : Int} (h : opT[j]? = some (s, t, l)) : ofT s = (s, t, l) := by
  have hj : j < 12 := (List.getElem?_eq_some_iff.1 h).1
  rcases (show j = 0 ∨ j = 1 ∨ j = 2 ∨ j = 3 ∨ j = 4 ∨ j = 5 ∨ j = 6 ∨ j = 7 ∨ j = 8 ∨ j = 9 ∨ j = 10 ∨ j = 11 by omega) with rfl | rfl | rfl | rfl | rfl | rfl | rfl | rfl | rfl | rfl | rfl | rfl <;> (cases h; decide)
theorem of_txt (s : Int) : (ofT s).2.1 ≠ tx0 ↔ (8 ≤ s ∧ s ≤ 19) := by
  by_cases c : 8 ≤ s ∧ s ≤ 19
  · rcases (show s = 8 ∨ s = 9 ∨ s = 10 ∨ s = 11 ∨ s = 12 ∨ s = 13 ∨ s = 14 ∨ s = 15 ∨ s = 16 ∨ s = 17 ∨ s = 18 ∨ s = 19 by omega) with rfl | rfl | rfl | rfl | rfl | rfl | rfl | rfl | rfl | rfl | rfl | rfl <;> decide
  · rw [of_no (fun j x h e => ?_)]
    · exact ⟨fun h => absurd rfl h, fun h => absurd h c⟩
    · have hj : j < 12 := (List.getElem?_eq_some_iff.1 h).1
      subst e
      apply c
      rcases (show j = 0 ∨ j = 1 ∨ j = 2 ∨ j = 3 ∨ j = 4 ∨ j = 5 ∨ j = 6 ∨ j = 7 ∨ j = 8 ∨ j = 9 ∨ j = 10 ∨ j = 11 by omega) with rfl | rfl | rfl | rfl | rfl | rfl | rfl | rfl | rfl | rfl | rfl | rfl <;> (cases h; decide)
set_option maxRecDepth 100000 in
set_option maxHeartbeats 1600000 in
theorem popFor (s : Int) (w : World) (hO : OpsAt w) : Calls Tryz.prog 94 #[.int .i64 s] w fun e w' => e = .returned (.agg #[.int .i64 (ofT s).1, .string (ofT s).2.1, .int .i64 (ofT s).2.2]) ∧ Below w.heap.size w w' := by
  have on := @of_no s
  have oy := @of_yes
  obtain ⟨R, hR⟩ : ∃ R, ofT s = R := ⟨_, rfl⟩
  rw [hR]
  have on' : Hid ((∀ (j : Nat) x, opT[j]? = some x → x.1 ≠ s) → R = (s, tx0, 5)) := fun h => by rw [← hR]; exact on h
  have oy' : Hid (∀ (j : Nat) (t : ByteArray) (l : Int), opT[j]? = some (s, t, l) → R = (s, t, l)) := fun j t l h => by rw [← hR]; exact oy h
  clear on oy hR
  go_enter Tryz.func94, Tryz.ntmps94
  go_upto_region 1 with fail
  obtain ⟨W, hW⟩ : ∃ W, w.alloc (.cells #[.int .i64 0, .string ⟨#[]⟩, .int .i64 0] 133) = W := ⟨_, rfl⟩
  obtain ⟨p, hp⟩ : ∃ p, w.heap.size = p := ⟨_, rfl⟩
  have gW : Below w.heap.size w W := by rw [← hW]; exact pb_new (Below.refl _ _) _
  have x0 : W.heap[p]? = some (.cells #[.int .i64 0, .string ⟨#[]⟩, .int .i64 0] 133 (0, 0)) := by
    rw [← hW, ← hp]; exact World.alloc_heap_new w _
  have hO1 := hO.bel gW
  have ld := op_load W hO1
  rw [hW]
  (try rw [hp])
  clear hW hO1
  have ixs := op_index
  generalize Value.agg (opC opT).toArray = A at *
  refine wp_region_list ?_
  refine Eq.mpr (if_pos (by rfl)) (Or.inl ?_)
  refine wp_load_by 146 (.global 0) rfl _ _ rfl ld ?_
  go_upto_region 2 with fail
  clear ld
  go_loopw [6] (fun i wr => ∃ (j : Nat) (V : World), i = .int .i64 j ∧ j ≤ 12 ∧ Hid (∀ (k : Nat) x, k < j → opT[k]? = some x → x.1 ≠ s) ∧ V = wr ∧ V.heap[p]? = some (.cells #[.int .i64 0, .string ⟨#[]⟩, .int .i64 0] 133 (0, 0)) ∧ Below w.heap.size w V) (fun i _ => 12 - (intOf i).toNat)
  case atStart => exact ⟨0, W, rfl, by omega, fun k x h => by omega, rfl, x0, gW⟩
  case round =>
    clear x0 gW
    obtain ⟨j, V, rfl, hj, hx, e, x0, gV⟩ := hrel
    subst e
    have f0 : V.cell? ⟨p, 0, none⟩ = some (.int .i64 0) := by simp [World.cell?, x0]
    have f1 : V.cell? ⟨p, 1, none⟩ = some (.string ⟨#[]⟩) := by simp [World.cell?, x0]
    have f2 : V.cell? ⟨p, 2, none⟩ = some (.int .i64 0) := by simp [World.cell?, x0]
    have ff : ∀ k, V.frozen? ⟨p, k, none⟩ = false := fun k => by simp [World.frozen?, x0]
    have pV : p < V.heap.size := (Array.getElem?_eq_some_iff.1 x0).1
    have zp : p ≠ V.heap.size := by omega
    have zq : V.heap.size ≠ p := by omega
    by_cases cj : j < 12
    · have cj' : (j : Int) < 12 := by omega
      have wj : IntKind.i64.wrap ((j : Int) + 1) = ((j + 1 : Nat) : Int) := by rw [IntKind.wrap_i64]; omega
      obtain ⟨⟨a, t, l⟩, hxj⟩ : ∃ x, opT[j]? = some x := ⟨_, List.getElem?_eq_getElem (show j < opT.length from cj)⟩
      have ix := ixs j a l t hxj
      clear ixs
      by_cases ex : a = s
      · subst ex
        have ht : (a == a) = true := by simp
        have eR : Hid (R = (a, t, l)) := oy'.out j t l hxj
        clear hx hxj on' oy'
        go_wp2_with fail
        rw [eR.out]
        exact bodyPost_ret (v := .agg #[.int .i64 a, .string t, .int .i64 l]) (by simp [results, Tryz.results94, go_sem, zp, zq, pV, Nat.ne_of_lt pV, f0, f1, f2, ff]) rfl ⟨rfl, by rw [← hp] at *; exact pb_new (pb_set (pb_set (pb_set gV (Nat.le_refl _) _) (Nat.le_refl _) _) (Nat.le_refl _) _) _⟩
      · have ht : (a == s) = false := by rw [beq_eq_false_iff_ne]; exact ex
        have hx2 : Hid (∀ (k : Nat) x, k < j + 1 → opT[k]? = some x → x.1 ≠ s) := fun k x h e => by
          rcases (show k < j ∨ k = j by omega) with h | h
          · exact hx.out k x h e
          · rw [h, hxj] at e; cases e; exact ex
        have x02 := (Below.heap_alloc V (.cells #[.int .i64 a, .string t, .int .i64 l] 133) p pV).trans x0
        clear hx hxj ex on' oy'
        go_wp2_with fail
        exact ⟨⟨j + 1, _, by go_num, by omega, hx2, rfl, x02, by rw [← hp] at *; exact pb_new gV _⟩, by simp [intOf]; omega⟩
    · obtain rfl : j = 12 := by omega
      have eR : Hid (R = (s, tx0, 5)) := on'.out fun k x e => hx.out k x (op_len e) e
      clear hx on' oy'
      go_wp2_with fail
      rw [eR.out]
      exact bodyPost_ret (v := .agg #[.int .i64 s, .string ⟨#[]⟩, .int .i64 5]) (by simp [results, Tryz.results94, go_sem, f0, f1, f2]) rfl ⟨rfl, by rw [← hp] at *; first | exact gV | exact pb_set (pb_set (pb_set gV (Nat.le_refl _) _) (Nat.le_refl _) _) (Nat.le_refl _) _⟩
set_option maxRecDepth 100000 in
set_option maxHeartbeats 1600000 in
theorem pmust_yes (w : World) : Calls Tryz.prog 68 #[.bool true] w fun e w' => e = .returned (.tuple #[]) ∧ w' = w := by
  go_enter Tryz.func68, Tryz.ntmps68
  go_wp2_with fail
  exact bodyPost_end (v := .tuple #[]) (by simp [results, Tryz.results68, go_sem]) rfl ⟨rfl, rfl⟩
set_option maxRecDepth 100000 in
set_option maxHeartbeats 1600000 in
theorem pmust_no (w : World) : Calls Tryz.prog 68 #[.bool false] w fun e w' => Fault 4 0 e ∧ w' = w := by
  unfold Fault fltV
  go_enter Tryz.func68, Tryz.ntmps68
  go_wp2_with fail
  exact ⟨rfl, rfl, rfl⟩
theorem txt_b (a b : ByteArray) : (a.toList == b.toList) = decide (a = b) := by
  by_cases h : a = b
  · subst h; simp
  · rw [txt_no h, decide_eq_false h]
theorem txt_e (a : ByteArray) : a.toList.isEmpty = decide (a = tx0) := by
  have t0 : tx0.toList = [] := by rw [toL]
  by_cases h : a = tx0
  · subst h; rw [t0]; rfl
  · rw [decide_eq_false h]
    cases e : a.toList with
    | nil => exact absurd (by have := txt_b a tx0; rw [e, t0] at this; exact of_decide_eq_true this.symm) h
    | cons x xs => rfl
set_option maxRecDepth 100000 in
set_option maxHeartbeats 1600000 in
theorem pbare (op ty : Int) (tx : ByteArray) (p : Option Addr) (n q : Nat) (w : World) : Calls Tryz.prog 116 #[.agg #[.int .i64 op, .string tx, .int .i64 ty, .slice p n q]] w fun e w' => e = .returned (.bool (decide (tx = tx0) && decide (ty = 0))) ∧ Below w.heap.size w w' := by
  have e1 := txt_e tx
  have e2 : (ty == 0) = decide (ty = 0) := by by_cases h : ty = 0 <;> simp [h]
  generalize decide (tx = tx0) = b1 at *
  generalize decide (ty = 0) = b2 at *
  cases b1 <;> cases b2
  all_goals
    go_enter Tryz.func116, Tryz.ntmps116
    go_wp2_with fail
    go_ret
    exact ⟨rfl, pb_new (Below.refl _ _) _⟩
set_option maxRecDepth 100000 in
set_option maxHeartbeats 1600000 in
theorem pnone (x : Ex) (p : Option Addr) (q : Nat) (w : World) : Calls Tryz.prog 104 #[.agg #[.int .i64 x.op, .string x.tx, .int .i64 x.ty, .slice p x.ks.len q]] w fun e w' => e = .returned (.bool (isNone x)) ∧ Below w.heap.size w w' := by
  have kb := pbare x.op x.ty x.tx p x.ks.len q
  have e1 : (x.op == 0) = decide (x.op = 0) := by by_cases h : x.op = 0 <;> simp [h]
  have e2 : (((x.ks.len : Nat) : Int) == 0) = decide (x.ks.len = 0) := by by_cases h : x.ks.len = 0 <;> simp [h]
  obtain ⟨R, hR⟩ : ∃ R, isNone x = R := ⟨_, rfl⟩
  rw [hR]
  have hR' : (decide (x.op = 0) && ((decide (x.tx = tx0) && decide (x.ty = 0)) && decide (x.ks.len = 0))) = R := by rw [← hR]; unfold isNone; simp only [Bool.and_assoc]
  clear hR
  generalize (decide (x.tx = tx0) && decide (x.ty = 0)) = bb at *
  generalize decide (x.op = 0) = b1 at *
  generalize decide (x.ks.len = 0) = b4 at *
  generalize x.op = op at *
  generalize x.ty = ty at *
  generalize x.tx = tx at *
  generalize x.ks.len = n at *
  cases b1 <;> cases bb <;> cases b4
  all_goals
    obtain rfl := hR'
    go_enter Tryz.func104, Tryz.ntmps104
    go_wp2_with (first
      | (go_at_call 116; (refine (kb _).mono ?_); rintro e v1 ⟨rfl, g1⟩; have c3 : v1.cell? ⟨w.heap.size, 3, none⟩ = some (.slice p n q) := (g1.cell (p := ⟨w.heap.size, 3, none⟩) (by simp [go_sem])).trans (by simp [go_sem]))
      | fail)
    go_ret
    first | exact ⟨rfl, pb_new (Below.refl _ _) _⟩ | exact ⟨rfl, pb_call (pb_new (Below.refl _ _) _) g1⟩
theorem scanAt_err : ∀ (l : List UInt8) (a n E A : Nat), scanAt l a n = .error (E, A) → E = 3 ∨ E = 5
  | l, a, n, E, A, h => by
    by_cases h0 : l.length = 0
    · rw [scanAt_end l a n h0] at h; cases h
    by_cases hk : (tok l).1 = 0
    · rw [scanAt_bad l a n h0 hk] at h; cases h; exact Or.inl rfl
    by_cases hn : n = 2048
    · subst hn; rw [scanAt_full l a h0 hk] at h; cases h; exact Or.inr rfl
    rw [scanAt, if_neg h0, dif_neg hk, if_neg hn] at h
    have hp := tok_pos hk
    cases hr : scanAt ((l.drop (tok l).2).drop (cnt 1 (l.drop (tok l).2))) (a + (tok l).2 + cnt 1 (l.drop (tok l).2)) (n + 1) with
    | ok r => rw [hr] at h; cases h
    | error e =>
      rw [hr] at h
      cases h
      exact scanAt_err _ _ _ _ _ hr
  termination_by l => l.length
  decreasing_by
    simp only [List.length_drop]
    omega
theorem scanL_err {l : List UInt8} {E A : Nat} (h : scanL l = .error (E, A)) : E = 3 ∨ E = 5 := by
  unfold scanL at h
  split at h
  · cases h; exact Or.inr rfl
  · exact scanAt_err _ _ _ _ _ h
set_option maxRecDepth 100000 in
set_option maxHeartbeats 1600000 in
theorem pnumb (s : ByteArray) (w : World) : Calls Tryz.prog 115 #[.string s] w fun e w' => e = .returned (.bool (isNum s)) ∧ Below w.heap.size w w' := by
  obtain ⟨R, hR⟩ : ∃ R, isNum s = R := ⟨_, rfl⟩
  rw [hR]
  unfold isNum at hR
  cases h : scanL s.toList with
  | error e =>
    obtain ⟨E, A⟩ := e
    have hE := scanL_err h
    have kS := scan_err s E A h
    rw [h] at hR
    obtain rfl := hR
    have e0 : ((E : Nat) : Int) ≠ 0 := by omega
    have e1 : ((((E : Nat) : Int)) == 0) = false := by rw [beq_eq_false_iff_ne]; exact e0
    clear h hE
    generalize ((E : Nat) : Int) = Ei at *
    go_enter Tryz.func115, Tryz.ntmps115
    go_wp2_with (first | (go_at_call 16; (refine (kS _).mono ?_); rintro e v1 ⟨rfl, g1⟩) | fail)
    go_ret
    exact ⟨rfl, g1⟩
  | ok t =>
    have kS := scan_ok s t h
    rw [h] at hR
    by_cases ht : t.length = 1
    · match t, ht with
      | [(k, a, n)], _ =>
      simp only at hR
      have e1 := txt_b (s.extract a (a + n)) s
      have e3 : (((k : Nat) : Int) == 3) = (k == 3) := by
        by_cases c : k = 3
        · subst c; rfl
        · rw [beq_eq_false_iff_ne.2 (show ¬ ((k : Nat) : Int) = 3 by omega), beq_eq_false_iff_ne.2 c]
      have e4 : (((k : Nat) : Int) == 4) = (k == 4) := by
        by_cases c : k = 4
        · subst c; rfl
        · rw [beq_eq_false_iff_ne.2 (show ¬ ((k : Nat) : Int) = 4 by omega), beq_eq_false_iff_ne.2 c]
      simp only [tcells] at kS
      clear h ht
      generalize s.extract a (a + n) = x at *
      generalize decide (x = s) = b1 at *
      generalize (k == 3) = b3 at *
      generalize (k == 4) = b4 at *
      generalize ((k : Nat) : Int) = kk at *
      generalize ((a : Nat) : Int) = aa at *
      cases b1 <;> cases b3 <;> cases b4
      all_goals
        obtain rfl := hR
        go_enter Tryz.func115, Tryz.ntmps115
        go_wp2_with (first | (go_at_call 16; (refine (kS _).mono ?_); rintro e v1 ⟨v, rfl, own, g1⟩; obtain ⟨g, cap, rfl, gl, gc, gb, cells⟩ := own_cells own (by simp); have c0 := cells 0 _ rfl; have c1 := cells 1 _ rfl; clear cells own) | fail)
        go_ret
        exact ⟨rfl, g1⟩
    · have hR0 : R = false := by
        rw [← hR]
        match t, ht with
        | [], _ => rfl
        | _ :: _ :: _, _ => rfl
      subst hR0
      obtain ⟨m, hm⟩ : ∃ m, t.length = m := ⟨_, rfl⟩
      rw [hm] at kS ht
      have e1 : (((m : Nat) : Int) == 1) = false := by rw [beq_eq_false_iff_ne]; omega
      clear h hR hm
      go_enter Tryz.func115, Tryz.ntmps115
      go_wp2_with (first | (go_at_call 16; (refine (kS _).mono ?_); rintro e v1 ⟨v, rfl, own, g1⟩; obtain ⟨o, cap, rfl⟩ := own_shape own; clear own) | fail)
      go_ret
      exact ⟨rfl, g1⟩
end Go.Proofs.YtknoibocpbfmmaaGreatDoor

