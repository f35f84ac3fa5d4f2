/- Texts of the proof, put together. -/
import Derived.Test.YtknoibocpbfmmaaGreatDoorYG4
import Derived.ScopeJumps
import Derived.OwnWalk
import Derived.Laws.AppendOwn
import Derived.Deep.QuietTactic
import Derived.BigQuiet
import Derived.Test.YtknoibocpbfmmaaGreatDoorYG1
import Derived.Test.YtknoibocpbfmmaaGreatDoorYG3
namespace Go.Proofs.YtknoibocpbfmmaaGreatDoor
open Go.RowKit
set_option linter.unusedVariables false
set_option linter.unusedSimpArgs false
theorem fx_own_block {w : World} {base n size : Nat} {e : TypeId} {v : Value} {xs : List Value} (h : w.ownsRow base e size v n xs) : ∀ k, v.ownBlock = some k → base ≤ k := by
  rintro k hk
  exact (h.lt k hk).1
theorem own_on {w w1 : World} {base n size : Nat} {e : TypeId} {v : Value} {xs : List Value} (hb : Below w.heap.size w w1) (h : w.ownsRow base e size v n xs) : w1.ownsRow base e size v n xs := by
  obtain ⟨h1, h2⟩ := h
  refine ⟨h1, h2.imp id ?_⟩
  rintro ⟨g, cap, cur, e1, e2, e3, e4⟩
  refine ⟨g, cap, cur, e1, e2, (hb.block g ?_).trans e3, e4⟩
  exact (Array.getElem?_eq_some_iff.mp e3).1
theorem own_shape {w : World} {base n size : Nat} {e : TypeId} {v : Value} {xs : List Value} (h : w.ownsRow base e size v n xs) : ∃ (o : Option Addr) (cap : Nat), v = .slice o n cap := by
  rcases h.2 with ⟨rfl, rfl⟩ | ⟨g, cap, cur, rfl, _⟩
  · exact ⟨none, 0, rfl⟩
  · exact ⟨_, _, rfl⟩
def fx_restOf (f : Func) : Code := match f.body with | some (.seq _ (.scope c)) => (findLabel c 0).getD .skip | some (.scope c) => (findLabel c 0).getD .skip | _ => .skip
def fx_bodyOf (f : Func) : Code := match fx_restOf f with | .seq _ c => c | c => c
theorem fx_jump_ret {l : Nat} {J : Act → World → Prop} {Q : Exit → Act → World → Prop} {a : Act} {w : World} (h : Q .ret a w) : Exit.jump l J Q .ret a w := h
theorem scRest_eq : fx_restOf Tryz.f16 = .seq .skip (fx_bodyOf Tryz.f16) := by kernel_rfl
def ScJ (w : World) (O : Except (Nat × Nat) (List (Nat × Nat × Nat))) (a' : Act) (w' : World) : Prop := ∃ (E A : Nat) (u0 u1 u2 u3 u4 u5 u8 u9 u10 u11 u12 u13 u14 u15 u16 u17 u18 u19 u20 u21 u22 u23 u24 u25 u26 u27 u28 u29 u30 u31 u32 u33 u34 u35 u36 u37 u38 u39 u40 u41 u42 u43 u44 u45 u46 u47 u48 u49 u50 u51 u52 u53 u54 : Value), a' = { tmps := #[u0, u1, u2, u3, u4, u5, .int .i64 A, .int .i64 E, u8, u9, u10, u11, u12, u13, u14, u15, u16, u17, u18, u19, u20, u21, u22, u23, u24, u25, u26, u27, u28, u29, u30, u31, u32, u33, u34, u35, u36, u37, u38, u39, u40, u41, u42, u43, u44, u45, u46, u47, u48, u49, u50, u51, u52, u53, u54], defers := [] } ∧ Below w.heap.size w w' ∧ O = .error (E, A)
set_option maxRecDepth 1000000 in
set_option maxHeartbeats 1600000 in
theorem sc_pass (w : World) (O : Except (Nat × Nat) (List (Nat × Nat × Nat))) (Q : Ending → World → Prop) (hQ : ∀ (E A : Nat) w', O = .error (E, A) → Below w.heap.size w w' → Q (.returned (.tuple #[.slice none 0 0, .int .i64 E, .int .i64 A])) w') (a : Act) (w' : World) (hJ : ScJ w O a w') :
    Code.wp Tryz.prog (fx_bodyOf Tryz.f16) (Exit.jump 0 (fun a' w'' => ScJ w O a' w'' ∧ (0 : Nat) < 0) (bodyPost Tryz.prog Tryz.f16 Q)) a w' := by
  conv => arg 2; whnf
  obtain ⟨E, A, u0, u1, u2, u3, u4, u5, u8, u9, u10, u11, u12, u13, u14, u15, u16, u17, u18, u19, u20, u21, u22, u23, u24, u25, u26, u27, u28, u29, u30, u31, u32, u33, u34, u35, u36, u37, u38, u39, u40, u41, u42, u43, u44, u45, u46, u47, u48, u49, u50, u51, u52, u53, u54, rfl, L, hO⟩ := hJ
  have HQ : Hid _ := hQ E A w' hO L
  clear hQ hO
  go_wp2_with fail
  refine fx_jump_ret (bodyPost_ret (v := .tuple #[.slice none 0 0, .int .i64 (E : Int), .int .i64 (A : Int)]) (by simp [results, Tryz.results16, go_sem]) rfl ?_)
  exact HQ.out
theorem info45 : (Tryz.prog.info? 45).map (fun i => (i.zero, i.size, i.bytes)) = some (some (.agg #[.int .i64 0, .string ⟨#[]⟩, .int .i64 0]), 3, 32) := by kernel_rfl
theorem lex_cell (w : World) (x y z : Value) (t : TypeId) : ∀ j u, [x, y, z][j]? = some u → (w.alloc (.cells #[x, y, z] t)).cell? (Addr.add ⟨w.heap.size, 0, none⟩ j) = some u := by
  intro j u h
  match j, h with
  | 0, h => simp at h; subst h; simp [go_sem, Addr.add]
  | 1, h => simp at h; subst h; simp [go_sem, Addr.add]
  | 2, h => simp at h; subst h; simp [go_sem, Addr.add]
  | j + 3, h => simp at h
theorem lex_one (k a : Int) (t : ByteArray) : ∀ u ∈ [Value.int .i64 k, .string t, .int .i64 a], u.oneCell' = true := by
  intro u hu; simp at hu; rcases hu with rfl | rfl | rfl <;> rfl
set_option maxRecDepth 1000000 in
set_option maxHeartbeats 3200000 in
theorem scan_Q (s : ByteArray) (w : World) (Q : Ending → World → Prop)
    (hok : ∀ (t : List (Nat × Nat × Nat)) (v : Value) w', scanL s.toList = .ok t → w'.ownsRow w.heap.size 45 3 v t.length (tcells s t) → Below w.heap.size w w' → Q (.returned (.tuple #[v, .int .i64 0, .int .i64 0])) w')
    (herr : ∀ (E A : Nat) w', scanL s.toList = .error (E, A) → Below w.heap.size w w' → Q (.returned (.tuple #[.slice none 0 0, .int .i64 E, .int .i64 A])) w') :
    Calls Tryz.prog 16 #[.string s] w Q := by
  generalize hO : scanL s.toList = O at *
  have HE : Hid _ := herr
  have HK : Hid _ := hok
  clear herr hok
  unfold scanL at hO
  rw [toL_len] at hO
  by_cases c0 : 8192 < s.size
  · have i0 : (8192 : Int) < (s.size : Int) := by omega
    rw [if_pos c0] at hO
    clear c0
    have HO : Hid _ := hO
    clear hO
    go_enter Tryz.func16, Tryz.ntmps16
    go_wp2_with fail
    refine wp_scope_jumps (rest := fx_restOf Tryz.f16) 0 (ScJ w O) (fun _ _ => 0) (by kernel_rfl) ?_ (fun a w' hJ => by rw [scRest_eq]; exact wp_seq (wp_skip (sc_pass w O _ (fun E A w' h L => HE.out E A w' h L) a w' hJ)))
    go_wp2_with fail
    go_step3
    exact ⟨rfl, 5, 0, _, _, _, _, _, _, _, _, _, _, _, _, _, _, _, _, _, _, _, _, _, _, _, _, _, _, _, _, _, _, _, _, _, _, _, _, _, _, _, _, _, _, _, _, _, _, _, _, _, _, _, _, _, rfl, Below.refl _ _, HO.out.symm⟩
  · rw [if_neg c0] at hO
    have i0 : ¬ (8192 : Int) < (s.size : Int) := by omega
    have h1 := countOf_l s 1 1 (by simp) (by omega)
    have z1 := cnt_size 1 s
    generalize cnt 1 s.toList = n1 at *
    have ln := toL_len s
    obtain ⟨i34, hi, hz0, hz1, hz2⟩ := info_parts info45
    go_enter Tryz.func16, Tryz.ntmps16
    go_wp2_with fail
    refine wp_scope_jumps (rest := fx_restOf Tryz.f16) 0 (ScJ w O) (fun _ _ => 0) (by kernel_rfl) ?_ (fun a w' hJ => by rw [scRest_eq]; exact wp_seq (wp_skip (sc_pass w O _ (fun E A w' h L => HE.out E A w' h L) a w' hJ)))
    go_wp2_with (go_at_call 30; refine (h1 _).mono ?_; rintro e w1 ⟨rfl, b1⟩)
    go_loopw [5, 6] (fun v p wr => ∃ (a : Nat) (t : List (Nat × Nat × Nat)), p = .int .i64 a ∧ a ≤ s.size ∧ t.length ≤ 2048 ∧ wr.ownsRow w.heap.size 45 3 v t.length (tcells s t) ∧ Below w.heap.size w wr ∧ Hid (andThen t (scanAt (s.toList.drop a) a t.length) = O)) (fun _ p _ => s.size - (intOf p).toNat)
    case atStart =>
      refine ⟨n1, [], rfl, z1, by simp, World.ownsRow_nil _ _ _ _, b1, ?_⟩
      rw [← hO]
      show andThen [] (scanAt _ _ 0) = _
      cases scanAt (s.toList.drop n1) n1 0 <;> simp [andThen]
    case round =>
      obtain ⟨a, t, rfl, ha, ht, hown, L, HO⟩ := hrel
      clear hO h1
      have la : (a : Int) ≤ (s.size : Int) := by omega
      by_cases c : a < s.size
      · have ca : (a : Int) < (s.size : Int) := by omega
        have zx : (s.extract a s.size).size ≤ 9223372036854775807 := by rw [← toL_len, toL_cut]; simp; rw [toL_len]; omega
        have hl := longest_any (s.extract a s.size) zx
        rw [toL_cut, List.take_of_length_le (by omega)] at hl
        have tle := tok_le (s.toList.drop a)
        rw [List.length_drop, ln] at tle
        have nz : (s.toList.drop a).length ≠ 0 := by rw [List.length_drop]; omega
        by_cases k0 : (tok (s.toList.drop a)).1 = 0
        · have eO := scanAt_bad (s.toList.drop a) a t.length nz k0
          have HO2 : Hid (O = .error (3, a)) := by rw [← HO.out, eO]; rfl
          rw [k0] at hl
          clear HO eO tle nz k0 zx c ht
          generalize (tok (s.toList.drop a)).2 = len at *
          go_wp2_with (go_at_call 31; refine (hl _).mono ?_; rintro e w2 ⟨rfl, b2⟩)
          go_step3
          exact ⟨rfl, 3, a, _, _, _, _, _, _, _, _, _, _, _, _, _, _, _, _, _, _, _, _, _, _, _, _, _, _, _, _, _, _, _, _, _, _, _, _, _, _, _, _, _, _, _, _, _, _, _, _, _, _, _, _, _, rfl, fx_below_call L b2, HO2.out⟩
        · by_cases full : t.length = 2048
          · have eO := scanAt_full (s.toList.drop a) a nz k0
            have HO2 : Hid (O = .error (5, a)) := by rw [← HO.out, full, eO]; rfl
            have K0 : (((tok (s.toList.drop a)).1 : Int) == 0) = false := by rw [beq_eq_false_iff_ne]; omega
            clear HO eO tle nz zx c ht
            generalize (tok (s.toList.drop a)).1 = k at *
            generalize (tok (s.toList.drop a)).2 = len at *
            rw [full] at hown
            obtain ⟨o, cap, rfl⟩ := own_shape hown
            clear k0 full hown
            go_wp2_with (go_at_call 31; refine (hl _).mono ?_; rintro e w2 ⟨rfl, b2⟩)
            go_step3
            exact ⟨rfl, 5, a, _, _, _, _, _, _, _, _, _, _, _, _, _, _, _, _, _, _, _, _, _, _, _, _, _, _, _, _, _, _, _, _, _, _, _, _, _, _, _, _, _, _, _, _, _, _, _, _, _, _, _, _, _, rfl, fx_below_call L b2, HO2.out⟩
          · have K0 : (((tok (s.toList.drop a)).1 : Int) == 0) = false := by rw [beq_eq_false_iff_ne]; omega
            have F0 : ((t.length : Int) == 2048) = false := by rw [beq_eq_false_iff_ne]; omega
            have eO := scanAt_step (s.toList.drop a) a t.length t nz k0 full
            rw [HO.out] at eO
            simp only [List.drop_drop] at eO
            have tl : Hid (t.length < 2048) := by show t.length < 2048; omega
            have tp := tok_pos k0
            have zy : (s.extract (a + (tok (s.toList.drop a)).2) s.size).size ≤ 9223372036854775807 := by rw [← toL_len, toL_cut]; simp; rw [toL_len]; omega
            have h5 := countOf_l (s.extract (a + (tok (s.toList.drop a)).2) s.size) 1 1 (by simp) zy
            rw [toL_cut, List.take_of_length_le (by omega)] at h5
            have z5 := cnt_le 1 (s.toList.drop (a + (tok (s.toList.drop a)).2))
            rw [List.length_drop, ln] at z5
            have HO2 : Hid _ := eO
            clear HO eO nz zx zy full
            generalize (tok (s.toList.drop a)).1 = k at *
            generalize (tok (s.toList.drop a)).2 = len at *
            generalize cnt 1 (s.toList.drop (a + len)) = q at *
            have i1 : (a : Int) + (len : Int) ≤ (s.size : Int) := by omega
            have i2 : (a : Int) ≤ (a : Int) + (len : Int) := by omega
            have i3 : (a : Int) + (len : Int) + (q : Int) ≤ (s.size : Int) := by omega
            have i4 : (a : Int) + (len : Int) + (q : Int) < 9223372036854775808 := by omega
            have i5 : (a : Int) + (len : Int) < 9223372036854775808 := by omega
            have l1 : t.length + 1 ≤ maxLen := by unfold maxLen; omega
            have l2 : (t.length + 1) * 32 ≤ 140737488355328 := by omega
            obtain ⟨o, cap, rfl⟩ := own_shape hown
            clear k0
            go_wp2_with (first
              | (go_at_call 31; refine (hl _).mono ?_; rintro e w2 ⟨rfl, b2⟩; have hown2 := own_on b2 hown; have l3 : w.heap.size ≤ w2.heap.size + 1 := by (have := (fx_below_call L b2).size; omega))
              | (at_builtin; refine wpList_append_own _ rfl _ _ 40 rfl w.heap.size 45 i34 (.agg #[.int .i64 0, .string ⟨#[]⟩, .int .i64 0]) 3 32 Tryz.underlying40 hi hz0 hz1 hz2 rfl (by decide) _ _ _ rfl (hown2.alloc _) ⟨w2.heap.size, 0, none⟩ 1 1 [.int .i64 (k : Int), .string (s.extract a (a + len)), .int .i64 (a : Int)] rfl rfl (lex_cell _ _ _ _ _) (lex_one _ _ _) l1 l2 (by rw [World.size_alloc]; exact l3) ?_; intro v' w3 hown' hgrow hnil; clear hnil)
              | (go_at_call 30; refine (h5 _).mono ?_; rintro e w4 ⟨rfl, b4⟩)
              | go_in)
            go_roundw
            case rel =>
              have L3 : Below w.heap.size w w3 := (fx_below_new (fx_below_call L b2) _).grown hgrow (by rw [World.size_alloc]; exact l3) (fx_own_block hown2)
              refine ⟨a + len + q, t ++ [(k, a, len)], by go_num, by omega, by have := tl.out; simp; omega, ?_, fx_below_call L3 b4, ?_⟩
              · rw [List.length_append, tcells_app]
                exact own_on b4 hown'
              · rw [List.length_append]
                exact HO2.out.symm
            case measure => simp [intOf]; omega
      · obtain rfl : a = s.size := by omega
        have eO := scanAt_end (s.toList.drop s.size) s.size t.length (by simp [ln])
        have HO2 : Hid (O = .ok t) := by rw [← HO.out, eO]; show Except.ok (t ++ []) = _; rw [List.append_nil]
        clear HO eO c
        go_wp2_with fail
        refine fx_jump_ret (bodyPost_ret (v := .tuple #[u5, .int .i64 0, .int .i64 0]) (by simp [results, Tryz.results16, go_sem]) rfl ?_)
        exact HK.out t u5 _ HO2.out hown L
end Go.Proofs.YtknoibocpbfmmaaGreatDoor

namespace Go.Proofs.YtknoibocpbfmmaaGreatDoor
open Go.RowKit
set_option linter.unusedVariables false
set_option linter.unusedSimpArgs false
theorem scan_ok (s : ByteArray) (t : List (Nat × Nat × Nat)) (h : scanL s.toList = .ok t) (w : World) :
    Calls Tryz.prog 16 #[.string s] w fun e w' => ∃ v, e = .returned (.tuple #[v, .int .i64 0, .int .i64 0]) ∧ w'.ownsRow w.heap.size 45 3 v t.length (tcells s t) ∧ Below w.heap.size w w' := by
  refine scan_Q s w _ (fun t' v w' h' o L => ?_) (fun E A w' h' L => ?_)
  · obtain rfl : t = t' := by rw [h] at h'; exact Except.ok.inj h'
    exact ⟨v, rfl, o, L⟩
  · rw [h] at h'; cases h'
theorem scan_err (s : ByteArray) (E A : Nat) (h : scanL s.toList = .error (E, A)) (w : World) :
    Calls Tryz.prog 16 #[.string s] w fun e w' => e = .returned (.tuple #[.slice none 0 0, .int .i64 E, .int .i64 A]) ∧ Below w.heap.size w w' := by
  refine scan_Q s w _ (fun t' v w' h' o L => ?_) (fun E' A' w' h' L => ?_)
  · rw [h] at h'; cases h'
  · rw [h] at h'
    obtain ⟨rfl, rfl⟩ := Prod.mk.inj (Except.error.inj h')
    exact ⟨rfl, L⟩
/-- The cells of what a slice owns. -/
theorem own_cells {w : World} {base n size : Nat} {e : TypeId} {v : Value} {xs : List Value} (h : w.ownsRow base e size v n xs) (hn : n ≠ 0) :
    ∃ g cap : Nat, v = .slice (some ⟨g, 0, none⟩) n cap ∧ g < w.heap.size ∧ n ≤ cap ∧ base ≤ g ∧ ∀ j x, xs[j]? = some x → w.cell? ⟨g, j, none⟩ = some x := by
  obtain ⟨h1, ⟨_, h2⟩ | ⟨g, cap, cur, rfl, h3, h4, h5, h6, h7, h8⟩⟩ := h
  · exact absurd h2 hn
  · refine ⟨g, cap, rfl, (Array.getElem?_eq_some_iff.mp h4).1, h5, h3, fun j x hx => ?_⟩
    rw [cell_of_row w g j cur e (0, 0) h4, ← Array.getElem?_toList]
    rw [← h8, List.getElem?_take] at hx
    split at hx
    · exact hx
    · cases hx
end Go.Proofs.YtknoibocpbfmmaaGreatDoor


namespace Go.Proofs.YtknoibocpbfmmaaGreatDoor
open Go.RowKit
set_option linter.unusedVariables false
set_option linter.unusedSimpArgs false
/-- Tokens from a place on, one behind the other, none empty, none past N. -/
def rise (N : Nat) : Nat → List (Nat × Nat × Nat) → Prop
  | _, [] => True
  | a, (_, p, n) :: t => a ≤ p ∧ 1 ≤ n ∧ p + n ≤ N ∧ rise N (p + n) t
theorem fxp_scanAt_err (m : Nat) : ∀ l a n E A, l.length ≤ m → scanAt l a n = .error (E, A) → E = 3 ∨ E = 5 := by
  induction m with
  | zero =>
    intro l a n E A hl h
    rw [scanAt_end l a n (by omega)] at h
    cases h
  | succ m ih =>
    intro l a n E A hl h
    by_cases h0 : l.length = 0
    · rw [scanAt_end l a n h0] at h
      cases h
    · by_cases hk : (tok l).1 = 0
      · rw [scanAt_bad l a n h0 hk] at h; cases h; exact Or.inl rfl
      · by_cases hn : n = 2048
        · subst hn; rw [scanAt_full l a h0 hk] at h; cases h; exact Or.inr rfl
        · rw [scanAt, if_neg h0, dif_neg hk, if_neg hn] at h
          have tp := tok_pos hk
          split at h
          · cases h
          · rename_i e hr
            cases h
            exact ih _ _ _ _ _ (by simp only [List.length_drop]; omega) hr
theorem fxp_scanL_err {l : List UInt8} {E A : Nat} (h : scanL l = .error (E, A)) : E = 3 ∨ E = 5 := by
  unfold scanL at h
  split at h
  · cases h; exact Or.inr rfl
  · exact fxp_scanAt_err _ _ _ _ _ _ (Nat.le_refl _) h
end Go.Proofs.YtknoibocpbfmmaaGreatDoor


namespace Go.Proofs.YtknoibocpbfmmaaGreatDoor
open Go.RowKit
set_option linter.unusedVariables false
set_option linter.unusedSimpArgs false
/-- Where they stand. -/
def pl (b : Nat) : List (Nat × List UInt8) → Nat → List (Nat × Nat × Nat)
  | [], _ => []
  | (k, T) :: r, a => (k, a, T.length) :: pl b r (a + T.length + b)
end Go.Proofs.YtknoibocpbfmmaaGreatDoor


namespace Go.Proofs.YtknoibocpbfmmaaGreatDoor
set_option linter.unusedVariables false
/-- Is a text one number, from end to end? -/
def isNum (s : ByteArray) : Bool := match scanL s.toList with
  | .ok [(k, a, n)] => decide (s.extract a (a + n) = s) && (k == 3 || k == 4)
  | _ => false
/-- Has an expression what its kind has? -/
def exOk (op : Int) (tx : ByteArray) (ty : Int) (n : Nat) : Bool :=
  if op = 1 then isNum tx && (decide (ty = 0) && decide (n = 0))
  else if op = 2 then isN tx.toList && (decide (ty = 0) && decide (n = 0))
  else if op = 3 then isN tx.toList && (decide (ty = 0) && decide (n = 1))
  else if op = 7 then decide (tx = tx0) && (decide (1 ≤ ty ∧ ty ≤ 3) && decide (n = 1))
  else if op = 4 ∨ op = 20 ∨ op = 5 ∨ op = 6 then decide (tx = tx0) && (decide (ty = 0) && decide (n = 1))
  else decide (8 ≤ op ∧ op ≤ 19) && (decide (tx = tx0) && (decide (ty = 0) && decide (n = 2)))
/-- Expressions in a row, so deep: how many are counted then; none: they are not right. -/
def ruF (deep : Nat) : Fo → Nat → Option Nat
  | .nil, x => some x
  | .cons op tx ty ks r, x => if (decide (x + 1 ≤ 2048) && (decide (deep ≤ 24) && exOk op tx ty ks.len)) = true then (ruF (deep + 1) ks (x + 1)).bind fun x => ruF deep r x else none
def ruE (deep : Nat) (e : Ex) (x : Nat) : Option Nat := ruF deep (e.row .nil) x
theorem ruE_eq (deep : Nat) (e : Ex) (x : Nat) : ruE deep e x = if (decide (x + 1 ≤ 2048) && (decide (deep ≤ 24) && exOk e.op e.tx e.ty e.ks.len)) = true then ruF (deep + 1) e.ks (x + 1) else none := by
  unfold ruE Ex.row
  rw [ruF]
  split
  · cases ruF (deep + 1) e.ks (x + 1) <;> rfl
  · rfl
theorem ruF_cons (deep : Nat) (e : Ex) (r : Fo) (x : Nat) : ruF deep (e.row r) x = (ruE deep e x).bind fun x => ruF deep r x := by
  rw [ruE_eq, Ex.row, ruF]
  split <;> rfl
def isNone (e : Ex) : Bool := decide (e.op = 0) && (decide (e.tx = tx0) && (decide (e.ty = 0) && decide (e.ks.len = 0)))
/-- Is it a number, perhaps with a sign? -/
def isBd (e : Ex) : Bool := if e.op = 4 then match e.ks with | .cons op _ _ _ _ => decide (op = 1) | .nil => false else decide (e.op = 1)
def ruB (e : Ex) (x : Nat) : Option Nat := (ruE 1 e x).bind fun x => if isBd e = true then some x else none
/-- What must be empty in a statement. -/
def bare (nm : ByteArray) (ix : Nat) (v l h : Ex) (t e : Nat) : Bool := decide (nm = tx0) && (decide (ix = 0) && (isNone v && (isNone l && (isNone h && (decide (t = 0) && decide (e = 0))))))
/-- Statements in a row, in a block so deep: points and expressions. -/
def ruS (deep : Nat) : So → Nat × Nat → Option (Nat × Nat)
  | .nil, c => some c
  | .cons d nm ix v l h t e r, c =>
    if c.1 + 1 ≤ 256 then
      (if d = 1 then if (isN nm.toList && decide (ix.len ≤ 1)) = true then (ruF 1 ix c.2).bind fun x => (ruE 1 v x).bind fun x => if bare tx0 0 exN l h t.len e.len = true then some (c.1 + 1, x) else none else none
      else if d = 2 then if isN nm.toList = true then (ruB l c.2).bind fun x => (ruB h x).bind fun x => if bare tx0 ix.len v exN exN t.len e.len = true then some (c.1 + 1, x) else none else none
      else if d = 3 then (ruE 1 v c.2).bind fun x => if deep + 1 ≤ 24 then (ruS (deep + 1) t (c.1 + 1, x)).bind fun c => (ruS (deep + 1) e c).bind fun c => if bare nm ix.len exN l h 0 0 = true then some c else none else none
      else if d = 4 then (ruE 1 v c.2).bind fun x => if deep + 1 ≤ 24 then (ruS (deep + 1) t (c.1 + 1, x)).bind fun c => if bare nm ix.len exN l h 0 e.len = true then some c else none else none
      else none).bind fun c => ruS deep r c
    else none
/-- A block so deep. -/
def ruK (deep : Nat) (l : So) (c : Nat × Nat) : Option (Nat × Nat) := if deep ≤ 24 then ruS deep l c else none
/-- A statement, so deep, behind its point. -/
def ruT (deep : Nat) (s : St) (c : Nat × Nat) : Option (Nat × Nat) :=
  if s.dO = 1 then if (isN s.name.toList && decide (s.index.len ≤ 1)) = true then (ruF 1 s.index c.2).bind fun x => (ruE 1 s.value x).bind fun x => if bare tx0 0 exN s.low s.high s.thn.len s.els.len = true then some (c.1, x) else none else none
  else if s.dO = 2 then if isN s.name.toList = true then (ruB s.low c.2).bind fun x => (ruB s.high x).bind fun x => if bare tx0 s.index.len s.value exN exN s.thn.len s.els.len = true then some (c.1, x) else none else none
  else if s.dO = 3 then (ruE 1 s.value c.2).bind fun x => (ruK (deep + 1) s.thn (c.1, x)).bind fun c => (ruK (deep + 1) s.els c).bind fun c => if bare s.name s.index.len exN s.low s.high 0 0 = true then some c else none
  else if s.dO = 4 then (ruE 1 s.value c.2).bind fun x => (ruK (deep + 1) s.thn (c.1, x)).bind fun c => if bare s.name s.index.len exN s.low s.high 0 s.els.len = true then some c else none
  else none
theorem ruS_cons (deep : Nat) (s : St) (r : So) (c : Nat × Nat) : ruS deep (s.row r) c = if c.1 + 1 ≤ 256 then (ruT deep s (c.1 + 1, c.2)).bind fun c => ruS deep r c else none := by
  rw [St.row, ruS]
  unfold ruT ruK
  by_cases c0 : c.1 + 1 ≤ 256
  · rw [if_pos c0, if_pos c0]
    congr 1
    by_cases c1 : s.dO = 1
    · rw [if_pos c1, if_pos c1]
    · rw [if_neg c1, if_neg c1]
      by_cases c2 : s.dO = 2
      · rw [if_pos c2, if_pos c2]
      · rw [if_neg c2, if_neg c2]
        by_cases c3 : s.dO = 3
        · rw [if_pos c3, if_pos c3]
          congr 1
          funext x
          by_cases c5 : deep + 1 ≤ 24
          · rw [if_pos c5, if_pos c5]
            congr 1
            funext y
            rw [if_pos c5]
          · rw [if_neg c5, if_neg c5]; rfl
        · rw [if_neg c3, if_neg c3]
          by_cases c4 : s.dO = 4
          · rw [if_pos c4, if_pos c4]
            congr 1
            funext x
            by_cases c5 : deep + 1 ≤ 24
            · rw [if_pos c5, if_pos c5]
            · rw [if_neg c5, if_neg c5]; rfl
          · rw [if_neg c4, if_neg c4]
  · rw [if_neg c0, if_neg c0]
def dcOk (d : Dc) : Bool := isN d.1.toList && (decide (1 ≤ d.2.1 ∧ d.2.1 ≤ 3) && decide (0 ≤ d.2.2 ∧ d.2.2 ≤ 64))
/-- A program's points; none: it is not right. -/
def ruP (p : Pg) : Option (Nat × Nat) := if (decide (p.1.length ≤ 24) && p.1.all dcOk) = true then ruK 1 p.2 (0, 0) else none
/-- What a text's parse comes to: the program, or the error and its place. -/
def parT (ts : List Tk) (r : Rs Pg) : Except (Nat × Nat) Pg := match r with
  | .ok p _ d => if decide (d ≤ 24) && (ruP p).isSome then .ok p else .error (5, 0)
  | .bad a => .error (4, a)
  | .more => .error (0, 0)
/-- The tokens of a text, as a parser has them. -/
def tks (s : ByteArray) (l : List (Nat × Nat × Nat)) : List Tk := l.map (fun x => (x.1, s.extract x.2.1 (x.2.1 + x.2.2), x.2.1)) ++ [(0, tx0, s.size)]
/-- fparse.Parse, of a text. -/
def prsL (s : ByteArray) : Except (Nat × Nat) Pg := match scanL s.toList with
  | .error e => .error e
  | .ok l => parT (tks s l) (pgP 16500 (tks s l))
end Go.Proofs.YtknoibocpbfmmaaGreatDoor

namespace Go.Proofs.YtknoibocpbfmmaaGreatDoor
set_option linter.unusedVariables false
/-- Tokens are of some kind, and rise. -/
theorem scanAt_kinds : ∀ (t : List (Nat × Nat × Nat)) (l : List UInt8) (a n : Nat), scanAt l a n = .ok t → ∀ x ∈ t, x.1 ≠ 0 ∧ a ≤ x.2.1 ∧ x.2.1 + x.2.2 ≤ a + l.length
  | t, l, a, n, h => by
    by_cases h0 : l.length = 0
    · rw [scanAt_end l a n h0] at h
      have := Except.ok.inj h
      subst this
      intro x hx; cases hx
    by_cases hk : (tok l).1 = 0
    · rw [scanAt_bad l a n h0 hk] at h; cases h
    by_cases hn : n = 2048
    · subst hn; rw [scanAt_full l a h0 hk] at h; cases h
    rw [scanAt, if_neg h0, dif_neg hk, if_neg hn] at h
    obtain ⟨c, hc⟩ : ∃ c, cnt 1 (l.drop (tok l).2) = c := ⟨_, rfl⟩
    rw [hc] at h
    cases hr : scanAt ((l.drop (tok l).2).drop c) (a + (tok l).2 + c) (n + 1) with
    | error e => rw [hr] at h; cases h
    | ok r =>
      rw [hr] at h
      have h2 := Except.ok.inj h
      subst h2
      have hl := tok_le l
      have hcl := cnt_le 1 (l.drop (tok l).2)
      rw [hc, List.length_drop] at hcl
      intro x hx
      rcases List.mem_cons.1 hx with rfl | hx
      · exact ⟨hk, Nat.le_refl _, by simp only; omega⟩
      · obtain ⟨j1, j2, j3⟩ := scanAt_kinds r _ _ _ hr x hx
        simp only [List.length_drop] at j3
        exact ⟨j1, by omega, by omega⟩
theorem scanL_kinds {l : List UInt8} {t : List (Nat × Nat × Nat)} (h : scanL l = .ok t) : ∀ x ∈ t, x.1 ≠ 0 ∧ x.2.1 + x.2.2 ≤ l.length := by
  unfold scanL at h
  split at h
  · cases h
  · intro x hx
    obtain ⟨j1, j2, j3⟩ := scanAt_kinds t _ _ _ h x hx
    have := cnt_le 1 l
    rw [List.length_drop] at j3
    exact ⟨j1, by omega⟩
end Go.Proofs.YtknoibocpbfmmaaGreatDoor


namespace Go.Proofs.YtknoibocpbfmmaaGreatDoor
open Go.RowKit
set_option linter.unusedVariables false
set_option linter.unusedSimpArgs false
theorem scanAt_len : ∀ (t : List (Nat × Nat × Nat)) (l : List UInt8) (a n : Nat), n ≤ 2048 → scanAt l a n = .ok t → n + t.length ≤ 2048
  | t, l, a, n, hn0, h => by
    by_cases h0 : l.length = 0
    · rw [scanAt_end l a n h0] at h
      have := Except.ok.inj h
      subst this
      exact hn0
    by_cases hk : (tok l).1 = 0
    · rw [scanAt_bad l a n h0 hk] at h; cases h
    by_cases hn : n = 2048
    · subst hn; rw [scanAt_full l a h0 hk] at h; cases h
    rw [scanAt, if_neg h0, dif_neg hk, if_neg hn] at h
    have hp := tok_pos hk
    have hlt : ((l.drop (tok l).2).drop (cnt 1 (l.drop (tok l).2))).length < l.length := by rw [List.length_drop, List.length_drop]; omega
    cases hr : scanAt ((l.drop (tok l).2).drop (cnt 1 (l.drop (tok l).2))) (a + (tok l).2 + cnt 1 (l.drop (tok l).2)) (n + 1) with
    | error e => rw [hr] at h; cases h
    | ok r =>
      rw [hr] at h
      have h2 := Except.ok.inj h
      subst h2
      have := scanAt_len r _ _ (n + 1) (by omega) hr
      simp
      omega
  termination_by t l => l.length
theorem scanL_len {l : List UInt8} {t : List (Nat × Nat × Nat)} (h : scanL l = .ok t) : t.length ≤ 2048 := by
  unfold scanL at h
  split at h
  · cases h
  · have := scanAt_len t _ _ 0 (by omega) h
    omega
end Go.Proofs.YtknoibocpbfmmaaGreatDoor


