/- flex.Scan of every text: the tokens that the plain function tells, or its error. -/
import Derived.Test.YtknoibocpbfmmaaGreatDoorFxP
import Derived.ScopeJumps
import Derived.OwnWalk
import Derived.Laws.AppendOwn
namespace Go.Proofs.YtknoibocpbfmmaaGreatDoor
open Go.RowKit
set_option linter.unusedVariables false
set_option linter.unusedSimpArgs false
theorem fx_own_block {w : World} {base n size : Nat} {e : TypeId} {v : Value} {xs : List Value} (h : w.ownsRow base e size v n xs) : ∀ k, v.ownBlock = some k → base ≤ k := by
  rintro k hk
  exact (h.lt k hk).1
theorem own_on {w w1 : World} {base n size : Nat} {e : TypeId} {v : Value} {xs : List Value} (hb : Below w.heap.size w w1) (h : w.ownsRow base e size v n xs) : w1.ownsRow base e size v n xs := by
  obtain ⟨h1, h2⟩ := h
  refine ⟨h1, h2.imp id ?_⟩
  rintro ⟨g, cap, cur, e1, e2, e3, e4⟩
  refine ⟨g, cap, cur, e1, e2, (hb.block g ?_).trans e3, e4⟩
  exact (Array.getElem?_eq_some_iff.mp e3).1
theorem own_shape {w : World} {base n size : Nat} {e : TypeId} {v : Value} {xs : List Value} (h : w.ownsRow base e size v n xs) : ∃ (o : Option Addr) (cap : Nat), v = .slice o n cap := by
  rcases h.2 with ⟨rfl, rfl⟩ | ⟨g, cap, cur, rfl, _⟩
  · exact ⟨none, 0, rfl⟩
  · exact ⟨_, _, rfl⟩
def fx_restOf (f : Func) : Code := match f.body with | some (.seq _ (.scope c)) => (findLabel c 0).getD .skip | some (.scope c) => (findLabel c 0).getD .skip | _ => .skip
def fx_bodyOf (f : Func) : Code := match fx_restOf f with | .seq _ c => c | c => c
theorem fx_jump_ret {l : Nat} {J : Act → World → Prop} {Q : Exit → Act → World → Prop} {a : Act} {w : World} (h : Q .ret a w) : Exit.jump l J Q .ret a w := h
theorem scRest_eq : fx_restOf Tryz.f16 = .seq .skip (fx_bodyOf Tryz.f16) := by kernel_rfl
def ScJ (w : World) (O : Except (Nat × Nat) (List (Nat × Nat × Nat))) (a' : Act) (w' : World) : Prop := ∃ (E A : Nat) (u0 u1 u2 u3 u4 u5 u8 u9 u10 u11 u12 u13 u14 u15 u16 u17 u18 u19 u20 u21 u22 u23 u24 u25 u26 u27 u28 u29 u30 u31 u32 u33 u34 u35 u36 u37 u38 u39 u40 u41 u42 u43 u44 u45 u46 u47 u48 u49 u50 u51 u52 u53 u54 : Value), a' = { tmps := #[u0, u1, u2, u3, u4, u5, .int .i64 A, .int .i64 E, u8, u9, u10, u11, u12, u13, u14, u15, u16, u17, u18, u19, u20, u21, u22, u23, u24, u25, u26, u27, u28, u29, u30, u31, u32, u33, u34, u35, u36, u37, u38, u39, u40, u41, u42, u43, u44, u45, u46, u47, u48, u49, u50, u51, u52, u53, u54], defers := [] } ∧ Below w.heap.size w w' ∧ O = .error (E, A)
set_option maxRecDepth 1000000 in
set_option maxHeartbeats 1600000 in
theorem sc_pass (w : World) (O : Except (Nat × Nat) (List (Nat × Nat × Nat))) (Q : Ending → World → Prop) (hQ : ∀ (E A : Nat) w', O = .error (E, A) → Below w.heap.size w w' → Q (.returned (.tuple #[.slice none 0 0, .int .i64 E, .int .i64 A])) w') (a : Act) (w' : World) (hJ : ScJ w O a w') :
    Code.wp Tryz.prog (fx_bodyOf Tryz.f16) (Exit.jump 0 (fun a' w'' => ScJ w O a' w'' ∧ (0 : Nat) < 0) (bodyPost Tryz.prog Tryz.f16 Q)) a w' := by
  conv => arg 2; whnf
  obtain ⟨E, A, u0, u1, u2, u3, u4, u5, u8, u9, u10, u11, u12, u13, u14, u15, u16, u17, u18, u19, u20, u21, u22, u23, u24, u25, u26, u27, u28, u29, u30, u31, u32, u33, u34, u35, u36, u37, u38, u39, u40, u41, u42, u43, u44, u45, u46, u47, u48, u49, u50, u51, u52, u53, u54, rfl, L, hO⟩ := hJ
  have HQ : Hid _ := hQ E A w' hO L
  clear hQ hO
  go_wp2_with fail
  refine fx_jump_ret (bodyPost_ret (v := .tuple #[.slice none 0 0, .int .i64 (E : Int), .int .i64 (A : Int)]) (by simp [results, Tryz.results16, go_sem]) rfl ?_)
  exact HQ.out
theorem info45 : (Tryz.prog.info? 45).map (fun i => (i.zero, i.size, i.bytes)) = some (some (.agg #[.int .i64 0, .string ⟨#[]⟩, .int .i64 0]), 3, 32) := by kernel_rfl
theorem lex_cell (w : World) (x y z : Value) (t : TypeId) : ∀ j u, [x, y, z][j]? = some u → (w.alloc (.cells #[x, y, z] t)).cell? (Addr.add ⟨w.heap.size, 0, none⟩ j) = some u := by
  intro j u h
  match j, h with
  | 0, h => simp at h; subst h; simp [go_sem, Addr.add]
  | 1, h => simp at h; subst h; simp [go_sem, Addr.add]
  | 2, h => simp at h; subst h; simp [go_sem, Addr.add]
  | j + 3, h => simp at h
theorem lex_one (k a : Int) (t : ByteArray) : ∀ u ∈ [Value.int .i64 k, .string t, .int .i64 a], u.oneCell' = true := by
  intro u hu; simp at hu; rcases hu with rfl | rfl | rfl <;> rfl
set_option maxRecDepth 1000000 in
set_option maxHeartbeats 3200000 in
theorem scan_Q (s : ByteArray) (w : World) (Q : Ending → World → Prop)
    (hok : ∀ (t : List (Nat × Nat × Nat)) (v : Value) w', scanL s.toList = .ok t → w'.ownsRow w.heap.size 45 3 v t.length (tcells s t) → Below w.heap.size w w' → Q (.returned (.tuple #[v, .int .i64 0, .int .i64 0])) w')
    (herr : ∀ (E A : Nat) w', scanL s.toList = .error (E, A) → Below w.heap.size w w' → Q (.returned (.tuple #[.slice none 0 0, .int .i64 E, .int .i64 A])) w') :
    Calls Tryz.prog 16 #[.string s] w Q := by
  generalize hO : scanL s.toList = O at *
  have HE : Hid _ := herr
  have HK : Hid _ := hok
  clear herr hok
  unfold scanL at hO
  rw [toL_len] at hO
  by_cases c0 : 8192 < s.size
  · have i0 : (8192 : Int) < (s.size : Int) := by omega
    rw [if_pos c0] at hO
    clear c0
    have HO : Hid _ := hO
    clear hO
    go_enter Tryz.func16, Tryz.ntmps16
    go_wp2_with fail
    refine wp_scope_jumps (rest := fx_restOf Tryz.f16) 0 (ScJ w O) (fun _ _ => 0) (by kernel_rfl) ?_ (fun a w' hJ => by rw [scRest_eq]; exact wp_seq (wp_skip (sc_pass w O _ (fun E A w' h L => HE.out E A w' h L) a w' hJ)))
    go_wp2_with fail
    go_step3
    exact ⟨rfl, 5, 0, _, _, _, _, _, _, _, _, _, _, _, _, _, _, _, _, _, _, _, _, _, _, _, _, _, _, _, _, _, _, _, _, _, _, _, _, _, _, _, _, _, _, _, _, _, _, _, _, _, _, _, _, _, rfl, Below.refl _ _, HO.out.symm⟩
  · rw [if_neg c0] at hO
    have i0 : ¬ (8192 : Int) < (s.size : Int) := by omega
    have h1 := countOf_l s 1 1 (by simp) (by omega)
    have z1 := cnt_size 1 s
    generalize cnt 1 s.toList = n1 at *
    have ln := toL_len s
    obtain ⟨i34, hi, hz0, hz1, hz2⟩ := info_parts info45
    go_enter Tryz.func16, Tryz.ntmps16
    go_wp2_with fail
    refine wp_scope_jumps (rest := fx_restOf Tryz.f16) 0 (ScJ w O) (fun _ _ => 0) (by kernel_rfl) ?_ (fun a w' hJ => by rw [scRest_eq]; exact wp_seq (wp_skip (sc_pass w O _ (fun E A w' h L => HE.out E A w' h L) a w' hJ)))
    go_wp2_with (go_at_call 30; refine (h1 _).mono ?_; rintro e w1 ⟨rfl, b1⟩)
    go_loopw [5, 6] (fun v p wr => ∃ (a : Nat) (t : List (Nat × Nat × Nat)), p = .int .i64 a ∧ a ≤ s.size ∧ t.length ≤ 2048 ∧ wr.ownsRow w.heap.size 45 3 v t.length (tcells s t) ∧ Below w.heap.size w wr ∧ Hid (andThen t (scanAt (s.toList.drop a) a t.length) = O)) (fun _ p _ => s.size - (intOf p).toNat)
    case atStart =>
      refine ⟨n1, [], rfl, z1, by simp, World.ownsRow_nil _ _ _ _, b1, ?_⟩
      rw [← hO]
      show andThen [] (scanAt _ _ 0) = _
      cases scanAt (s.toList.drop n1) n1 0 <;> simp [andThen]
    case round =>
      obtain ⟨a, t, rfl, ha, ht, hown, L, HO⟩ := hrel
      clear hO h1
      have la : (a : Int) ≤ (s.size : Int) := by omega
      by_cases c : a < s.size
      · have ca : (a : Int) < (s.size : Int) := by omega
        have zx : (s.extract a s.size).size ≤ 9223372036854775807 := by rw [← toL_len, toL_cut]; simp; rw [toL_len]; omega
        have hl := longest_any (s.extract a s.size) zx
        rw [toL_cut, List.take_of_length_le (by omega)] at hl
        have tle := tok_le (s.toList.drop a)
        rw [List.length_drop, ln] at tle
        have nz : (s.toList.drop a).length ≠ 0 := by rw [List.length_drop]; omega
        by_cases k0 : (tok (s.toList.drop a)).1 = 0
        · have eO := scanAt_bad (s.toList.drop a) a t.length nz k0
          have HO2 : Hid (O = .error (3, a)) := by rw [← HO.out, eO]; rfl
          rw [k0] at hl
          clear HO eO tle nz k0 zx c ht
          generalize (tok (s.toList.drop a)).2 = len at *
          go_wp2_with (go_at_call 31; refine (hl _).mono ?_; rintro e w2 ⟨rfl, b2⟩)
          go_step3
          exact ⟨rfl, 3, a, _, _, _, _, _, _, _, _, _, _, _, _, _, _, _, _, _, _, _, _, _, _, _, _, _, _, _, _, _, _, _, _, _, _, _, _, _, _, _, _, _, _, _, _, _, _, _, _, _, _, _, _, _, rfl, fx_below_call L b2, HO2.out⟩
        · by_cases full : t.length = 2048
          · have eO := scanAt_full (s.toList.drop a) a nz k0
            have HO2 : Hid (O = .error (5, a)) := by rw [← HO.out, full, eO]; rfl
            have K0 : (((tok (s.toList.drop a)).1 : Int) == 0) = false := by rw [beq_eq_false_iff_ne]; omega
            clear HO eO tle nz zx c ht
            generalize (tok (s.toList.drop a)).1 = k at *
            generalize (tok (s.toList.drop a)).2 = len at *
            rw [full] at hown
            obtain ⟨o, cap, rfl⟩ := own_shape hown
            clear k0 full hown
            go_wp2_with (go_at_call 31; refine (hl _).mono ?_; rintro e w2 ⟨rfl, b2⟩)
            go_step3
            exact ⟨rfl, 5, a, _, _, _, _, _, _, _, _, _, _, _, _, _, _, _, _, _, _, _, _, _, _, _, _, _, _, _, _, _, _, _, _, _, _, _, _, _, _, _, _, _, _, _, _, _, _, _, _, _, _, _, _, _, rfl, fx_below_call L b2, HO2.out⟩
          · have K0 : (((tok (s.toList.drop a)).1 : Int) == 0) = false := by rw [beq_eq_false_iff_ne]; omega
            have F0 : ((t.length : Int) == 2048) = false := by rw [beq_eq_false_iff_ne]; omega
            have eO := scanAt_step (s.toList.drop a) a t.length t nz k0 full
            rw [HO.out] at eO
            simp only [List.drop_drop] at eO
            have tl : Hid (t.length < 2048) := by show t.length < 2048; omega
            have tp := tok_pos k0
            have zy : (s.extract (a + (tok (s.toList.drop a)).2) s.size).size ≤ 9223372036854775807 := by rw [← toL_len, toL_cut]; simp; rw [toL_len]; omega
            have h5 := countOf_l (s.extract (a + (tok (s.toList.drop a)).2) s.size) 1 1 (by simp) zy
            rw [toL_cut, List.take_of_length_le (by omega)] at h5
            have z5 := cnt_le 1 (s.toList.drop (a + (tok (s.toList.drop a)).2))
            rw [List.length_drop, ln] at z5
            have HO2 : Hid _ := eO
            clear HO eO nz zx zy full
            generalize (tok (s.toList.drop a)).1 = k at *
            generalize (tok (s.toList.drop a)).2 = len at *
            generalize cnt 1 (s.toList.drop (a + len)) = q at *
            have i1 : (a : Int) + (len : Int) ≤ (s.size : Int) := by omega
            have i2 : (a : Int) ≤ (a : Int) + (len : Int) := by omega
            have i3 : (a : Int) + (len : Int) + (q : Int) ≤ (s.size : Int) := by omega
            have i4 : (a : Int) + (len : Int) + (q : Int) < 9223372036854775808 := by omega
            have i5 : (a : Int) + (len : Int) < 9223372036854775808 := by omega
            have l1 : t.length + 1 ≤ maxLen := by unfold maxLen; omega
            have l2 : (t.length + 1) * 32 ≤ 140737488355328 := by omega
            obtain ⟨o, cap, rfl⟩ := own_shape hown
            clear k0
            go_wp2_with (first
              | (go_at_call 31; refine (hl _).mono ?_; rintro e w2 ⟨rfl, b2⟩; have hown2 := own_on b2 hown; have l3 : w.heap.size ≤ w2.heap.size + 1 := by (have := (fx_below_call L b2).size; omega))
              | (at_builtin; refine wpList_append_own _ rfl _ _ 40 rfl w.heap.size 45 i34 (.agg #[.int .i64 0, .string ⟨#[]⟩, .int .i64 0]) 3 32 Tryz.underlying40 hi hz0 hz1 hz2 rfl (by decide) _ _ _ rfl (hown2.alloc _) ⟨w2.heap.size, 0, none⟩ 1 1 [.int .i64 (k : Int), .string (s.extract a (a + len)), .int .i64 (a : Int)] rfl rfl (lex_cell _ _ _ _ _) (lex_one _ _ _) l1 l2 (by rw [World.size_alloc]; exact l3) ?_; intro v' w3 hown' hgrow hnil; clear hnil)
              | (go_at_call 30; refine (h5 _).mono ?_; rintro e w4 ⟨rfl, b4⟩)
              | go_in)
            go_roundw
            case rel =>
              have L3 : Below w.heap.size w w3 := (fx_below_new (fx_below_call L b2) _).grown hgrow (by rw [World.size_alloc]; exact l3) (fx_own_block hown2)
              refine ⟨a + len + q, t ++ [(k, a, len)], by go_num, by omega, by have := tl.out; simp; omega, ?_, fx_below_call L3 b4, ?_⟩
              · rw [List.length_append, tcells_app]
                exact own_on b4 hown'
              · rw [List.length_append]
                exact HO2.out.symm
            case measure => simp [intOf]; omega
      · obtain rfl : a = s.size := by omega
        have eO := scanAt_end (s.toList.drop s.size) s.size t.length (by simp [ln])
        have HO2 : Hid (O = .ok t) := by rw [← HO.out, eO]; show Except.ok (t ++ []) = _; rw [List.append_nil]
        clear HO eO c
        go_wp2_with fail
        refine fx_jump_ret (bodyPost_ret (v := .tuple #[u5, .int .i64 0, .int .i64 0]) (by simp [results, Tryz.results16, go_sem]) rfl ?_)
        exact HK.out t u5 _ HO2.out hown L
end Go.Proofs.YtknoibocpbfmmaaGreatDoor
