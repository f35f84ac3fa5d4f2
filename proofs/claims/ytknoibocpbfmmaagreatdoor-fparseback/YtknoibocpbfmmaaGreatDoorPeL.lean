/- A text without its last token: the walk of FparseCuts. -/
import Derived.Test.YtknoibocpbfmmaaGreatDoorPeK
namespace Go.Proofs.YtknoibocpbfmmaaGreatDoor
open Go.RowKit
set_option linter.unusedVariables false
set_option linter.unusedSimpArgs false
theorem ext_ext (s : ByteArray) (A a b : Nat) (h : b ≤ A) : (s.extract 0 A).extract a b = s.extract a b := by
  apply ByteArray.ext
  apply Array.ext'
  have e : ∀ (x : ByteArray) (a b : Nat), (x.extract a b).data.toList = (x.data.toList.take b).drop a := fun x a b => by rw [← toL, ← toL, toL_cut]
  show ((s.extract 0 A).extract a b).data.toList = (s.extract a b).data.toList
  rw [e, e, e, List.drop_zero, List.take_take, Nat.min_eq_left h]
/-- A text that is cut where its last token stands is no program. -/
theorem prs_cut {s : ByteArray} {t : List (Nat × Nat × Nat)} {k A m : Nat} {p : Pg} (hs : scanL s.toList = .ok (t ++ [(k, A, m)])) (hp : prsL s = .ok p) : prsL (s.extract 0 A) = .error (4, A) := by
  have hk := scanL_kinds hs (k, A, m) (by simp)
  simp only at hk
  rw [toL_len] at hk
  have hA : A ≤ s.size := by omega
  have hc := scanL_cut hs
  have eL : (s.extract 0 A).toList = s.toList.take A := by rw [toL_cut, List.drop_zero]
  have hc2 : scanL (s.extract 0 A).toList = .ok t := by rw [eL]; exact hc
  have zA : (s.extract 0 A).size = A := by rw [← toL_len, eL, List.length_take, toL_len]; omega
  have kt := scanL_kinds hc2
  rw [toL_len, zA] at kt
  have et : tks (s.extract 0 A) t = t.map (fun x => (x.1, s.extract x.2.1 (x.2.1 + x.2.2), x.2.1)) ++ [eT A] := by
    unfold tks
    rw [zA]
    congr 1
    apply List.map_congr_left
    intro x hx
    rw [ext_ext _ _ _ _ (kt x hx).2]
  have es : tks s (t ++ [(k, A, m)]) = t.map (fun x => (x.1, s.extract x.2.1 (x.2.1 + x.2.2), x.2.1)) ++ [(k, s.extract A (A + m), A), eT s.size] := by
    unfold tks
    simp
  unfold prsL at hp
  rw [hs] at hp
  simp only at hp
  have hu : Kd (t.map (fun x => (x.1, s.extract x.2.1 (x.2.1 + x.2.2), x.2.1))) := fun x hx => by
    obtain ⟨y, hy, rfl⟩ := List.mem_map.1 hx
    exact (kt y hy).1
  unfold prsL
  rw [hc2]
  simp only
  cases hr : pgP 16500 (tks s (t ++ [(k, A, m)])) with
  | bad a => rw [hr] at hp; cases hp
  | more => rw [hr] at hp; cases hp
  | ok q us d =>
    rw [es] at hr
    have b := ct_pg (k, s.extract A (A + m), A) hk.1 s.size A 16500 _ hu q us d hr
    have nm := tks_nm (s := s.extract 0 A) (scanL_len hc2)
    rw [et] at nm ⊢
    rcases b with b | b
    · rw [b]; rfl
    · exact absurd b nm
set_option maxRecDepth 100000 in
set_option maxHeartbeats 1600000 in
theorem none5 (wo : Option Addr) (n wc : Nat) (xo : Option Addr) (m xc : Nat) (w : World) : Calls Tryz.prog 12 #[.agg #[.slice wo n wc, .slice xo m xc]] w fun e w' => e = .returned (.bool (decide (n = 0) && decide (m = 0))) ∧ Below w.heap.size w w' := by
  have gX := pb_new (Below.refl w.heap.size w) (.cells #[.slice wo n wc, .slice xo m xc] 25)
  by_cases h : n = 0
  · subst h
    by_cases h2 : m = 0
    · subst h2
      go_enter Tryz.func12, Tryz.ntmps12
      go_wp2_with fail
      go_ret
      exact ⟨rfl, gX⟩
    · have k : (((m : Nat) : Int) == 0) = false := by rw [beq_eq_false_iff_ne]; omega
      rw [decide_eq_false h2]
      go_enter Tryz.func12, Tryz.ntmps12
      go_wp2_with fail
      go_ret
      exact ⟨rfl, gX⟩
  · have k : (((n : Nat) : Int) == 0) = false := by rw [beq_eq_false_iff_ne]; omega
    rw [decide_eq_false h]
    go_enter Tryz.func12, Tryz.ntmps12
    go_wp2_with fail
    go_ret
    exact ⟨rfl, gX⟩
theorem prs_scan {s : ByteArray} {p : Pg} (h : prsL s = .ok p) : ∃ t, scanL s.toList = .ok t := by
  unfold prsL at h
  cases hs : scanL s.toList with
  | error e => rw [hs] at h; cases h
  | ok t => exact ⟨t, rfl⟩
theorem lx_und : Tryz.prog.underlying 40 = some (.slice (Tryz.prog.elem 40)) := by kernel_rfl
theorem lx_ix5 (c u n q j : Nat) (h : j < n) (w : World) : (Instr.indexAt 40 (.slice (some ⟨c, u, none⟩) n q) (.int .i64 j)).run Tryz.prog w = .ok (.pointer (some ⟨c, u + j * 3, none⟩)) w := by
  have e2 : ∀ w, (sizeOf (Tryz.prog.elem 40)).run Tryz.prog w = .ok 3 w := fun w => by kernel_rfl
  rw [run_indexAt_slice (h := lx_und), if_pos ⟨by omega, by omega⟩, e2]
  simp [go_sem]
theorem live5_at {w V : World} (h : OpsAt w ∧ EvAt w) (g : Below w.heap.size w V) : Calls Tryz.prog 9 #[] V fun e w' => e = .returned (.bool true) ∧ Below V.heap.size V w' := live5 V (h.1.bel g) (h.2.bel g)
set_option maxRecDepth 100000 in
set_option maxHeartbeats 3200000 in
theorem law_cuts (s : ByteArray) (w : World) (hO : OpsAt w) (hE : EvAt w) : Calls Tryz.prog 7 #[.string s] w fun e w' => e = .returned (.bool true) ∧ Below w.heap.size w w' := by
  have hh : Hid (OpsAt w ∧ EvAt w) := ⟨hO, hE⟩
  cases hp : prsL s with
  | error x =>
    have kP := pParse_no hp w hO hE
    have x0 := prs_err hp
    obtain ⟨E, A⟩ := x
    have x1 : (((E : Nat) : Int) != 0) = true := by
      have : E ≠ 0 := x0
      rw [bne_iff_ne]; omega
    have kS : ∀ V, Calls Tryz.prog 16 #[.string s] V fun e w' => (∃ (v : Value) (f a : Nat), e = .returned (.tuple #[v, .int .i64 f, .int .i64 a])) ∧ Below V.heap.size V w' := fun V => by
      cases hs : scanL s.toList with
      | ok t => exact (scan_ok s t hs V).mono fun e w' k => by obtain ⟨v, h1, _, h2⟩ := k; exact ⟨⟨v, 0, 0, h1⟩, h2⟩
      | error e => exact (scan_err s e.1 e.2 hs V).mono fun e' w' k => ⟨⟨_, _, _, k.1⟩, k.2⟩
    clear hp x0 hO hE
    go_enter Tryz.func7, Tryz.ntmps7
    go_upto_region 3 with (first
      | (go_at_call 10; (refine kP.mono ?_); rintro e v1 ⟨rfl, g1⟩)
      | (go_at_call 16; (refine (kS _).mono ?_); rintro e v2 ⟨⟨v, f, a, rfl⟩, g2⟩)
      | fail)
    have gg := pb_call (pb_call g1 (pb_new (Below.refl _ _) _)) g2
    clear kP kS
    go_wp2_with (first
      | (go_at_call 9; (refine (live5_at hh.out gg).mono ?_); rintro e v3 ⟨rfl, g3⟩)
      | fail)
    go_ret
    exact ⟨rfl, pb_call gg g3⟩
  | ok p =>
    have kP := pParse_ok hp w hO hE
    obtain ⟨t, hs⟩ := prs_scan hp
    obtain ⟨n, hn⟩ : ∃ n, t.length = n := ⟨_, rfl⟩
    have kS : ∀ V, Calls Tryz.prog 16 #[.string s] V fun e w' => ∃ v, e = .returned (.tuple #[v, .int .i64 0, .int .i64 0]) ∧ w'.ownsRow V.heap.size 45 3 v n (tcells s t) ∧ Below V.heap.size V w' := fun V => by rw [← hn]; exact scan_ok s t hs V
    clear hO hE
    have hp' : Hid (prsL s = .ok p) := hp
    have hs' : Hid (scanL s.toList = .ok t) := hs
    have hn' : Hid (t.length = n) := hn
    have kN := none5
    obtain ⟨nd, hnd⟩ : ∃ n, p.1.length = n := ⟨_, rfl⟩
    obtain ⟨nb, hnb⟩ : ∃ n, p.2.len = n := ⟨_, rfl⟩
    rw [hnd, hnb] at kP
    clear hp hs hn hnd hnb
    go_enter Tryz.func7, Tryz.ntmps7
    go_upto_region 2 with (first
      | (go_at_call 10; (refine kP.mono ?_); rintro e v1 ⟨wo, wc, xo, xc, rfl, g1, hD, hT⟩)
      | fail)
    have gX := pb_new (Below.refl v1.heap.size v1) (.cells #[.slice wo nd wc, .slice xo nb xc] 25)
    have qX := World.alloc_heap_new v1 (.cells #[.slice wo nd wc, .slice xo nb xc] 25)
    have gg := pb_call g1 gX
    obtain ⟨X, hX⟩ : ∃ X, v1.alloc (.cells #[.slice wo nd wc, .slice xo nb xc] 25) = X := ⟨_, rfl⟩
    obtain ⟨b, hb⟩ : ∃ b, v1.heap.size = b := ⟨_, rfl⟩
    rw [hX] at gX qX gg ⊢
    rw [hb] at qX
    (try rw [hb])
    have c0 : X.cell? ⟨b, 0, none⟩ = some (.slice wo nd wc) := by simp [World.cell?, qX]
    have c1 : X.cell? ⟨b, 1, none⟩ = some (.slice xo nb xc) := by simp [World.cell?, qX]
    clear hX hb g1 gX hD hT kP qX
    go_upto_region 3 with (first
      | (go_at_call 16; (refine (kS _).mono ?_); rintro e v2 ⟨v, rfl, own, g2⟩)
      | fail)
    replace gg := pb_call gg g2
    replace c0 := pb_cell g2 c0
    replace c1 := pb_cell g2 c1
    clear kS g2
    by_cases n0 : n = 0
    · subst n0
      obtain ⟨vo, vc, rfl⟩ := po_shape own
      clear own kN
      go_wp2_with (first
        | (go_at_call 9; (refine (live5_at hh.out gg).mono ?_); rintro e v3 ⟨rfl, g3⟩)
        | fail)
      go_ret
      exact ⟨rfl, pb_call gg g3⟩
    · obtain ⟨g, cap, rfl, gl, gc, gb, cells⟩ := own_cells own n0
      have k0 : (((n : Nat) : Int) == 0) = false := by rw [beq_eq_false_iff_ne]; omega
      by_cases hb : (decide (nd = 0) && decide (nb = 0)) = true
      · clear cells own
        go_wp2_with (first
          | (go_at_call 12; (refine (kN _ _ _ _ _ _ _).mono ?_); rintro e v3 ⟨rfl, g3⟩; replace gg := pb_call gg g3)
          | (go_at_call 9; (refine (live5_at hh.out gg).mono ?_); rintro e v4 ⟨rfl, g4⟩)
          | fail)
        go_ret
        exact ⟨rfl, pb_call gg g4⟩
      · have hb' : (decide (nd = 0) && decide (nb = 0)) = false := by simpa using hb
        obtain ⟨t', x, ht⟩ : ∃ t' x, t = t' ++ [x] := by
          have hne : t ≠ [] := fun e => n0 (by rw [← hn'.out, e]; rfl)
          exact ⟨t.dropLast, t.getLast hne, (List.dropLast_concat_getLast hne).symm⟩
        obtain ⟨kk, A, m⟩ := x
        have hs2 := hs'.out
        rw [ht] at hs2
        have pc := prs_cut hs2 hp'.out
        have nl : n = t'.length + 1 := by rw [← hn'.out, ht]; simp
        have hk := scanL_kinds hs2 (kk, A, m) (by simp)
        simp only at hk
        rw [toL_len] at hk
        have cA := cells (t'.length * 3 + 2) (.int .i64 A) (by
          rw [ht, tcells_app, List.getElem?_append_right (by rw [tcells_len]; omega), tcells_len]
          rw [show t'.length * 3 + 2 - t'.length * 3 = 2 by omega]
          rfl)
        obtain ⟨j, hj⟩ : ∃ j, t'.length = j := ⟨_, rfl⟩
        rw [hj] at cA nl
        have ix := lx_ix5 g 0 n cap j (by omega)
        rw [Nat.zero_add] at ix
        have nsz : n ≤ 2048 := by rw [← hn'.out]; exact scanL_len hs'.out
        have wn : IntKind.i64.wrap ((n : Int) - 1) = ((j : Nat) : Int) := by rw [IntKind.wrap_i64]; omega
        have i1 : (A : Int) ≤ (s.size : Int) := by omega
        have kP2 := fun V h1 h2 => pParse_no pc V h1 h2
        clear cells own hs2 hj ht hk
        go_upto_region 5 with (first
          | (go_at_call 12; (refine (kN _ _ _ _ _ _ _).mono ?_); rintro e v3 ⟨rfl, g3⟩; replace gg := pb_call gg g3; replace cA := pb_cell g3 cA)
          | fail)
        clear c0 c1 kN
        go_upto_region 6 with (first
          | (go_at_call 10; (refine (kP2 _ (hh.out.1.bel gg) (hh.out.2.bel gg)).mono ?_); rintro e v4 ⟨rfl, g4⟩; replace gg := pb_call gg g4; replace cA := pb_cell g4 cA)
          | fail)
        have gY := pb_new (Below.refl v4.heap.size v4) (.cells #[.slice none 0 0, .slice none 0 0] 25)
        replace gg := pb_call gg gY
        replace cA := pb_cell gY cA
        clear gY kP2
        generalize v4.alloc (.cells #[.slice none 0 0, .slice none 0 0] 25) = Y at *
        go_wp2_with (first
          | (go_at_call 9; (refine (live5_at hh.out gg).mono ?_); rintro e v5 ⟨rfl, g5⟩; replace cA := pb_cell g5 cA)
          | fail)
        go_ret
        exact ⟨rfl, pb_call gg g5⟩
end Go.Proofs.YtknoibocpbfmmaaGreatDoor

