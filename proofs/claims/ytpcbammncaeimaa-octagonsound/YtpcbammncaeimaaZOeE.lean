/- step and refStep: a deed on one. -/
import Derived.Test.YtpcbammncaeimaaZG13
namespace Go.Proofs.Ytpcbammncaeimaa
open Go.RowKit
set_option linter.unusedVariables false
set_option linter.unusedSimpArgs false
def OStp (w w' : World) (r : Ending) (b1 n : Nat) (d : Dd) (e1 : Bool) (A : Mx) (e2 : Bool) (B : Mx) : Prop := ∃ b' er e' T', r = .returned (.tuple #[.pointer (some ⟨b', 0, none⟩), .int .i64 er]) ∧ OctAt w' b' n e' T' ∧ StpR n d e1 A e2 B er e' T' ∧ (b' = b1 ∨ w.heap.size ≤ b')
def RStp (w w' : World) (r : Ending) (R1 : Rf) (n : Nat) (d : Dd) (e1 : Bool) (A : Mx) (e2 : Bool) (B : Mx) : Prop := ∃ R' er e' T', r = .returned (.tuple #[.pointer (some ⟨R'.b, 0, none⟩), .int .i64 er]) ∧ RefAt w' R' n e' T' ∧ StpR n d e1 A e2 B er e' T' ∧ (R' = R1 ∨ w.heap.size ≤ R'.lo) ∧ R'.hi ≤ w'.heap.size
set_option maxRecDepth 100000 in
set_option maxHeartbeats 3200000 in
theorem ostep (b1 b2 n : Nat) (hn : n ≤ 8) (d : Dd) (l1 : -9223372036854775808 ≤ d.lo ∧ d.lo ≤ 9223372036854775807) (l2 : -9223372036854775808 ≤ d.hh ∧ d.hh ≤ 9223372036854775807) (e1 e2 : Bool) (A B : Mx) (t1 : e1 = false → Tt n A) (t2 : e2 = false → Tt n B) (w : World) (h1 : OctAt w b1 n e1 A) (h2 : OctAt w b2 n e2 B) :
    Calls Try.prog 20 #[.pointer (some ⟨b1, 0, none⟩), .pointer (some ⟨b2, 0, none⟩), d.v] w fun r w' => OStp w w' r b1 n d e1 A e2 B ∧ Onl b1 w w' := by
  obtain ⟨kd, i, k, ni, nk, c, ea, lo, hh⟩ := d
  simp only [Dd.v] at *
  obtain ⟨W, hW⟩ : ∃ W, w.alloc (.cells #[.int .i64 kd, .int .i64 i, .int .i64 k, .bool ni, .bool nk, .int .i64 c, .bool ea, .int .i64 lo, .int .i64 hh] 41) = W := ⟨_, rfl⟩
  have gW : Below w.heap.size w W := by rw [← hW]; exact (Below.refl _ _).alloc (Nat.le_refl _) _
  have c0 : W.cell? ⟨w.heap.size, 0, none⟩ = some (.int .i64 kd) := by rw [← hW]; simp [go_sem]
  have c1 : W.cell? ⟨w.heap.size, 1, none⟩ = some (.int .i64 i) := by rw [← hW]; simp [go_sem]
  have c2 : W.cell? ⟨w.heap.size, 2, none⟩ = some (.int .i64 k) := by rw [← hW]; simp [go_sem]
  have c3 : W.cell? ⟨w.heap.size, 3, none⟩ = some (.bool ni) := by rw [← hW]; simp [go_sem]
  have c4 : W.cell? ⟨w.heap.size, 4, none⟩ = some (.bool nk) := by rw [← hW]; simp [go_sem]
  have c5 : W.cell? ⟨w.heap.size, 5, none⟩ = some (.int .i64 c) := by rw [← hW]; simp [go_sem]
  have c6 : W.cell? ⟨w.heap.size, 6, none⟩ = some (.bool ea) := by rw [← hW]; simp [go_sem]
  have c7 : W.cell? ⟨w.heap.size, 7, none⟩ = some (.int .i64 lo) := by rw [← hW]; simp [go_sem]
  have c8 : W.cell? ⟨w.heap.size, 8, none⟩ = some (.int .i64 hh) := by rw [← hW]; simp [go_sem]
  replace h1 := h1.on gW
  replace h2 := h2.on gW
  have cc : Onl b1 w W := Onl.of gW
  by_cases k0 : kd = 0
  · have kk := fun V hV => olimitZ b1 n hn e1 A i k ni nk c t1 V hV
    have hS : ∀ er e' T', Act5 n (LimBad n i k c) (LimGo n i ni k nk c) e1 A er e' T' → Hid (StpR n ⟨kd, i, k, ni, nk, c, ea, lo, hh⟩ e1 A e2 B er e' T') := fun er e' T' q => by show StpR n ⟨kd, i, k, ni, nk, c, ea, lo, hh⟩ e1 A e2 B er e' T'; unfold StpR; simp only [if_pos k0]; exact q
    clear t1 t2 hn l1 l2
    subst k0
    go_enter Try.func20, Try.ntmps20
    go_upto_region 1 with fail
    (try rw [hW])
    clear hW gW
    go_wp2_with (first
      | (go_at_call 30; refine (kk _ h1).mono ?_; rintro r w5 ⟨⟨er, e5, T5, rfl, hO, r5⟩, c5⟩; replace cc := cc.trans c5)
      | fail)
    refine bodyPost_ret (v := .tuple #[.pointer (some ⟨b1, 0, none⟩), .int .i64 er]) (by simp [results, Try.results20, go_sem]) rfl ?_
    exact ⟨⟨b1, er, e5, T5, rfl, hO, (hS er e5 T5 r5).out, Or.inl rfl⟩, cc⟩
  · skip
    by_cases k1 : kd = 1
    · have kk := fun V hV => osetZ b1 n hn e1 A i ea lo hh l1 l2 t1 V hV
      have hS : ∀ er e' T', Act5 n (SetBad n i ea lo hh) (SetGo n i ea lo hh) e1 A er e' T' → Hid (StpR n ⟨kd, i, k, ni, nk, c, ea, lo, hh⟩ e1 A e2 B er e' T') := fun er e' T' q => by show StpR n ⟨kd, i, k, ni, nk, c, ea, lo, hh⟩ e1 A e2 B er e' T'; unfold StpR; simp only [if_neg k0, if_pos k1]; exact q
      clear t1 t2 hn l1 l2
      subst k1
      go_enter Try.func20, Try.ntmps20
      go_upto_region 1 with fail
      (try rw [hW])
      clear hW gW
      go_wp2_with (first
        | (go_at_call 26; refine (kk _ h1).mono ?_; rintro r w5 ⟨⟨er, e5, T5, rfl, hO, r5⟩, c5⟩; replace cc := cc.trans c5)
        | fail)
      refine bodyPost_ret (v := .tuple #[.pointer (some ⟨b1, 0, none⟩), .int .i64 er]) (by simp [results, Try.results20, go_sem]) rfl ?_
      exact ⟨⟨b1, er, e5, T5, rfl, hO, (hS er e5 T5 r5).out, Or.inl rfl⟩, cc⟩
    · skip
      by_cases k2 : kd = 2
      · have kk := fun V hV => oforgetZ b1 n hn e1 A i t1 V hV
        have hS : ∀ er e' T', Act5 n (FgtBad n i) (FgtGo n i) e1 A er e' T' → Hid (StpR n ⟨kd, i, k, ni, nk, c, ea, lo, hh⟩ e1 A e2 B er e' T') := fun er e' T' q => by show StpR n ⟨kd, i, k, ni, nk, c, ea, lo, hh⟩ e1 A e2 B er e' T'; unfold StpR; simp only [if_neg k0, if_neg k1, if_pos k2]; exact q
        clear t1 t2 hn l1 l2
        subst k2
        go_enter Try.func20, Try.ntmps20
        go_upto_region 1 with fail
        (try rw [hW])
        clear hW gW
        go_wp2_with (first
          | (go_at_call 48; refine (kk _ h1).mono ?_; rintro r w5 ⟨⟨er, e5, T5, rfl, hO, r5⟩, c5⟩; replace cc := cc.trans c5)
          | fail)
        refine bodyPost_ret (v := .tuple #[.pointer (some ⟨b1, 0, none⟩), .int .i64 er]) (by simp [results, Try.results20, go_sem]) rfl ?_
        exact ⟨⟨b1, er, e5, T5, rfl, hO, (hS er e5 T5 r5).out, Or.inl rfl⟩, cc⟩
      · skip
        by_cases k3 : kd = 3
        · have kk := fun V hV => ocopyZ b1 n hn e1 A i k ni c t1 V hV
          have hS : ∀ er e' T', Act5 n (CpyBad n i k c) (CpyGo n i k ni c) e1 A er e' T' → Hid (StpR n ⟨kd, i, k, ni, nk, c, ea, lo, hh⟩ e1 A e2 B er e' T') := fun er e' T' q => by show StpR n ⟨kd, i, k, ni, nk, c, ea, lo, hh⟩ e1 A e2 B er e' T'; unfold StpR; simp only [if_neg k0, if_neg k1, if_neg k2, if_pos k3]; exact q
          clear t1 t2 hn l1 l2
          subst k3
          go_enter Try.func20, Try.ntmps20
          go_upto_region 1 with fail
          (try rw [hW])
          clear hW gW
          go_wp2_with (first
            | (go_at_call 49; refine (kk _ h1).mono ?_; rintro r w5 ⟨⟨er, e5, T5, rfl, hO, r5⟩, c5⟩; replace cc := cc.trans c5)
            | fail)
          refine bodyPost_ret (v := .tuple #[.pointer (some ⟨b1, 0, none⟩), .int .i64 er]) (by simp [results, Try.results20, go_sem]) rfl ?_
          exact ⟨⟨b1, er, e5, T5, rfl, hO, (hS er e5 T5 r5).out, Or.inl rfl⟩, cc⟩
        · skip
          by_cases k4 : kd = 4
          · have kk := fun V hV => oshiftZ b1 n hn e1 A i ni c t1 V hV
            have hS : ∀ er e' T', Act5 n (ShfBad n i c) (ShfGo n i ni c) e1 A er e' T' → Hid (StpR n ⟨kd, i, k, ni, nk, c, ea, lo, hh⟩ e1 A e2 B er e' T') := fun er e' T' q => by show StpR n ⟨kd, i, k, ni, nk, c, ea, lo, hh⟩ e1 A e2 B er e' T'; unfold StpR; simp only [if_neg k0, if_neg k1, if_neg k2, if_neg k3, if_pos k4]; exact q
            clear t1 t2 hn l1 l2
            subst k4
            go_enter Try.func20, Try.ntmps20
            go_upto_region 1 with fail
            (try rw [hW])
            clear hW gW
            go_wp2_with (first
              | (go_at_call 50; refine (kk _ h1).mono ?_; rintro r w5 ⟨⟨er, e5, T5, rfl, hO, r5⟩, c5⟩; replace cc := cc.trans c5)
              | fail)
            refine bodyPost_ret (v := .tuple #[.pointer (some ⟨b1, 0, none⟩), .int .i64 er]) (by simp [results, Try.results20, go_sem]) rfl ?_
            exact ⟨⟨b1, er, e5, T5, rfl, hO, (hS er e5 T5 r5).out, Or.inl rfl⟩, cc⟩
          · skip
            by_cases k5 : kd = 5
            · have zw := gW.size
              have kk := fun V hV hV2 => ojoin b1 b2 n hn e1 e2 A B t1 t2 V hV hV2
              have hS : ∀ e' T', JoinR n e1 A e2 B e' T' → Hid (StpR n ⟨kd, i, k, ni, nk, c, ea, lo, hh⟩ e1 A e2 B 0 e' T') := fun e' T' q => by show StpR n ⟨kd, i, k, ni, nk, c, ea, lo, hh⟩ e1 A e2 B 0 e' T'; unfold StpR; simp only [if_neg k0, if_neg k1, if_neg k2, if_neg k3, if_neg k4, if_pos k5]; exact ⟨trivial, q⟩
              clear t1 t2 hn l1 l2
              subst k5
              go_enter Try.func20, Try.ntmps20
              go_upto_region 1 with fail
              (try rw [hW])
              clear hW gW
              go_wp2_with (first
                | (go_at_call 27; refine (kk _ h1 h2).mono ?_; rintro r w5 ⟨⟨b5, e5, T5, rfl, hb, hO, r5⟩, g5⟩; replace cc := cc.on g5)
                | fail)
              refine bodyPost_ret (v := .tuple #[.pointer (some ⟨b5, 0, none⟩), .int .i64 0]) (by simp [results, Try.results20, go_sem]) rfl ?_
              exact ⟨⟨b5, 0, e5, T5, rfl, hO, (hS e5 T5 r5).out, Or.inr (Nat.le_trans zw hb)⟩, cc⟩
            · skip
              by_cases k6 : kd = 6
              · have zw := gW.size
                have kk := fun V hV hV2 => omeet b1 b2 n hn e1 e2 A B t1 t2 V hV hV2
                have hS : ∀ e' T', MeetR n e1 A e2 B e' T' → Hid (StpR n ⟨kd, i, k, ni, nk, c, ea, lo, hh⟩ e1 A e2 B 0 e' T') := fun e' T' q => by show StpR n ⟨kd, i, k, ni, nk, c, ea, lo, hh⟩ e1 A e2 B 0 e' T'; unfold StpR; simp only [if_neg k0, if_neg k1, if_neg k2, if_neg k3, if_neg k4, if_neg k5, if_pos k6]; exact ⟨trivial, q⟩
                clear t1 t2 hn l1 l2
                subst k6
                go_enter Try.func20, Try.ntmps20
                go_upto_region 1 with fail
                (try rw [hW])
                clear hW gW
                go_wp2_with (first
                  | (go_at_call 28; refine (kk _ h1 h2).mono ?_; rintro r w5 ⟨⟨b5, e5, T5, rfl, hb, hO, r5⟩, g5⟩; replace cc := cc.on g5)
                  | fail)
                refine bodyPost_ret (v := .tuple #[.pointer (some ⟨b5, 0, none⟩), .int .i64 0]) (by simp [results, Try.results20, go_sem]) rfl ?_
                exact ⟨⟨b5, 0, e5, T5, rfl, hO, (hS e5 T5 r5).out, Or.inr (Nat.le_trans zw hb)⟩, cc⟩
              · skip
                have zw := gW.size
                have kk := fun V hV hV2 => owiden b1 b2 n hn e1 e2 A B t1 t2 V hV hV2
                have hS : ∀ e' T', WidenR n e1 A e2 B e' T' → Hid (StpR n ⟨kd, i, k, ni, nk, c, ea, lo, hh⟩ e1 A e2 B 0 e' T') := fun e' T' q => by show StpR n ⟨kd, i, k, ni, nk, c, ea, lo, hh⟩ e1 A e2 B 0 e' T'; unfold StpR; simp only [if_neg k0, if_neg k1, if_neg k2, if_neg k3, if_neg k4, if_neg k5, if_neg k6]; exact ⟨trivial, q⟩
                clear t1 t2 hn l1 l2
                go_enter Try.func20, Try.ntmps20
                go_upto_region 1 with fail
                (try rw [hW])
                clear hW gW
                go_wp2_with (first
                  | (go_at_call 29; refine (kk _ h1 h2).mono ?_; rintro r w5 ⟨⟨b5, e5, T5, rfl, hb, hO, r5⟩, g5⟩; replace cc := cc.on g5)
                  | fail)
                refine bodyPost_ret (v := .tuple #[.pointer (some ⟨b5, 0, none⟩), .int .i64 0]) (by simp [results, Try.results20, go_sem]) rfl ?_
                exact ⟨⟨b5, 0, e5, T5, rfl, hO, (hS e5 T5 r5).out, Or.inr (Nat.le_trans zw hb)⟩, cc⟩
set_option maxRecDepth 100000 in
set_option maxHeartbeats 3200000 in
theorem rstep (R1 R2 : Rf) (n : Nat) (hn1 : 1 ≤ n) (hn : n ≤ 4) (d : Dd) (e1 e2 : Bool) (A B : Mx) (t1 : e1 = false → Tt n A) (t2 : e2 = false → Tt n B) (w : World) (hR1 : R1.hi ≤ w.heap.size) (hR2 : R2.hi ≤ w.heap.size) (h1 : RefAt w R1 n e1 A) (h2 : RefAt w R2 n e2 B) :
    Calls Try.prog 34 #[.pointer (some ⟨R1.b, 0, none⟩), .pointer (some ⟨R2.b, 0, none⟩), d.v] w fun r w' => RStp w w' r R1 n d e1 A e2 B ∧ Rgn R1.lo R1.hi w w' := by
  obtain ⟨kd, i, k, ni, nk, c, ea, lo, hh⟩ := d
  simp only [Dd.v] at *
  obtain ⟨W, hW⟩ : ∃ W, w.alloc (.cells #[.int .i64 kd, .int .i64 i, .int .i64 k, .bool ni, .bool nk, .int .i64 c, .bool ea, .int .i64 lo, .int .i64 hh] 41) = W := ⟨_, rfl⟩
  have gW : Below w.heap.size w W := by rw [← hW]; exact (Below.refl _ _).alloc (Nat.le_refl _) _
  have c0 : W.cell? ⟨w.heap.size, 0, none⟩ = some (.int .i64 kd) := by rw [← hW]; simp [go_sem]
  have c1 : W.cell? ⟨w.heap.size, 1, none⟩ = some (.int .i64 i) := by rw [← hW]; simp [go_sem]
  have c2 : W.cell? ⟨w.heap.size, 2, none⟩ = some (.int .i64 k) := by rw [← hW]; simp [go_sem]
  have c3 : W.cell? ⟨w.heap.size, 3, none⟩ = some (.bool ni) := by rw [← hW]; simp [go_sem]
  have c4 : W.cell? ⟨w.heap.size, 4, none⟩ = some (.bool nk) := by rw [← hW]; simp [go_sem]
  have c5 : W.cell? ⟨w.heap.size, 5, none⟩ = some (.int .i64 c) := by rw [← hW]; simp [go_sem]
  have c6 : W.cell? ⟨w.heap.size, 6, none⟩ = some (.bool ea) := by rw [← hW]; simp [go_sem]
  have c7 : W.cell? ⟨w.heap.size, 7, none⟩ = some (.int .i64 lo) := by rw [← hW]; simp [go_sem]
  have c8 : W.cell? ⟨w.heap.size, 8, none⟩ = some (.int .i64 hh) := by rw [← hW]; simp [go_sem]
  replace h1 := h1.on gW
  replace h2 := h2.on gW
  have cc : Rgn R1.lo R1.hi w W := Rgn.of gW
  have z1 := Nat.le_trans hR1 gW.size
  have z2 := Nat.le_trans hR2 gW.size
  have zw := gW.size
  by_cases k0 : kd = 0
  · have kk := fun V hV => rlimit R1 n hn e1 A i k ni nk c t1 V hV
    have hS : ∀ er e' T', Act5 n (LimBad n i k c) (LimGo n i ni k nk c) e1 A er e' T' → Hid (StpR n ⟨kd, i, k, ni, nk, c, ea, lo, hh⟩ e1 A e2 B er e' T') := fun er e' T' q => by show StpR n ⟨kd, i, k, ni, nk, c, ea, lo, hh⟩ e1 A e2 B er e' T'; unfold StpR; simp only [if_pos k0]; exact q
    clear t1 t2 hn hn1
    subst k0
    go_enter Try.func34, Try.ntmps34
    go_upto_region 1 with fail
    (try rw [hW])
    clear hW gW
    go_wp2_with (first
      | (go_at_call 66; refine (kk _ h1).mono ?_; rintro r w5 ⟨⟨er, rfl, e5, T5, hO, r5⟩, c5⟩; replace cc := cc.trans c5; have z5 := c5.size)
      | fail)
    refine bodyPost_ret (v := .tuple #[.pointer (some ⟨R1.b, 0, none⟩), .int .i64 er]) (by simp [results, Try.results34, go_sem]) rfl ?_
    exact ⟨⟨R1, er, e5, T5, rfl, hO, (hS er e5 T5 r5).out, Or.inl rfl, Nat.le_trans z1 z5⟩, cc⟩
  · skip
    by_cases k1 : kd = 1
    · have kk := fun V hz hV => rset R1 n hn e1 A i ea lo hh t1 V hz hV
      have hS : ∀ er e' T', Act5 n (SetBad n i ea lo hh) (SetGo n i ea lo hh) e1 A er e' T' → Hid (StpR n ⟨kd, i, k, ni, nk, c, ea, lo, hh⟩ e1 A e2 B er e' T') := fun er e' T' q => by show StpR n ⟨kd, i, k, ni, nk, c, ea, lo, hh⟩ e1 A e2 B er e' T'; unfold StpR; simp only [if_neg k0, if_pos k1]; exact q
      clear t1 t2 hn hn1
      subst k1
      go_enter Try.func34, Try.ntmps34
      go_upto_region 1 with fail
      (try rw [hW])
      clear hW gW
      go_wp2_with (first
        | (go_at_call 67; refine (kk _ z1 h1).mono ?_; rintro r w5 ⟨⟨er, rfl, e5, T5, hO, r5⟩, c5⟩; replace cc := cc.trans c5; have z5 := c5.size)
        | fail)
      refine bodyPost_ret (v := .tuple #[.pointer (some ⟨R1.b, 0, none⟩), .int .i64 er]) (by simp [results, Try.results34, go_sem]) rfl ?_
      exact ⟨⟨R1, er, e5, T5, rfl, hO, (hS er e5 T5 r5).out, Or.inl rfl, Nat.le_trans z1 z5⟩, cc⟩
    · skip
      by_cases k2 : kd = 2
      · have kk := fun V hV => rForget R1 n hn e1 A i t1 V hV
        have hS : ∀ er e' T', Act5 n (FgtBad n i) (FgtGo n i) e1 A er e' T' → Hid (StpR n ⟨kd, i, k, ni, nk, c, ea, lo, hh⟩ e1 A e2 B er e' T') := fun er e' T' q => by show StpR n ⟨kd, i, k, ni, nk, c, ea, lo, hh⟩ e1 A e2 B er e' T'; unfold StpR; simp only [if_neg k0, if_neg k1, if_pos k2]; exact q
        clear t1 t2 hn hn1
        subst k2
        go_enter Try.func34, Try.ntmps34
        go_upto_region 1 with fail
        (try rw [hW])
        clear hW gW
        go_wp2_with (first
          | (go_at_call 68; refine (kk _ h1).mono ?_; rintro r w5 ⟨⟨er, rfl, e5, T5, hO, r5⟩, c5⟩; replace cc := cc.trans c5; have z5 := c5.size)
          | fail)
        refine bodyPost_ret (v := .tuple #[.pointer (some ⟨R1.b, 0, none⟩), .int .i64 er]) (by simp [results, Try.results34, go_sem]) rfl ?_
        exact ⟨⟨R1, er, e5, T5, rfl, hO, (hS er e5 T5 r5).out, Or.inl rfl, Nat.le_trans z1 z5⟩, cc⟩
      · skip
        by_cases k3 : kd = 3
        · have kk := fun V hV => rcopy R1 n hn e1 A i k ni c t1 V hV
          have hS : ∀ er e' T', Act5 n (CpyBad n i k c) (CpyGo n i k ni c) e1 A er e' T' → Hid (StpR n ⟨kd, i, k, ni, nk, c, ea, lo, hh⟩ e1 A e2 B er e' T') := fun er e' T' q => by show StpR n ⟨kd, i, k, ni, nk, c, ea, lo, hh⟩ e1 A e2 B er e' T'; unfold StpR; simp only [if_neg k0, if_neg k1, if_neg k2, if_pos k3]; exact q
          clear t1 t2 hn hn1
          subst k3
          go_enter Try.func34, Try.ntmps34
          go_upto_region 1 with fail
          (try rw [hW])
          clear hW gW
          go_wp2_with (first
            | (go_at_call 69; refine (kk _ h1).mono ?_; rintro r w5 ⟨⟨er, rfl, e5, T5, hO, r5⟩, c5⟩; replace cc := cc.trans c5; have z5 := c5.size)
            | fail)
          refine bodyPost_ret (v := .tuple #[.pointer (some ⟨R1.b, 0, none⟩), .int .i64 er]) (by simp [results, Try.results34, go_sem]) rfl ?_
          exact ⟨⟨R1, er, e5, T5, rfl, hO, (hS er e5 T5 r5).out, Or.inl rfl, Nat.le_trans z1 z5⟩, cc⟩
        · skip
          by_cases k4 : kd = 4
          · have kk := fun V hz hV => rshift R1 n hn1 hn e1 A i ni c t1 V hz hV
            have hS : ∀ er e' T', Act5 n (ShfBad n i c) (ShfGo n i ni c) e1 A er e' T' → Hid (StpR n ⟨kd, i, k, ni, nk, c, ea, lo, hh⟩ e1 A e2 B er e' T') := fun er e' T' q => by show StpR n ⟨kd, i, k, ni, nk, c, ea, lo, hh⟩ e1 A e2 B er e' T'; unfold StpR; simp only [if_neg k0, if_neg k1, if_neg k2, if_neg k3, if_pos k4]; exact q
            clear t1 t2 hn hn1
            subst k4
            go_enter Try.func34, Try.ntmps34
            go_upto_region 1 with fail
            (try rw [hW])
            clear hW gW
            go_wp2_with (first
              | (go_at_call 70; refine (kk _ z1 h1).mono ?_; rintro r w5 ⟨⟨er, rfl, e5, T5, hO, r5⟩, c5⟩; replace cc := cc.trans c5; have z5 := c5.size)
              | fail)
            refine bodyPost_ret (v := .tuple #[.pointer (some ⟨R1.b, 0, none⟩), .int .i64 er]) (by simp [results, Try.results34, go_sem]) rfl ?_
            exact ⟨⟨R1, er, e5, T5, rfl, hO, (hS er e5 T5 r5).out, Or.inl rfl, Nat.le_trans z1 z5⟩, cc⟩
          · skip
            by_cases k5 : kd = 5
            · have kk := fun V hz hz2 hV hV2 => rjoin R1 R2 n hn1 hn e1 e2 A B t1 t2 V hz hz2 hV hV2
              have hS : ∀ e' T', JoinR n e1 A e2 B e' T' → Hid (StpR n ⟨kd, i, k, ni, nk, c, ea, lo, hh⟩ e1 A e2 B 0 e' T') := fun e' T' q => by show StpR n ⟨kd, i, k, ni, nk, c, ea, lo, hh⟩ e1 A e2 B 0 e' T'; unfold StpR; simp only [if_neg k0, if_neg k1, if_neg k2, if_neg k3, if_neg k4, if_pos k5]; exact ⟨trivial, q⟩
              clear t1 t2 hn hn1
              subst k5
              go_enter Try.func34, Try.ntmps34
              go_upto_region 1 with fail
              (try rw [hW])
              clear hW gW
              go_wp2_with (first
                | (go_at_call 71; refine (kk _ z1 z2 h1 h2).mono ?_; rintro r w5 ⟨⟨R5, e5, T5, rfl, hb, hb2, hO, r5⟩, g5⟩; replace cc := cc.trans (Rgn.of g5))
                | fail)
              refine bodyPost_ret (v := .tuple #[.pointer (some ⟨R5.b, 0, none⟩), .int .i64 0]) (by simp [results, Try.results34, go_sem]) rfl ?_
              exact ⟨⟨R5, 0, e5, T5, rfl, hO, (hS e5 T5 r5).out, Or.inr (Nat.le_trans zw hb), hb2⟩, cc⟩
            · skip
              by_cases k6 : kd = 6
              · have kk := fun V hz hz2 hV hV2 => rmeet R1 R2 n hn1 hn e1 e2 A B t1 t2 V hz hz2 hV hV2
                have hS : ∀ e' T', MeetR n e1 A e2 B e' T' → Hid (StpR n ⟨kd, i, k, ni, nk, c, ea, lo, hh⟩ e1 A e2 B 0 e' T') := fun e' T' q => by show StpR n ⟨kd, i, k, ni, nk, c, ea, lo, hh⟩ e1 A e2 B 0 e' T'; unfold StpR; simp only [if_neg k0, if_neg k1, if_neg k2, if_neg k3, if_neg k4, if_neg k5, if_pos k6]; exact ⟨trivial, q⟩
                clear t1 t2 hn hn1
                subst k6
                go_enter Try.func34, Try.ntmps34
                go_upto_region 1 with fail
                (try rw [hW])
                clear hW gW
                go_wp2_with (first
                  | (go_at_call 72; refine (kk _ z1 z2 h1 h2).mono ?_; rintro r w5 ⟨⟨R5, e5, T5, rfl, hb, hb2, hO, r5⟩, g5⟩; replace cc := cc.trans (Rgn.of g5))
                  | fail)
                refine bodyPost_ret (v := .tuple #[.pointer (some ⟨R5.b, 0, none⟩), .int .i64 0]) (by simp [results, Try.results34, go_sem]) rfl ?_
                exact ⟨⟨R5, 0, e5, T5, rfl, hO, (hS e5 T5 r5).out, Or.inr (Nat.le_trans zw hb), hb2⟩, cc⟩
              · skip
                have kk := fun V hz hz2 hV hV2 => rwiden R1 R2 n hn1 hn e1 e2 A B t1 t2 V hz hz2 hV hV2
                have hS : ∀ e' T', WidenR n e1 A e2 B e' T' → Hid (StpR n ⟨kd, i, k, ni, nk, c, ea, lo, hh⟩ e1 A e2 B 0 e' T') := fun e' T' q => by show StpR n ⟨kd, i, k, ni, nk, c, ea, lo, hh⟩ e1 A e2 B 0 e' T'; unfold StpR; simp only [if_neg k0, if_neg k1, if_neg k2, if_neg k3, if_neg k4, if_neg k5, if_neg k6]; exact ⟨trivial, q⟩
                clear t1 t2 hn hn1
                go_enter Try.func34, Try.ntmps34
                go_upto_region 1 with fail
                (try rw [hW])
                clear hW gW
                go_wp2_with (first
                  | (go_at_call 73; refine (kk _ z1 z2 h1 h2).mono ?_; rintro r w5 ⟨⟨R5, e5, T5, rfl, hb, hb2, hO, r5⟩, g5⟩; replace cc := cc.trans (Rgn.of g5))
                  | fail)
                refine bodyPost_ret (v := .tuple #[.pointer (some ⟨R5.b, 0, none⟩), .int .i64 0]) (by simp [results, Try.results34, go_sem]) rfl ?_
                exact ⟨⟨R5, 0, e5, T5, rfl, hO, (hS e5 T5 r5).out, Or.inr (Nat.le_trans zw hb), hb2⟩, cc⟩
end Go.Proofs.Ytpcbammncaeimaa


