/- octagon: Limit, Bound, Empty. -/
import Derived.Test.YtpcbammncaeimaaOcG
namespace Go.Proofs.Ytpcbammncaeimaa
open Go.RowKit
set_option linter.unusedVariables false
set_option linter.unusedSimpArgs false
theorem low1_le (M : Mx) (x y : Nat) (v : Int) (a c : Nat) : low1 M x y v a c ≤ M a c := by
  unfold low1 up1
  split
  · rename_i h
    rw [h.1, h.2]
    omega
  · omega
theorem low1_at (M : Mx) (x y : Nat) (v : Int) : low1 M x y v x y ≤ v := by
  unfold low1 up1
  rw [if_pos ⟨rfl, rfl⟩]
  omega
theorem low1_fit {n : Nat} {M : Mx} {u : Nat → Int} (f : Fit n M u) {x y : Nat} {v : Int} (h : u x + u y ≤ v) : Fit n (low1 M x y v) u := by
  refine ⟨f.1, fun a b ha hb => ?_⟩
  have h1 := f.2 a b ha hb
  unfold low1 up1
  split
  · rename_i q
    rw [q.1, q.2] at h1 ⊢
    omega
  · exact h1
theorem low_le (M : Mx) (x y : Nat) (v : Int) (a c : Nat) : low M x y v a c ≤ M a c := Int.le_trans (low1_le _ _ _ _ _ _) (low1_le _ _ _ _ _ _)
theorem low_1 (M : Mx) (x y : Nat) (v : Int) : low M x y v x y ≤ v := Int.le_trans (low1_le _ _ _ _ _ _) (low1_at _ _ _ _)
theorem low_2 (M : Mx) (x y : Nat) (v : Int) : low M x y v y x ≤ v := low1_at _ _ _ _
theorem low_fit {n : Nat} {M : Mx} {u : Nat → Int} (f : Fit n M u) {x y : Nat} {v : Int} (h : u x + u y ≤ v) : Fit n (low M x y v) u := low1_fit (low1_fit f h) (by omega)
theorem ob_new {w : World} {b n : Nat} {e : Bool} {M : Mx} (h : OctAt w b n e M) (o : Obj) : OctAt (w.alloc o) b n e M := h.on ((Below.refl _ _).alloc (Nat.le_refl _) _)
set_option maxRecDepth 100000 in
set_option maxHeartbeats 800000 in
theorem olimit (b n : Nat) (hn : n ≤ 8) (M : Mx) (i k : Nat) (hi : i < n) (hk : k < n) (gi gk : Bool) (c : Int) (h1 : -34359738368 ≤ c) (h2 : c ≤ 34359738368) (u : Nat → Int) (fu : Fit n (low M (2 * i + gi.toNat) (2 * k + gk.toNat) c) u) (su : ∀ a, -1099511627776 ≤ u a ∧ u a ≤ 1099511627776) (hM : ∀ a c, a < 2 * n → c < 2 * n → M a c ≤ 4611686018427387903) (w : World) (h : OctAt w b n false M) :
    Calls Try.prog 30 #[.pointer (some ⟨b, 0, none⟩), .int .i64 i, .bool gi, .int .i64 k, .bool gk, .int .i64 c] w fun r w' => r = .returned (.int .i64 0) ∧ (∃ M', OctAt w' b n false M' ∧ Tgt n (low M (2 * i + gi.toNat) (2 * k + gk.toNat) c) M') ∧ Onl b w w' := by
  have bi := Bool.toNat_le gi
  have bk := Bool.toNat_le gk
  have s1 := oside i (by omega) gi
  have s2 := oside k (by omega) gk
  have hO := ob_new h (.cells #[.int .i64 i, .int .i64 k] 3)
  have cc : Onl b w (w.alloc (.cells #[.int .i64 i, .int .i64 k] 3)) := Onl.of ((Below.refl _ _).alloc (Nat.le_refl _) _)
  have kf := ofault b n false M c 34359738368 (by omega) (by omega) (by omega) (by omega) w.heap.size 2 (by omega) (fun j => if j = 0 then i else k) (fun j hj => by show (if j = 0 then i else k) < n; split <;> omega) _ hO (fun j hj => by
    have : j = 0 ∨ j = 1 := by omega
    rcases this with rfl | rfl <;> simp [go_sem])
  have kl := fun V hV => olower b n M (2 * i + gi.toNat) (2 * k + gk.toNat) (by omega) (by omega) c V hV
  have kt := fun V hV => otight b n hn (low M (2 * i + gi.toNat) (2 * k + gk.toNat) c) u fu su (fun a d ha hd => Int.le_trans (low_le _ _ _ _ _ _) (hM a d ha hd)) V hV
  clear fu hM bi bk h
  generalize low M (2 * i + gi.toNat) (2 * k + gk.toNat) c = L at *
  generalize 2 * i + gi.toNat = x at *
  generalize 2 * k + gk.toNat = y at *
  go_enter Try.func30, Try.ntmps30
  go_wp2_with (first
    | (go_at_call 55; refine kf.mono ?_; rintro r w2 ⟨rfl, hw2⟩; subst w2)
    | (go_at_call_of 53 i; refine (s1 _).mono ?_; rintro r w3 ⟨rfl, hw3⟩; subst w3; clear s1)
    | (go_at_call_of 53 k; refine (s2 _).mono ?_; rintro r w3 ⟨rfl, hw3⟩; subst w3; clear s2)
    | (go_at_call 58; refine (kl _ hO).mono ?_; rintro r w4 ⟨rfl, hO2, c4⟩; replace cc := cc.trans c4; clear c4)
    | (go_at_call 59; refine (kt _ hO2).mono ?_; rintro r w5 ⟨rfl, hO3, c5⟩; replace cc := cc.trans c5; clear c5)
    | fail)
  go_ret
  exact ⟨rfl, hO3, cc⟩
set_option maxRecDepth 100000 in
theorem oempty (b n : Nat) (e : Bool) (M : Mx) (w : World) (h : OctAt w b n e M) : Calls Try.prog 21 #[.pointer (some ⟨b, 0, none⟩)] w fun r w' => r = .returned (.bool e) ∧ w' = w := by
  have he := h.he
  go_enter Try.func21, Try.ntmps21
  go_wp2_with fail
  go_ret
  exact ⟨rfl, rfl⟩
set_option maxRecDepth 100000 in
theorem obound (b n : Nat) (hn : n ≤ 8) (M : Mx) (i k : Nat) (hi : i < n) (hk : k < n) (gi gk : Bool) (w : World) (h : OctAt w b n false M) :
    Calls Try.prog 38 #[.pointer (some ⟨b, 0, none⟩), .int .i64 i, .bool gi, .int .i64 k, .bool gk] w fun r w' => r = .returned (.int .i64 (M (2 * i + gi.toNat) (2 * k + gk.toNat))) ∧ ∃ q, w' = w.drewN q := by
  have bi := Bool.toNat_le gi
  have bk := Bool.toNat_le gk
  have s1 := oside i (by omega) gi
  have s2 := oside k (by omega) gk
  have v1 := oisvar b n false M i hi w h
  have v2 := oisvar b n false M k hk w h
  have he := h.he
  have x1 := oix b (2 * i + gi.toNat) (by omega)
  have x2 := oiy b (2 + (2 * i + gi.toNat) * 16) (2 * k + gk.toNat) (by omega)
  have y1 := h.hm (2 * i + gi.toNat) (2 * k + gk.toNat) (by omega) (by omega)
  generalize M (2 * i + gi.toNat) (2 * k + gk.toNat) = z at *
  generalize 2 * i + gi.toNat = x at *
  generalize 2 * k + gk.toNat = y at *
  clear bi bk
  go_enter Try.func38, Try.ntmps38
  go_upto_region 5 with (first
    | (go_at_call_of 51 i; refine v1.mono ?_; rintro r w2 ⟨rfl, hw2⟩; subst w2; clear v1)
    | (go_at_call_of 51 k; refine v2.mono ?_; rintro r w2 ⟨rfl, hw2⟩; subst w2; clear v2)
    | fail)
  go_quiet (first
    | (go_at_call_of 53 i; exact Calls.quiet_of ((s1 _).mono fun r w' q => ⟨q.1, 0, q.2⟩))
    | (go_at_call_of 53 k; exact Calls.quiet_of ((s2 _).mono fun r w' q => ⟨q.1, 0, q.2⟩))
    | fail)
  go_wp2_with fail
  go_ret
  exact ⟨rfl, _, rfl⟩
end Go.Proofs.Ytpcbammncaeimaa
