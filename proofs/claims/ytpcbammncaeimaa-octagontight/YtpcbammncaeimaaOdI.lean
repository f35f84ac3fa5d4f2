/- octagon: together, Join, Meet, Widen. -/
import Derived.Test.YtpcbammncaeimaaOdG
import Derived.Test.YtpcbammncaeimaaOcV
namespace Go.Proofs.Ytpcbammncaeimaa
open Go.RowKit
set_option linter.unusedVariables false
set_option linter.unusedSimpArgs false
/-- A function of two numbers, in the program. -/
structure By (kf : Nat) (f : Int → Int → Int) : Prop where
  en : ∀ args w, (callFunc kf args).run Try.prog w = .ok (.enter kf args) w
  ca : ∀ (x y : Int) w, Calls Try.prog kf #[.int .i64 x, .int .i64 y] w fun r w' => r = .returned (.int .i64 (f x y)) ∧ w' = w
set_option maxRecDepth 100000 in
theorem by_max : By 61 (fun x y => if y < x then x else y) := ⟨fun a v => enters_of Try.func61 (by kernel_rfl) rfl a v, fun x y w => by
  go_enter Try.func61, Try.ntmps61
  go_wp2_with fail
  all_goals go_ret
  all_goals first
    | exact ⟨rfl, rfl⟩
    | (refine ⟨?_, rfl⟩; show Ending.returned (Value.int .i64 x) = .returned (.int .i64 y); rw [show x = y by omega])⟩
set_option maxRecDepth 100000 in
theorem by_min : By 62 (fun x y => if y < x then y else x) := ⟨fun a v => enters_of Try.func62 (by kernel_rfl) rfl a v, fun x y w => by
  go_enter Try.func62, Try.ntmps62
  go_wp2_with fail
  all_goals go_ret
  all_goals first
    | exact ⟨rfl, rfl⟩
    | (refine ⟨?_, rfl⟩; show Ending.returned (Value.int .i64 x) = .returned (.int .i64 y); rw [show x = y by omega])⟩
def kep (x y : Int) : Int := if x < y then 17179869184 else x
set_option maxRecDepth 100000 in
theorem by_kept : By 63 kep := ⟨fun a v => enters_of Try.func63 (by kernel_rfl) rfl a v, fun x y w => by
  unfold kep
  by_cases h : x < y
  · rw [if_pos h]
    go_enter Try.func63, Try.ntmps63
    go_wp2_with fail
    go_ret
    exact ⟨rfl, rfl⟩
  · rw [if_neg h]
    go_enter Try.func63, Try.ntmps63
    go_wp2_with fail
    go_ret
    exact ⟨rfl, rfl⟩⟩
/-- What lies in memory for together's function. -/
structure Tg (w : World) (bf bp bq b1 b2 n : Nat) (kf : Nat) (A B : Mx) : Prop where
  f : w.cell? ⟨bf, 0, none⟩ = some (.func (.func kf) #[] #[])
  p : w.cell? ⟨bp, 0, none⟩ = some (.pointer (some ⟨b1, 0, none⟩))
  q : w.cell? ⟨bq, 0, none⟩ = some (.pointer (some ⟨b2, 0, none⟩))
  a : OctAt w b1 n false A
  b : OctAt w b2 n false B
set_option maxRecDepth 100000 in
set_option maxHeartbeats 1600000 in
theorem otog1 (bf bp bq b1 b2 n kf : Nat) (A B : Mx) (f : Int → Int → Int) (hf : By kf f) (x y : Nat) (hx : x < 16) (hy : y < 16) (w : World) (h : Tg w bf bp bq b1 b2 n kf A B) :
    Calls Try.prog 90 #[.int .i64 x, .int .i64 y, .pointer (some ⟨bf, 0, none⟩), .pointer (some ⟨bp, 0, none⟩), .pointer (some ⟨bq, 0, none⟩)] w fun r w' => r = .returned (.int .i64 (f (A x y) (B x y))) ∧ ∃ k, w' = w.drewN k := by
  obtain ⟨cf, cp, cq, oa, ob⟩ := h
  have ef := hf.en
  have kf2 := fun u v (V : World) => (hf.ca u v V).mono fun r w' (q : r = .returned (.int .i64 (f u v)) ∧ w' = V) => (⟨q.1, 0, q.2⟩ : r = .returned (.int .i64 (f u v)) ∧ ∃ k, w' = V.drewN k)
  have x1 := oix b1 x hx
  have x2 := oiy b1 (2 + x * 16) y hy
  have x3 := oix b2 x hx
  have x4 := oiy b2 (2 + x * 16) y hy
  have y1 := oa.hm x y hx hy
  have y2 := ob.hm x y hx hy
  generalize A x y = u at *
  generalize B x y = v at *
  clear oa ob hf
  go_enter Try.func90, Try.ntmps90
  go_upto_region 1 with fail
  go_quiet (first
    | (go_at_fn kf; exact Calls.quiet_of (kf2 _ _ _))
    | fail)
  go_wp2_with fail
  go_ret
  exact ⟨rfl, _, rfl⟩
set_option maxRecDepth 100000 in
set_option maxHeartbeats 3200000 in
theorem otog (b1 b2 n : Nat) (hn : n ≤ 8) (kf : Nat) (A B : Mx) (f : Int → Int → Int) (hf : By kf f) (w : World) (h1 : OctAt w b1 n false A) (h2 : OctAt w b2 n false B) :
    Calls Try.prog 60 #[.pointer (some ⟨b1, 0, none⟩), .pointer (some ⟨b2, 0, none⟩), .func (.func kf) #[] #[]] w fun r w' => (∃ b M, r = .returned (.pointer (some ⟨b, 0, none⟩)) ∧ w.heap.size ≤ b ∧ OctAt w' b n false M ∧ Agr n M (fun x y => f (A x y) (B x y))) ∧ Below w.heap.size w w' := by
  have hb1 : b1 < w.heap.size := World.block_lt_of_cell? w _ h1.hv
  have hb2 : b2 < w.heap.size := World.block_lt_of_cell? w _ h2.hv
  obtain ⟨W, hW⟩ : ∃ W, ((w.alloc (.cells #[.pointer (some ⟨b1, 0, none⟩)] 23)).alloc (.cells #[.pointer (some ⟨b2, 0, none⟩)] 23)).alloc (.cells #[.func (.func kf) #[] #[]] 91) = W := ⟨_, rfl⟩
  have gW : Below w.heap.size w W := by rw [← hW]; exact (((Below.refl _ _).alloc (Nat.le_refl _) _).alloc (by simp) _).alloc (by simp; omega) _
  have zW : Hid (W.heap.size = w.heap.size + 3) := by rw [← hW]; exact (show _ = _ by simp)
  have a0 : W.cell? ⟨w.heap.size, 0, none⟩ = some (.pointer (some ⟨b1, 0, none⟩)) := by rw [← hW]; simp [go_sem]
  have a1 : W.cell? ⟨w.heap.size + 1, 0, none⟩ = some (.pointer (some ⟨b2, 0, none⟩)) := by rw [← hW]; simp [go_sem]
  have a2 : W.cell? ⟨w.heap.size + 1 + 1, 0, none⟩ = some (.func (.func kf) #[] #[]) := by rw [← hW]; simp [go_sem]
  have o1 := h1.on gW
  have o2 := h2.on gW
  have hv := o1.hv
  go_enter Try.func60, Try.ntmps60
  go_upto_region 1 with fail
  (try rw [hW])
  clear hW
  iterate 13 go_step
  refine wpList_build rfl 70 _ rfl (by kernel_rfl) ?_
  generalize hV : (Program.built Try.prog 70 _).getD #[] = V
  have hV2 : V = #[.int .i64 n, .bool false] ++ Array.replicate 256 (.int .i64 0) := hV.symm.trans (by kernel_rfl)
  clear hV
  have hO : OctAt (W.alloc (.cells V 70)) W.heap.size n false (fun _ _ => 0) := by
    refine ⟨?_, ?_, fun i j hi hj => ?_, fun k => by simp [go_sem]⟩
    · rw [ocl, hV2]; exact zc0 _
    · rw [ocl, hV2]; exact zc1 _
    · rw [ocl, hV2, show 2 + i * 16 + j = 2 + (i * 16 + j) by omega]; exact zc2 _ _ (by omega)
  have gV : Below W.heap.size W (W.alloc (.cells V 70)) := (Below.refl _ _).alloc (Nat.le_refl _) _
  clear hV2
  obtain ⟨bb, hbb⟩ : ∃ bb, W.heap.size = bb := ⟨_, rfl⟩
  have HB : Hid (bb = w.heap.size + 3) := by rw [← hbb]; exact zW.out
  have hT : Tg (W.alloc (.cells V 70)) (w.heap.size + 1 + 1) w.heap.size (w.heap.size + 1) b1 b2 n kf A B := ⟨sp_cell_on gV a2, sp_cell_on gV a0, sp_cell_on gV a1, o1.on gV, o2.on gV⟩
  have g2 := sp_call gW gV
  rw [hbb] at hO
  have kfl := ofill bb n (2 * n) false (fun _ _ => 0) rfl (by omega) 90 #[.pointer (some ⟨w.heap.size + 1 + 1, 0, none⟩), .pointer (some ⟨w.heap.size, 0, none⟩), .pointer (some ⟨w.heap.size + 1, 0, none⟩)] (fun a v => enters_of Try.func90 (by kernel_rfl) rfl a v) (fun x y => f (A x y) (B x y))
    (fun X => Tg X (w.heap.size + 1 + 1) w.heap.size (w.heap.size + 1) b1 b2 n kf A B) (fun X X' a q => by
      have h3 := HB.out
      exact ⟨q.cell (by omega) a.f, q.cell (by omega) a.p, q.cell (by omega) a.q, a.a.onl q (by omega), a.b.onl q (by omega)⟩)
    (fun x y X hx hy hX => otog1 (w.heap.size + 1 + 1) w.heap.size (w.heap.size + 1) b1 b2 n kf A B f hf x y (by omega) (by omega) X hX) _ hO hT
  clear hO hT gV a0 a1 a2 o1 o2 hv h1 h2 gW zW
  generalize hU : W.alloc (.cells V 70) = U at *
  go_wp2_with (first
    | (go_at_call 64; (try rw [hU]); (try rw [hbb]); refine kfl.mono ?_; rintro r w9 ⟨rfl, hO9, c9⟩)
    | fail)
  go_ret
  refine ⟨⟨bb, _, by rw [← hbb]; rfl, by have := HB.out; omega, hO9, pm_agr n _ _⟩, ?_⟩
  have h3 := HB.out
  exact ⟨c9.os.trans g2.os, c9.tape.trans g2.tape, c9.output.trans g2.output, Nat.le_trans g2.size c9.size, fun k hk => (c9.block k (Nat.lt_of_lt_of_le hk g2.size) (by omega)).trans (g2.block k hk)⟩
theorem Agr.bst {n : Nat} {S T T' : Mx} (h : Agr n T T') (q : Bst n S T) : Bst n S T' := q.to h
/-- What a call answers that puts two together: (0) which one it is, if one is empty; else how both become one. -/
def Bin (n : Nat) (go : Mx → Mx → Bool → Mx → Prop) (e1 : Bool) (A : Mx) (e2 : Bool) (B : Mx) (e' : Bool) (T' : Mx) : Prop :=
  (e1 = true ∧ e' = e2 ∧ (e2 = false → Agr n T' B)) ∨ (e1 = false ∧ e2 = true ∧ e' = false ∧ Agr n T' A) ∨ (e1 = false ∧ e2 = false ∧ go A B e' T')
def mxS (A B : Mx) : Mx := fun a b => if B a b < A a b then A a b else B a b
def mnS (A B : Mx) : Mx := fun a b => if B a b < A a b then B a b else A a b
def wdS (A B : Mx) : Mx := fun a b => kep (A a b) (B a b)
theorem mx_cl {n : Nat} {A B : Mx} (a : Cl n A) (b : Cl n B) : Cl n (mxS A B) where
  clo := fun k hk x y hx hy => by
    have h1 := a.clo k hk x y hx hy
    have h2 := b.clo k hk x y hx hy
    unfold mxS
    split <;> split <;> split <;> omega
  hal := fun x y hx hy => by
    have h1 := a.hal x y hx hy
    have h2 := b.hal x y hx hy
    unfold mxS
    unfold fh at *
    split <;> split <;> split <;> omega
  pos := fun x hx => by
    have h1 := a.pos x hx
    unfold mxS
    split <;> omega
theorem mx_bst {n : Nat} {A B : Mx} (a : Cl n A) (b : Cl n B) : Bst n (mxS A B) (mxS A B) := ⟨mx_cl a b, Le.refl _ _, fun _ _ l => l⟩
def JoinR (n : Nat) := Bin n (fun A B e' T' => e' = false ∧ Bst n (mxS A B) T')
def WidenR (n : Nat) := Bin n (fun A B e' T' => Res n (wdS A B) e' T')
/-- Meet: empty, if one is. -/
def MeetR (n : Nat) (e1 : Bool) (A : Mx) (e2 : Bool) (B : Mx) (e' : Bool) (T' : Mx) : Prop := ((e1 = true ∨ e2 = true) ∧ e' = true) ∨ (e1 = false ∧ e2 = false ∧ Res n (mnS A B) e' T')
set_option maxRecDepth 100000 in
set_option maxHeartbeats 1600000 in
theorem ojoin (b1 b2 n : Nat) (hn : n ≤ 8) (e1 e2 : Bool) (A B : Mx) (t1 : e1 = false → Tt n A) (t2 : e2 = false → Tt n B) (w : World) (h1 : OctAt w b1 n e1 A) (h2 : OctAt w b2 n e2 B) :
    Calls Try.prog 27 #[.pointer (some ⟨b1, 0, none⟩), .pointer (some ⟨b2, 0, none⟩)] w fun r w' => (∃ b e' M, r = .returned (.pointer (some ⟨b, 0, none⟩)) ∧ w.heap.size ≤ b ∧ OctAt w' b n e' M ∧ JoinR n e1 A e2 B e' M) ∧ Below w.heap.size w w' := by
  have ka := oalike b1 b2 n e1 e2 A B w h1 h2
  cases e1
  · cases e2
    · have kt := fun V h1 h2 => otog b1 b2 n hn 61 A B _ by_max V h1 h2
      have hA : ∀ M, Agr n M (mxS A B) → Hid (JoinR n false A false B false M) := fun M a => Or.inr (Or.inr ⟨rfl, rfl, rfl, a.symm.bst (mx_bst (t1 rfl).cl (t2 rfl).cl)⟩)
      clear t1 t2
      go_enter Try.func27, Try.ntmps27
      have x1 := h1.he
      have x2 := h2.he
      go_wp2_with (first
        | (go_at_call 45; refine ka.mono ?_; rintro r v1 ⟨rfl, k, rfl⟩; replace h1 := h1.drewN k; replace h2 := h2.drewN k; replace x1 := h1.he; replace x2 := h2.he)
        | (go_at_call 60; refine (kt _ h1 h2).mono ?_; rintro r v2 ⟨⟨b, M, rfl, hb, hO, a⟩, g⟩)
        | fail)
      go_ret
      exact ⟨⟨b, false, M, rfl, hb, hO, (hA M a).out⟩, ⟨g.os, g.tape, g.output, g.size, g.block⟩⟩
    · have kt := fun V h1 => ofork b1 n false A V h1
      have hA : Hid (JoinR n false A true B false A) := Or.inr (Or.inl ⟨rfl, rfl, rfl, fun _ _ _ _ => rfl⟩)
      clear t1 t2
      go_enter Try.func27, Try.ntmps27
      have x1 := h1.he
      have x2 := h2.he
      go_wp2_with (first
        | (go_at_call 45; refine ka.mono ?_; rintro r v1 ⟨rfl, k, rfl⟩; replace h1 := h1.drewN k; replace h2 := h2.drewN k; replace x1 := h1.he; replace x2 := h2.he)
        | (go_at_call 19; refine (kt _ h1).mono ?_; rintro r v2 ⟨rfl, hO, g⟩)
        | fail)
      go_ret
      exact ⟨⟨_, false, A, rfl, Nat.le_refl _, hO, hA.out⟩, ⟨g.os, g.tape, g.output, g.size, g.block⟩⟩
  · have kt := fun V h2 => ofork b2 n e2 B V h2
    have hA : Hid (JoinR n true A e2 B e2 B) := Or.inl ⟨rfl, rfl, fun _ _ _ _ _ => rfl⟩
    clear t1 t2
    go_enter Try.func27, Try.ntmps27
    have x1 := h1.he
    have x2 := h2.he
    go_wp2_with (first
      | (go_at_call 45; refine ka.mono ?_; rintro r v1 ⟨rfl, k, rfl⟩; replace h1 := h1.drewN k; replace h2 := h2.drewN k; replace x1 := h1.he; replace x2 := h2.he)
      | (go_at_call 19; refine (kt _ h2).mono ?_; rintro r v2 ⟨rfl, hO, g⟩)
      | fail)
    go_ret
    exact ⟨⟨_, e2, B, rfl, Nat.le_refl _, hO, hA.out⟩, ⟨g.os, g.tape, g.output, g.size, g.block⟩⟩
theorem Res.agr {n : Nat} {S S' T : Mx} {e : Bool} (h : Res n S e T) (a : Agr n S S') : Res n S' e T := h.at fun X _ => a.le_iff X
set_option maxRecDepth 100000 in
set_option maxHeartbeats 1600000 in
theorem owiden (b1 b2 n : Nat) (hn : n ≤ 8) (e1 e2 : Bool) (A B : Mx) (t1 : e1 = false → Tt n A) (t2 : e2 = false → Tt n B) (w : World) (h1 : OctAt w b1 n e1 A) (h2 : OctAt w b2 n e2 B) :
    Calls Try.prog 29 #[.pointer (some ⟨b1, 0, none⟩), .pointer (some ⟨b2, 0, none⟩)] w fun r w' => (∃ b e' M, r = .returned (.pointer (some ⟨b, 0, none⟩)) ∧ w.heap.size ≤ b ∧ OctAt w' b n e' M ∧ WidenR n e1 A e2 B e' M) ∧ Below w.heap.size w w' := by
  have ka := oalike b1 b2 n e1 e2 A B w h1 h2
  cases e1
  · cases e2
    · have kt := fun V h1 h2 => otog b1 b2 n hn 63 A B _ by_kept V h1 h2
      have kg := fun V b M (a : Agr n M (wdS A B)) hV => otightE b n hn M (fun x y hx hy => by
        rw [a x y hx hy]
        have := (t1 rfl).up x y hx hy
        unfold wdS kep
        split <;> omega) (fun x y hx hy => by
        rw [a x y hx hy]
        have := (t1 rfl).low hx hy
        unfold wdS kep
        split <;> omega) V hV
      have hA : ∀ M e' T, Agr n M (wdS A B) → Res n M e' T → Hid (WidenR n false A false B e' T) := fun M e' T a r => Or.inr (Or.inr ⟨rfl, rfl, r.agr a⟩)
      clear t1 t2
      go_enter Try.func29, Try.ntmps29
      have x1 := h1.he
      have x2 := h2.he
      go_wp2_with (first
        | (go_at_call 45; refine ka.mono ?_; rintro r v1 ⟨rfl, k, rfl⟩; replace h1 := h1.drewN k; replace h2 := h2.drewN k; replace x1 := h1.he; replace x2 := h2.he)
        | (go_at_call 60; refine (kt _ h1 h2).mono ?_; rintro r v2 ⟨⟨b, M, rfl, hb, hO, a⟩, g⟩)
        | (go_at_call 59; refine (kg _ _ _ a hO).mono ?_; rintro r v3 ⟨rfl, ⟨e3, T3, hO3, r3⟩, c3⟩)
        | fail)
      go_ret
      exact ⟨⟨b, e3, T3, rfl, hb, hO3, (hA M e3 T3 a r3).out⟩, ⟨c3.os.trans g.os, c3.tape.trans g.tape, c3.output.trans g.output, Nat.le_trans g.size c3.size, fun j hj => (c3.block j (Nat.lt_of_lt_of_le hj g.size) (fun q => absurd (q ▸ hj) (Nat.not_lt.2 hb))).trans (g.block j hj)⟩⟩
    · have kt := fun V h1 => ofork b1 n false A V h1
      have hA : Hid (WidenR n false A true B false A) := Or.inr (Or.inl ⟨rfl, rfl, rfl, fun _ _ _ _ => rfl⟩)
      clear t1 t2
      go_enter Try.func29, Try.ntmps29
      have x1 := h1.he
      have x2 := h2.he
      go_wp2_with (first
        | (go_at_call 45; refine ka.mono ?_; rintro r v1 ⟨rfl, k, rfl⟩; replace h1 := h1.drewN k; replace h2 := h2.drewN k; replace x1 := h1.he; replace x2 := h2.he)
        | (go_at_call 19; refine (kt _ h1).mono ?_; rintro r v2 ⟨rfl, hO, g⟩)
        | fail)
      go_ret
      exact ⟨⟨_, false, A, rfl, Nat.le_refl _, hO, hA.out⟩, ⟨g.os, g.tape, g.output, g.size, g.block⟩⟩
  · have kt := fun V h2 => ofork b2 n e2 B V h2
    have hA : Hid (WidenR n true A e2 B e2 B) := Or.inl ⟨rfl, rfl, fun _ _ _ _ _ => rfl⟩
    clear t1 t2
    go_enter Try.func29, Try.ntmps29
    have x1 := h1.he
    have x2 := h2.he
    go_wp2_with (first
      | (go_at_call 45; refine ka.mono ?_; rintro r v1 ⟨rfl, k, rfl⟩; replace h1 := h1.drewN k; replace h2 := h2.drewN k; replace x1 := h1.he; replace x2 := h2.he)
      | (go_at_call 19; refine (kt _ h2).mono ?_; rintro r v2 ⟨rfl, hO, g⟩)
      | fail)
    go_ret
    exact ⟨⟨_, e2, B, rfl, Nat.le_refl _, hO, hA.out⟩, ⟨g.os, g.tape, g.output, g.size, g.block⟩⟩
set_option maxRecDepth 100000 in
set_option maxHeartbeats 1600000 in
theorem omeet (b1 b2 n : Nat) (hn : n ≤ 8) (e1 e2 : Bool) (A B : Mx) (t1 : e1 = false → Tt n A) (t2 : e2 = false → Tt n B) (w : World) (h1 : OctAt w b1 n e1 A) (h2 : OctAt w b2 n e2 B) :
    Calls Try.prog 28 #[.pointer (some ⟨b1, 0, none⟩), .pointer (some ⟨b2, 0, none⟩)] w fun r w' => (∃ b e' M, r = .returned (.pointer (some ⟨b, 0, none⟩)) ∧ w.heap.size ≤ b ∧ OctAt w' b n e' M ∧ MeetR n e1 A e2 B e' M) ∧ Below w.heap.size w w' := by
  have ka := oalike b1 b2 n e1 e2 A B w h1 h2
  have emp : ∀ (V : World) (C : Array Value), C = #[.int .i64 n, .bool true] ++ Array.replicate 256 (.int .i64 0) → OctAt (V.alloc (.cells C 70)) V.heap.size n true (fun _ _ => 0) := fun V C hC => by
    rw [hC, ozero]
    exact OctAt.made n true (fun _ _ => 0) V
  cases e1
  · cases e2
    · have kt := fun V h1 h2 => otog b1 b2 n hn 62 A B _ by_min V h1 h2
      have kg := fun V b M (a : Agr n M (mnS A B)) hV => otightE b n hn M (fun x y hx hy => by
        rw [a x y hx hy]
        have := (t1 rfl).up x y hx hy
        unfold mnS
        split <;> omega) (fun x y hx hy => by
        rw [a x y hx hy]
        have := (t1 rfl).low hx hy
        have := (t2 rfl).low hx hy
        unfold mnS
        split <;> omega) V hV
      have hA : ∀ M e' T, Agr n M (mnS A B) → Res n M e' T → Hid (MeetR n false A false B e' T) := fun M e' T a r => Or.inr ⟨rfl, rfl, r.agr a⟩
      clear t1 t2 emp
      go_enter Try.func28, Try.ntmps28
      have x1 := h1.he
      have x2 := h2.he
      go_wp2_with (first
        | (go_at_call 45; refine ka.mono ?_; rintro r v1 ⟨rfl, k, rfl⟩; replace h1 := h1.drewN k; replace h2 := h2.drewN k; replace x1 := h1.he; replace x2 := h2.he)
        | (go_at_call 60; refine (kt _ h1 h2).mono ?_; rintro r v2 ⟨⟨b, M, rfl, hb, hO, a⟩, g⟩)
        | (go_at_call 59; refine (kg _ _ _ a hO).mono ?_; rintro r v3 ⟨rfl, ⟨e3, T3, hO3, r3⟩, c3⟩)
        | fail)
      go_ret
      exact ⟨⟨b, e3, T3, rfl, hb, hO3, (hA M e3 T3 a r3).out⟩, ⟨c3.os.trans g.os, c3.tape.trans g.tape, c3.output.trans g.output, Nat.le_trans g.size c3.size, fun j hj => (c3.block j (Nat.lt_of_lt_of_le hj g.size) (fun q => absurd (q ▸ hj) (Nat.not_lt.2 hb))).trans (g.block j hj)⟩⟩
    · have hA : ∀ M, Hid (MeetR n false A true B true M) := fun M => Or.inl ⟨Or.inr rfl, rfl⟩
      clear t1 t2
      go_enter Try.func28, Try.ntmps28
      have x0 := h1.hv
      have x1 := h1.he
      have x2 := h2.he
      go_upto_region 4 with (first
        | (go_at_call 45; refine ka.mono ?_; rintro r v1 ⟨rfl, k, rfl⟩; replace h1 := h1.drewN k; replace h2 := h2.drewN k; replace x0 := h1.hv; replace x1 := h1.he; replace x2 := h2.he)
        | fail)
      iterate 13 go_step
      refine wpList_build rfl 70 _ rfl (by kernel_rfl) ?_
      generalize hV : (Program.built Try.prog 70 _).getD #[] = V
      have hV2 : V = #[.int .i64 n, .bool true] ++ Array.replicate 256 (.int .i64 0) := hV.symm.trans (by kernel_rfl)
      clear hV
      have hO := emp (w.drewN k) V hV2
      clear hV2
      go_wp2_with fail
      go_ret
      exact ⟨⟨_, true, _, rfl, Nat.le_refl _, hO, (hA _).out⟩, (show Below w.heap.size w (w.drewN k) from ⟨rfl, rfl, rfl, Nat.le_refl _, fun _ _ => rfl⟩).alloc (Nat.le_refl _) _⟩
  · have hA : ∀ M, Hid (MeetR n true A e2 B true M) := fun M => Or.inl ⟨Or.inl rfl, rfl⟩
    clear t1 t2
    go_enter Try.func28, Try.ntmps28
    have x0 := h1.hv
    have x1 := h1.he
    have x2 := h2.he
    go_upto_region 4 with (first
      | (go_at_call 45; refine ka.mono ?_; rintro r v1 ⟨rfl, k, rfl⟩; replace h1 := h1.drewN k; replace h2 := h2.drewN k; replace x0 := h1.hv; replace x1 := h1.he; replace x2 := h2.he)
      | fail)
    iterate 13 go_step
    refine wpList_build rfl 70 _ rfl (by kernel_rfl) ?_
    generalize hV : (Program.built Try.prog 70 _).getD #[] = V
    have hV2 : V = #[.int .i64 n, .bool true] ++ Array.replicate 256 (.int .i64 0) := hV.symm.trans (by kernel_rfl)
    clear hV
    have hO := emp (w.drewN k) V hV2
    clear hV2
    go_wp2_with fail
    go_ret
    exact ⟨⟨_, true, _, rfl, Nat.le_refl _, hO, (hA _).out⟩, (show Below w.heap.size w (w.drewN k) from ⟨rfl, rfl, rfl, Nat.le_refl _, fun _ _ => rfl⟩).alloc (Nat.le_refl _) _⟩
end Go.Proofs.Ytpcbammncaeimaa

