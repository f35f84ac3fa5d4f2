/- Texts of the proof, put together. -/
import Derived.Test.YtpcbammncaeimaaZG7
import Derived.Test.YtpcbammncaeimaaZG11
namespace Go.Proofs.Ytpcbammncaeimaa
open Go.RowKit
set_option linter.unusedVariables false
set_option linter.unusedSimpArgs false
structure By (kf : Nat) (f : Int → Int → Int) : Prop where
  en : ∀ args w, (callFunc kf args).run Try.prog w = .ok (.enter kf args) w
  ca : ∀ (x y : Int) w, Calls Try.prog kf #[.int .i64 x, .int .i64 y] w fun r w' => r = .returned (.int .i64 (f x y)) ∧ w' = w
set_option maxRecDepth 100000 in
theorem by_max : By 61 (fun x y => if y < x then x else y) := ⟨fun a v => enters_of Try.func61 (by kernel_rfl) rfl a v, fun x y w => by
  go_enter Try.func61, Try.ntmps61
  go_wp2_with fail
  all_goals go_ret
  all_goals first
    | exact ⟨rfl, rfl⟩
    | (refine ⟨?_, rfl⟩; show Ending.returned (Value.int .i64 x) = .returned (.int .i64 y); rw [show x = y by omega])⟩
set_option maxRecDepth 100000 in
theorem by_min : By 62 (fun x y => if y < x then y else x) := ⟨fun a v => enters_of Try.func62 (by kernel_rfl) rfl a v, fun x y w => by
  go_enter Try.func62, Try.ntmps62
  go_wp2_with fail
  all_goals go_ret
  all_goals first
    | exact ⟨rfl, rfl⟩
    | (refine ⟨?_, rfl⟩; show Ending.returned (Value.int .i64 x) = .returned (.int .i64 y); rw [show x = y by omega])⟩
def kep (x y : Int) : Int := if x < y then 17179869184 else x
set_option maxRecDepth 100000 in
theorem by_kept : By 63 kep := ⟨fun a v => enters_of Try.func63 (by kernel_rfl) rfl a v, fun x y w => by
  unfold kep
  by_cases h : x < y
  · rw [if_pos h]
    go_enter Try.func63, Try.ntmps63
    go_wp2_with fail
    go_ret
    exact ⟨rfl, rfl⟩
  · rw [if_neg h]
    go_enter Try.func63, Try.ntmps63
    go_wp2_with fail
    go_ret
    exact ⟨rfl, rfl⟩⟩
structure Tg (w : World) (bf bp bq b1 b2 n : Nat) (kf : Nat) (A B : Mx) : Prop where
  f : w.cell? ⟨bf, 0, none⟩ = some (.func (.func kf) #[] #[])
  p : w.cell? ⟨bp, 0, none⟩ = some (.pointer (some ⟨b1, 0, none⟩))
  q : w.cell? ⟨bq, 0, none⟩ = some (.pointer (some ⟨b2, 0, none⟩))
  a : OctAt w b1 n false A
  b : OctAt w b2 n false B
set_option maxRecDepth 100000 in
set_option maxHeartbeats 1600000 in
theorem otog1 (bf bp bq b1 b2 n kf : Nat) (A B : Mx) (f : Int → Int → Int) (hf : By kf f) (x y : Nat) (hx : x < 16) (hy : y < 16) (w : World) (h : Tg w bf bp bq b1 b2 n kf A B) :
    Calls Try.prog 90 #[.int .i64 x, .int .i64 y, .pointer (some ⟨bf, 0, none⟩), .pointer (some ⟨bp, 0, none⟩), .pointer (some ⟨bq, 0, none⟩)] w fun r w' => r = .returned (.int .i64 (f (A x y) (B x y))) ∧ ∃ k, w' = w.drewN k := by
  obtain ⟨cf, cp, cq, oa, ob⟩ := h
  have ef := hf.en
  have kf2 := fun u v (V : World) => (hf.ca u v V).mono fun r w' (q : r = .returned (.int .i64 (f u v)) ∧ w' = V) => (⟨q.1, 0, q.2⟩ : r = .returned (.int .i64 (f u v)) ∧ ∃ k, w' = V.drewN k)
  have x1 := oix b1 x hx
  have x2 := oiy b1 (2 + x * 16) y hy
  have x3 := oix b2 x hx
  have x4 := oiy b2 (2 + x * 16) y hy
  have y1 := oa.hm x y hx hy
  have y2 := ob.hm x y hx hy
  generalize A x y = u at *
  generalize B x y = v at *
  clear oa ob hf
  go_enter Try.func90, Try.ntmps90
  go_upto_region 1 with fail
  go_quiet (first
    | (go_at_fn kf; exact Calls.quiet_of (kf2 _ _ _))
    | fail)
  go_wp2_with fail
  go_ret
  exact ⟨rfl, _, rfl⟩
set_option maxRecDepth 100000 in
set_option maxHeartbeats 3200000 in
theorem otog (b1 b2 n : Nat) (hn : n ≤ 8) (kf : Nat) (A B : Mx) (f : Int → Int → Int) (hf : By kf f) (w : World) (h1 : OctAt w b1 n false A) (h2 : OctAt w b2 n false B) :
    Calls Try.prog 60 #[.pointer (some ⟨b1, 0, none⟩), .pointer (some ⟨b2, 0, none⟩), .func (.func kf) #[] #[]] w fun r w' => (∃ b M, r = .returned (.pointer (some ⟨b, 0, none⟩)) ∧ w.heap.size ≤ b ∧ OctAt w' b n false M ∧ Agr n M (fun x y => f (A x y) (B x y))) ∧ Below w.heap.size w w' := by
  have hb1 : b1 < w.heap.size := World.block_lt_of_cell? w _ h1.hv
  have hb2 : b2 < w.heap.size := World.block_lt_of_cell? w _ h2.hv
  obtain ⟨W, hW⟩ : ∃ W, ((w.alloc (.cells #[.pointer (some ⟨b1, 0, none⟩)] 23)).alloc (.cells #[.pointer (some ⟨b2, 0, none⟩)] 23)).alloc (.cells #[.func (.func kf) #[] #[]] 91) = W := ⟨_, rfl⟩
  have gW : Below w.heap.size w W := by rw [← hW]; exact (((Below.refl _ _).alloc (Nat.le_refl _) _).alloc (by simp) _).alloc (by simp; omega) _
  have zW : Hid (W.heap.size = w.heap.size + 3) := by rw [← hW]; exact (show _ = _ by simp)
  have a0 : W.cell? ⟨w.heap.size, 0, none⟩ = some (.pointer (some ⟨b1, 0, none⟩)) := by rw [← hW]; simp [go_sem]
  have a1 : W.cell? ⟨w.heap.size + 1, 0, none⟩ = some (.pointer (some ⟨b2, 0, none⟩)) := by rw [← hW]; simp [go_sem]
  have a2 : W.cell? ⟨w.heap.size + 1 + 1, 0, none⟩ = some (.func (.func kf) #[] #[]) := by rw [← hW]; simp [go_sem]
  have o1 := h1.on gW
  have o2 := h2.on gW
  have hv := o1.hv
  go_enter Try.func60, Try.ntmps60
  go_upto_region 1 with fail
  (try rw [hW])
  clear hW
  iterate 13 go_step
  refine wpList_build rfl 70 _ rfl (by kernel_rfl) ?_
  generalize hV : (Program.built Try.prog 70 _).getD #[] = V
  have hV2 : V = #[.int .i64 n, .bool false] ++ Array.replicate 256 (.int .i64 0) := hV.symm.trans (by kernel_rfl)
  clear hV
  have hO : OctAt (W.alloc (.cells V 70)) W.heap.size n false (fun _ _ => 0) := by
    refine ⟨?_, ?_, fun i j hi hj => ?_, fun k => by simp [go_sem]⟩
    · rw [ocl, hV2]; exact zc0 _
    · rw [ocl, hV2]; exact zc1 _
    · rw [ocl, hV2, show 2 + i * 16 + j = 2 + (i * 16 + j) by omega]; exact zc2 _ _ (by omega)
  have gV : Below W.heap.size W (W.alloc (.cells V 70)) := (Below.refl _ _).alloc (Nat.le_refl _) _
  clear hV2
  obtain ⟨bb, hbb⟩ : ∃ bb, W.heap.size = bb := ⟨_, rfl⟩
  have HB : Hid (bb = w.heap.size + 3) := by rw [← hbb]; exact zW.out
  have hT : Tg (W.alloc (.cells V 70)) (w.heap.size + 1 + 1) w.heap.size (w.heap.size + 1) b1 b2 n kf A B := ⟨sO gV a2, sO gV a0, sO gV a1, o1.on gV, o2.on gV⟩
  have g2 := sp_call gW gV
  rw [hbb] at hO
  have kfl := ofill bb n (2 * n) false (fun _ _ => 0) rfl (by omega) 90 #[.pointer (some ⟨w.heap.size + 1 + 1, 0, none⟩), .pointer (some ⟨w.heap.size, 0, none⟩), .pointer (some ⟨w.heap.size + 1, 0, none⟩)] (fun a v => enters_of Try.func90 (by kernel_rfl) rfl a v) (fun x y => f (A x y) (B x y))
    (fun X => Tg X (w.heap.size + 1 + 1) w.heap.size (w.heap.size + 1) b1 b2 n kf A B) (fun X X' a q => by
      have h3 := HB.out
      exact ⟨q.cell (by omega) a.f, q.cell (by omega) a.p, q.cell (by omega) a.q, a.a.onl q (by omega), a.b.onl q (by omega)⟩)
    (fun x y X hx hy hX => otog1 (w.heap.size + 1 + 1) w.heap.size (w.heap.size + 1) b1 b2 n kf A B f hf x y (by omega) (by omega) X hX) _ hO hT
  clear hO hT gV a0 a1 a2 o1 o2 hv h1 h2 gW zW
  generalize hU : W.alloc (.cells V 70) = U at *
  go_wp2_with (first
    | (go_at_call 64; (try rw [hU]); (try rw [hbb]); refine kfl.mono ?_; rintro r w9 ⟨rfl, hO9, c9⟩)
    | fail)
  go_ret
  refine ⟨⟨bb, _, by rw [← hbb]; rfl, by have := HB.out; omega, hO9, pm_agr n _ _⟩, ?_⟩
  have h3 := HB.out
  exact ⟨c9.os.trans g2.os, c9.tape.trans g2.tape, c9.output.trans g2.output, Nat.le_trans g2.size c9.size, fun k hk => (c9.block k (Nat.lt_of_lt_of_le hk g2.size) (by omega)).trans (g2.block k hk)⟩
theorem Agr.bst {n : Nat} {S T T' : Mx} (h : Agr n T T') (q : Bst n S T) : Bst n S T' := q.to h
def Bin (n : Nat) (go : Mx → Mx → Bool → Mx → Prop) (e1 : Bool) (A : Mx) (e2 : Bool) (B : Mx) (e' : Bool) (T' : Mx) : Prop :=
  (e1 = true ∧ e' = e2 ∧ (e2 = false → Agr n T' B)) ∨ (e1 = false ∧ e2 = true ∧ e' = false ∧ Agr n T' A) ∨ (e1 = false ∧ e2 = false ∧ go A B e' T')
def mxS (A B : Mx) : Mx := fun a b => if B a b < A a b then A a b else B a b
def mnS (A B : Mx) : Mx := fun a b => if B a b < A a b then B a b else A a b
def wdS (A B : Mx) : Mx := fun a b => kep (A a b) (B a b)
theorem mx_cl {n : Nat} {A B : Mx} (a : Cl n A) (b : Cl n B) : Cl n (mxS A B) where
  clo := fun k hk x y hx hy => by
    have h1 := a.clo k hk x y hx hy
    have h2 := b.clo k hk x y hx hy
    unfold mxS
    split <;> split <;> split <;> omega
  hal := fun x y hx hy => by
    have h1 := a.hal x y hx hy
    have h2 := b.hal x y hx hy
    unfold mxS
    unfold fh at *
    split <;> split <;> split <;> omega
  pos := fun x hx => by
    have h1 := a.pos x hx
    unfold mxS
    split <;> omega
theorem mx_bst {n : Nat} {A B : Mx} (a : Cl n A) (b : Cl n B) : Bst n (mxS A B) (mxS A B) := ⟨mx_cl a b, Le.refl _ _, fun _ _ l => l⟩
def JoinR (n : Nat) := Bin n (fun A B e' T' => e' = false ∧ Bst n (mxS A B) T')
def WidenR (n : Nat) := Bin n (fun A B e' T' => Res n (wdS A B) e' T')
def MeetR (n : Nat) (e1 : Bool) (A : Mx) (e2 : Bool) (B : Mx) (e' : Bool) (T' : Mx) : Prop := ((e1 = true ∨ e2 = true) ∧ e' = true) ∨ (e1 = false ∧ e2 = false ∧ Res n (mnS A B) e' T')
set_option maxRecDepth 100000 in
set_option maxHeartbeats 1600000 in
theorem ojoin (b1 b2 n : Nat) (hn : n ≤ 8) (e1 e2 : Bool) (A B : Mx) (t1 : e1 = false → Tt n A) (t2 : e2 = false → Tt n B) (w : World) (h1 : OctAt w b1 n e1 A) (h2 : OctAt w b2 n e2 B) :
    Calls Try.prog 27 #[.pointer (some ⟨b1, 0, none⟩), .pointer (some ⟨b2, 0, none⟩)] w fun r w' => (∃ b e' M, r = .returned (.pointer (some ⟨b, 0, none⟩)) ∧ w.heap.size ≤ b ∧ OctAt w' b n e' M ∧ JoinR n e1 A e2 B e' M) ∧ Below w.heap.size w w' := by
  have ka := oalike b1 b2 n e1 e2 A B w h1 h2
  cases e1
  · cases e2
    · have kt := fun V h1 h2 => otog b1 b2 n hn 61 A B _ by_max V h1 h2
      have hA : ∀ M, Agr n M (mxS A B) → Hid (JoinR n false A false B false M) := fun M a => Or.inr (Or.inr ⟨rfl, rfl, rfl, a.symm.bst (mx_bst (t1 rfl).cl (t2 rfl).cl)⟩)
      clear t1 t2
      go_enter Try.func27, Try.ntmps27
      have x1 := h1.he
      have x2 := h2.he
      go_wp2_with (first
        | (go_at_call 45; refine ka.mono ?_; rintro r v1 ⟨rfl, k, rfl⟩; replace h1 := h1.drewN k; replace h2 := h2.drewN k; replace x1 := h1.he; replace x2 := h2.he)
        | (go_at_call 60; refine (kt _ h1 h2).mono ?_; rintro r v2 ⟨⟨b, M, rfl, hb, hO, a⟩, g⟩)
        | fail)
      go_ret
      exact ⟨⟨b, false, M, rfl, hb, hO, (hA M a).out⟩, ⟨g.os, g.tape, g.output, g.size, g.block⟩⟩
    · have kt := fun V h1 => ofork b1 n false A V h1
      have hA : Hid (JoinR n false A true B false A) := Or.inr (Or.inl ⟨rfl, rfl, rfl, fun _ _ _ _ => rfl⟩)
      clear t1 t2
      go_enter Try.func27, Try.ntmps27
      have x1 := h1.he
      have x2 := h2.he
      go_wp2_with (first
        | (go_at_call 45; refine ka.mono ?_; rintro r v1 ⟨rfl, k, rfl⟩; replace h1 := h1.drewN k; replace h2 := h2.drewN k; replace x1 := h1.he; replace x2 := h2.he)
        | (go_at_call 19; refine (kt _ h1).mono ?_; rintro r v2 ⟨rfl, hO, g⟩)
        | fail)
      go_ret
      exact ⟨⟨_, false, A, rfl, Nat.le_refl _, hO, hA.out⟩, ⟨g.os, g.tape, g.output, g.size, g.block⟩⟩
  · have kt := fun V h2 => ofork b2 n e2 B V h2
    have hA : Hid (JoinR n true A e2 B e2 B) := Or.inl ⟨rfl, rfl, fun _ _ _ _ _ => rfl⟩
    clear t1 t2
    go_enter Try.func27, Try.ntmps27
    have x1 := h1.he
    have x2 := h2.he
    go_wp2_with (first
      | (go_at_call 45; refine ka.mono ?_; rintro r v1 ⟨rfl, k, rfl⟩; replace h1 := h1.drewN k; replace h2 := h2.drewN k; replace x1 := h1.he; replace x2 := h2.he)
      | (go_at_call 19; refine (kt _ h2).mono ?_; rintro r v2 ⟨rfl, hO, g⟩)
      | fail)
    go_ret
    exact ⟨⟨_, e2, B, rfl, Nat.le_refl _, hO, hA.out⟩, ⟨g.os, g.tape, g.output, g.size, g.block⟩⟩
theorem Res.agr {n : Nat} {S S' T : Mx} {e : Bool} (h : Res n S e T) (a : Agr n S S') : Res n S' e T := h.at fun X _ => a.le_iff X
set_option maxRecDepth 100000 in
set_option maxHeartbeats 1600000 in
theorem owiden (b1 b2 n : Nat) (hn : n ≤ 8) (e1 e2 : Bool) (A B : Mx) (t1 : e1 = false → Tt n A) (t2 : e2 = false → Tt n B) (w : World) (h1 : OctAt w b1 n e1 A) (h2 : OctAt w b2 n e2 B) :
    Calls Try.prog 29 #[.pointer (some ⟨b1, 0, none⟩), .pointer (some ⟨b2, 0, none⟩)] w fun r w' => (∃ b e' M, r = .returned (.pointer (some ⟨b, 0, none⟩)) ∧ w.heap.size ≤ b ∧ OctAt w' b n e' M ∧ WidenR n e1 A e2 B e' M) ∧ Below w.heap.size w w' := by
  have ka := oalike b1 b2 n e1 e2 A B w h1 h2
  cases e1
  · cases e2
    · have kt := fun V h1 h2 => otog b1 b2 n hn 63 A B _ by_kept V h1 h2
      have kg := fun V b M (a : Agr n M (wdS A B)) hV => otightE b n hn M (fun x y hx hy => by
        rw [a x y hx hy]
        have := (t1 rfl).up x y hx hy
        unfold wdS kep
        split <;> omega) (fun x y hx hy => by
        rw [a x y hx hy]
        have := (t1 rfl).low hx hy
        unfold wdS kep
        split <;> omega) V hV
      have hA : ∀ M e' T, Agr n M (wdS A B) → Res n M e' T → Hid (WidenR n false A false B e' T) := fun M e' T a r => Or.inr (Or.inr ⟨rfl, rfl, r.agr a⟩)
      clear t1 t2
      go_enter Try.func29, Try.ntmps29
      have x1 := h1.he
      have x2 := h2.he
      go_wp2_with (first
        | (go_at_call 45; refine ka.mono ?_; rintro r v1 ⟨rfl, k, rfl⟩; replace h1 := h1.drewN k; replace h2 := h2.drewN k; replace x1 := h1.he; replace x2 := h2.he)
        | (go_at_call 60; refine (kt _ h1 h2).mono ?_; rintro r v2 ⟨⟨b, M, rfl, hb, hO, a⟩, g⟩)
        | (go_at_call 59; refine (kg _ _ _ a hO).mono ?_; rintro r v3 ⟨rfl, ⟨e3, T3, hO3, r3⟩, c3⟩)
        | fail)
      go_ret
      exact ⟨⟨b, e3, T3, rfl, hb, hO3, (hA M e3 T3 a r3).out⟩, ⟨c3.os.trans g.os, c3.tape.trans g.tape, c3.output.trans g.output, Nat.le_trans g.size c3.size, fun j hj => (c3.block j (Nat.lt_of_lt_of_le hj g.size) (fun q => absurd (q ▸ hj) (Nat.not_lt.2 hb))).trans (g.block j hj)⟩⟩
    · have kt := fun V h1 => ofork b1 n false A V h1
      have hA : Hid (WidenR n false A true B false A) := Or.inr (Or.inl ⟨rfl, rfl, rfl, fun _ _ _ _ => rfl⟩)
      clear t1 t2
      go_enter Try.func29, Try.ntmps29
      have x1 := h1.he
      have x2 := h2.he
      go_wp2_with (first
        | (go_at_call 45; refine ka.mono ?_; rintro r v1 ⟨rfl, k, rfl⟩; replace h1 := h1.drewN k; replace h2 := h2.drewN k; replace x1 := h1.he; replace x2 := h2.he)
        | (go_at_call 19; refine (kt _ h1).mono ?_; rintro r v2 ⟨rfl, hO, g⟩)
        | fail)
      go_ret
      exact ⟨⟨_, false, A, rfl, Nat.le_refl _, hO, hA.out⟩, ⟨g.os, g.tape, g.output, g.size, g.block⟩⟩
  · have kt := fun V h2 => ofork b2 n e2 B V h2
    have hA : Hid (WidenR n true A e2 B e2 B) := Or.inl ⟨rfl, rfl, fun _ _ _ _ _ => rfl⟩
    clear t1 t2
    go_enter Try.func29, Try.ntmps29
    have x1 := h1.he
    have x2 := h2.he
    go_wp2_with (first
      | (go_at_call 45; refine ka.mono ?_; rintro r v1 ⟨rfl, k, rfl⟩; replace h1 := h1.drewN k; replace h2 := h2.drewN k; replace x1 := h1.he; replace x2 := h2.he)
      | (go_at_call 19; refine (kt _ h2).mono ?_; rintro r v2 ⟨rfl, hO, g⟩)
      | fail)
    go_ret
    exact ⟨⟨_, e2, B, rfl, Nat.le_refl _, hO, hA.out⟩, ⟨g.os, g.tape, g.output, g.size, g.block⟩⟩
set_option maxRecDepth 100000 in
set_option maxHeartbeats 1600000 in
theorem omeet (b1 b2 n : Nat) (hn : n ≤ 8) (e1 e2 : Bool) (A B : Mx) (t1 : e1 = false → Tt n A) (t2 : e2 = false → Tt n B) (w : World) (h1 : OctAt w b1 n e1 A) (h2 : OctAt w b2 n e2 B) :
    Calls Try.prog 28 #[.pointer (some ⟨b1, 0, none⟩), .pointer (some ⟨b2, 0, none⟩)] w fun r w' => (∃ b e' M, r = .returned (.pointer (some ⟨b, 0, none⟩)) ∧ w.heap.size ≤ b ∧ OctAt w' b n e' M ∧ MeetR n e1 A e2 B e' M) ∧ Below w.heap.size w w' := by
  have ka := oalike b1 b2 n e1 e2 A B w h1 h2
  have emp : ∀ (V : World) (C : Array Value), C = #[.int .i64 n, .bool true] ++ Array.replicate 256 (.int .i64 0) → OctAt (V.alloc (.cells C 70)) V.heap.size n true (fun _ _ => 0) := fun V C hC => by
    rw [hC, ozero]
    exact OctAt.made n true (fun _ _ => 0) V
  cases e1
  · cases e2
    · have kt := fun V h1 h2 => otog b1 b2 n hn 62 A B _ by_min V h1 h2
      have kg := fun V b M (a : Agr n M (mnS A B)) hV => otightE b n hn M (fun x y hx hy => by
        rw [a x y hx hy]
        have := (t1 rfl).up x y hx hy
        unfold mnS
        split <;> omega) (fun x y hx hy => by
        rw [a x y hx hy]
        have := (t1 rfl).low hx hy
        have := (t2 rfl).low hx hy
        unfold mnS
        split <;> omega) V hV
      have hA : ∀ M e' T, Agr n M (mnS A B) → Res n M e' T → Hid (MeetR n false A false B e' T) := fun M e' T a r => Or.inr ⟨rfl, rfl, r.agr a⟩
      clear t1 t2 emp
      go_enter Try.func28, Try.ntmps28
      have x1 := h1.he
      have x2 := h2.he
      go_wp2_with (first
        | (go_at_call 45; refine ka.mono ?_; rintro r v1 ⟨rfl, k, rfl⟩; replace h1 := h1.drewN k; replace h2 := h2.drewN k; replace x1 := h1.he; replace x2 := h2.he)
        | (go_at_call 60; refine (kt _ h1 h2).mono ?_; rintro r v2 ⟨⟨b, M, rfl, hb, hO, a⟩, g⟩)
        | (go_at_call 59; refine (kg _ _ _ a hO).mono ?_; rintro r v3 ⟨rfl, ⟨e3, T3, hO3, r3⟩, c3⟩)
        | fail)
      go_ret
      exact ⟨⟨b, e3, T3, rfl, hb, hO3, (hA M e3 T3 a r3).out⟩, ⟨c3.os.trans g.os, c3.tape.trans g.tape, c3.output.trans g.output, Nat.le_trans g.size c3.size, fun j hj => (c3.block j (Nat.lt_of_lt_of_le hj g.size) (fun q => absurd (q ▸ hj) (Nat.not_lt.2 hb))).trans (g.block j hj)⟩⟩
    · have hA : ∀ M, Hid (MeetR n false A true B true M) := fun M => Or.inl ⟨Or.inr rfl, rfl⟩
      clear t1 t2
      go_enter Try.func28, Try.ntmps28
      have x0 := h1.hv
      have x1 := h1.he
      have x2 := h2.he
      go_upto_region 4 with (first
        | (go_at_call 45; refine ka.mono ?_; rintro r v1 ⟨rfl, k, rfl⟩; replace h1 := h1.drewN k; replace h2 := h2.drewN k; replace x0 := h1.hv; replace x1 := h1.he; replace x2 := h2.he)
        | fail)
      iterate 13 go_step
      refine wpList_build rfl 70 _ rfl (by kernel_rfl) ?_
      generalize hV : (Program.built Try.prog 70 _).getD #[] = V
      have hV2 : V = #[.int .i64 n, .bool true] ++ Array.replicate 256 (.int .i64 0) := hV.symm.trans (by kernel_rfl)
      clear hV
      have hO := emp (w.drewN k) V hV2
      clear hV2
      go_wp2_with fail
      go_ret
      exact ⟨⟨_, true, _, rfl, Nat.le_refl _, hO, (hA _).out⟩, (show Below w.heap.size w (w.drewN k) from ⟨rfl, rfl, rfl, Nat.le_refl _, fun _ _ => rfl⟩).alloc (Nat.le_refl _) _⟩
  · have hA : ∀ M, Hid (MeetR n true A e2 B true M) := fun M => Or.inl ⟨Or.inl rfl, rfl⟩
    clear t1 t2
    go_enter Try.func28, Try.ntmps28
    have x0 := h1.hv
    have x1 := h1.he
    have x2 := h2.he
    go_upto_region 4 with (first
      | (go_at_call 45; refine ka.mono ?_; rintro r v1 ⟨rfl, k, rfl⟩; replace h1 := h1.drewN k; replace h2 := h2.drewN k; replace x0 := h1.hv; replace x1 := h1.he; replace x2 := h2.he)
      | fail)
    iterate 13 go_step
    refine wpList_build rfl 70 _ rfl (by kernel_rfl) ?_
    generalize hV : (Program.built Try.prog 70 _).getD #[] = V
    have hV2 : V = #[.int .i64 n, .bool true] ++ Array.replicate 256 (.int .i64 0) := hV.symm.trans (by kernel_rfl)
    clear hV
    have hO := emp (w.drewN k) V hV2
    clear hV2
    go_wp2_with fail
    go_ret
    exact ⟨⟨_, true, _, rfl, Nat.le_refl _, hO, (hA _).out⟩, (show Below w.heap.size w (w.drewN k) from ⟨rfl, rfl, rfl, Nat.le_refl _, fun _ _ => rfl⟩).alloc (Nat.le_refl _) _⟩
end Go.Proofs.Ytpcbammncaeimaa


namespace Go.Proofs.Ytpcbammncaeimaa
open Go.RowKit
set_option linter.unusedVariables false
set_option linter.unusedSimpArgs false
set_option maxRecDepth 100000 in
set_option maxHeartbeats 800000 in
theorem rshiftB (R : Rf) (n : Nat) (e : Bool) (M : Mx) (i : Int) (g : Bool) (c : Int) (bad : ShfBad n i c) (w : World) (h : RefAt w R n e M) :
    Calls Try.prog 70 #[.pointer (some ⟨R.b, 0, none⟩), .int .i64 i, .bool g, .int .i64 c] w fun r w' => r = .returned (.int .i64 2) ∧ w' = w := by
  by_cases ii : Isv n i
  · have k1 := fun V hV => rhasT R n e M i ii V hV
    by_cases c1 : c < -8589934592
    · clear ii bad
      go_enter Try.func70, Try.ntmps70
      go_wp2_with (first
        | (go_at_call 74; refine (k1 _ h).mono ?_; rintro r w2 ⟨rfl, hw2⟩; subst w2)
        | fail)
      go_ret
      exact ⟨rfl, rfl⟩
    · have c2 : 8589934592 < c := by
        refine Classical.byContradiction fun q => bad ⟨ii, by omega, by omega⟩
      clear ii bad
      go_enter Try.func70, Try.ntmps70
      go_wp2_with (first
        | (go_at_call 74; refine (k1 _ h).mono ?_; rintro r w2 ⟨rfl, hw2⟩; subst w2)
        | fail)
      go_ret
      exact ⟨rfl, rfl⟩
  · have k1 := fun V hV => rhasF R n e M i ii V hV
    clear ii bad
    go_enter Try.func70, Try.ntmps70
    go_wp2_with (first
      | (go_at_call 74; refine (k1 _ h).mono ?_; rintro r w2 ⟨rfl, hw2⟩; subst w2)
      | fail)
    go_ret
    exact ⟨rfl, rfl⟩
theorem rshift (R : Rf) (n : Nat) (hn1 : 1 ≤ n) (hn : n ≤ 4) (e : Bool) (M : Mx) (i : Int) (g : Bool) (c : Int) (hT : e = false → Tt n M) (w : World) (hR : R.hi ≤ w.heap.size) (h : RefAt w R n e M) :
    Calls Try.prog 70 #[.pointer (some ⟨R.b, 0, none⟩), .int .i64 i, .bool g, .int .i64 c] w fun r w' => (∃ er, r = .returned (.int .i64 er) ∧ RefAct w' R n (ShfBad n i c) (ShfGo n i g c) e M er) ∧ Rgn R.lo R.hi w w' := by
  by_cases bad : ShfBad n i c
  · exact (rshiftB R n e M i g c bad w h).mono fun r w' q => ⟨⟨2, q.1, e, M, q.2 ▸ h, Or.inl ⟨bad, rfl, rfl, fun _ _ _ _ _ => rfl⟩⟩, q.2 ▸ Rgn.refl _ _ _⟩
  · have good := Classical.not_not.1 bad
    obtain ⟨j, rfl⟩ : ∃ j : Nat, i = j := ⟨i.toNat, by have := good.1; unfold Isv at this; omega⟩
    have hj : j < n := by have := good.1; unfold Isv at this; omega
    have ag : e = false → Agr n (shG g j c M) (clp (mv g j c M)) := fun he => shG_clp (hT he) g good.2.1 good.2.2
    refine (rshiftG R n hn1 hn e M j hj g c good.2 (fun V X a hV => rtightZ R n hn e X (fun he x y hx hy => by
      rw [a x y hx hy, ag he x y hx hy]
      have := mv_bd (i := j) (hT he) g good.2.1 good.2.2 hx hy
      unfold clp
      omega) V hV) w hR h).mono fun r w' q => ?_
    obtain ⟨h1, ⟨X, a, e', T', hO, r2⟩, h3⟩ := q
    refine ⟨⟨0, h1, e', T', hO, Or.inr ⟨bad, rfl, ?_⟩⟩, h3⟩
    rcases r2 with r2 | ⟨he, r2⟩
    · exact Or.inl r2
    · exact Or.inr ⟨he, Res.at (e := e') r2 fun Z _ => ((a.trans (ag he)).le_iff Z)⟩
set_option maxRecDepth 100000 in
theorem rfits (R1 R2 : Rf) (n : Nat) (e1 e2 : Bool) (A B : Mx) (w : World) (h1 : RefAt w R1 n e1 A) (h2 : RefAt w R2 n e2 B) : Calls Try.prog 46 #[.pointer (some ⟨R1.b, 0, none⟩), .pointer (some ⟨R2.b, 0, none⟩)] w fun r w' => r = .returned (.bool true) ∧ ∃ k, w' = w.drewN k := by
  have v1 := h1.hn
  have v2 := h2.hn
  clear h1 h2
  go_enter Try.func46, Try.ntmps46
  go_upto_region 1 with fail
  go_quiet (fail)
  go_wp2_with fail
  go_ret
  exact ⟨rfl, _, rfl⟩
def RefNew (w w' : World) (r : Ending) (n : Nat) (rel : Bool → Mx → Prop) : Prop := ∃ R e' T', r = .returned (.pointer (some ⟨R.b, 0, none⟩)) ∧ w.heap.size ≤ R.lo ∧ R.hi ≤ w'.heap.size ∧ RefAt w' R n e' T' ∧ rel e' T'
theorem below_rgn {w W W' : World} {lo hi : Nat} (h : Below w.heap.size w W) (g : Rgn lo hi W W') (hb : w.heap.size ≤ lo) : Below w.heap.size w W' :=
  ⟨g.os.trans h.os, g.tape.trans h.tape, g.output.trans h.output, Nat.le_trans h.size g.size, fun k hk => (g.block k (Nat.lt_of_lt_of_le hk h.size) (Or.inl (by omega))).trans (h.block k hk)⟩
theorem JoinR.res {n : Nat} {A B : Mx} (a : Tt n A) (b : Tt n B) {e' : Bool} {T X : Mx} (q : Agr n X (mxS A B)) (r : Res n X e' T) : JoinR n false A false B e' T := by
  obtain ⟨h1, h2⟩ := bst_res (mx_bst a.cl b.cl) (r.agr q)
  exact Or.inr (Or.inr ⟨rfl, rfl, h1, h2⟩)
set_option maxRecDepth 100000 in
set_option maxHeartbeats 3200000 in
theorem rjoin (R1 R2 : Rf) (n : Nat) (hn1 : 1 ≤ n) (hn : n ≤ 4) (e1 e2 : Bool) (A B : Mx) (t1 : e1 = false → Tt n A) (t2 : e2 = false → Tt n B) (w : World) (hR1 : R1.hi ≤ w.heap.size) (hR2 : R2.hi ≤ w.heap.size) (h1 : RefAt w R1 n e1 A) (h2 : RefAt w R2 n e2 B) :
    Calls Try.prog 71 #[.pointer (some ⟨R1.b, 0, none⟩), .pointer (some ⟨R2.b, 0, none⟩)] w fun r w' => RefNew w w' r n (JoinR n e1 A e2 B) ∧ Below w.heap.size w w' := by
  have ka := rfits R1 R2 n e1 e2 A B w h1 h2
  cases e1
  · cases e2
    · obtain ⟨m, hm⟩ : ∃ m, 2 * n = m := ⟨_, rfl⟩
      have h8 : m ≤ 8 := by omega
      have wm : IntKind.i64.wrap (2 * (n : Int)) = (m : Int) := by rw [IntKind.wrap_i64]; omega
      have hm' : Hid (2 * n = m) := hm
      have hR1' : Hid (R1.hi ≤ w.heap.size) := hR1
      have hR2' : Hid (R2.hi ≤ w.heap.size) := hR2
      have kf := fun V h1 => rfork R1 n hn1 hn false A V h1
      have kt := fun V R X (a : Agr n X (mxS A B)) hV => rtight R n hn X (fun x y hx hy => by
        rw [a x y hx hy]
        have := (t1 rfl).up x y hx hy
        have := (t2 rfl).up x y hx hy
        have := (t1 rfl).low hx hy
        have := (t2 rfl).low hx hy
        unfold mxS
        split <;> omega) V hV
      have hJ : ∀ X e' T, Agr n X (mxS A B) → Res n X e' T → Hid (JoinR n false A false B e' T) := fun X e' T q r => JoinR.res (t1 rfl) (t2 rfl) q r
      clear hm hn1 hn t1 t2 hR1 hR2
      have x1 := h1.he
      have x2 := h2.he
      go_enter Try.func71, Try.ntmps71
      go_upto_region 8 with (first
        | (go_at_call 46; refine ka.mono ?_; rintro r v1 ⟨rfl, k, rfl⟩; replace h1 := h1.drewN k; replace h2 := h2.drewN k; replace x1 := h1.he; replace x2 := h2.he)
        | (go_at_call 33; refine (kf _ h1).mono ?_; rintro r v2 ⟨⟨F, rfl, f1, f2, hF⟩, g⟩)
        | fail)
      replace h1 := h1.on g
      replace h2 := h2.on g
      have cc : Below w.heap.size w v2 := ⟨g.os, g.tape, g.output, g.size, g.block⟩
      have dF : Hid (F.lo = w.heap.size ∧ F.hi ≤ v2.heap.size) := ⟨f1, f2⟩
      clear kf ka x1 x2 f1 f2 g
      go_wp2_with fail
      obtain ⟨G, hG⟩ : ∃ G, Hid (mxS A B = G) := ⟨_, rfl⟩
      go_loopw [6] (fun j wr => ∃ (WR : World) (p : Nat) (X : Mx), WR = wr ∧ p ≤ m ∧ j = .int .i64 p ∧ RefAt wr F n false X ∧ Hid (Agm m X (pq m p 0 G A)) ∧ RefAt wr R1 n false A ∧ RefAt wr R2 n false B ∧ Hid (Rgn F.lo F.hi v2 wr)) (fun j _ => m - (intOf j).toNat)
      case atStart => exact ⟨_, 0, A, rfl, by omega, rfl, hF, pq_0 m G A, h1, h2, Rgn.refl _ _ _⟩
      case round =>
        clear hF h1 h2
        obtain ⟨WR, p, X, rfl, hp, rfl, hF, hX, h1, h2, cg⟩ := hrel
        have h0 := h1.hn
        by_cases cp : p < m
        · have cp' : (p : Int) < (m : Int) := by omega
          go_wp2_with fail
          clear h0
          go_loopw [7] (fun j wr => ∃ (WS : World) (q : Nat) (Y : Mx), WS = wr ∧ q ≤ m ∧ j = .int .i64 q ∧ RefAt wr F n false Y ∧ Hid (Agm m Y (pq m p q G A)) ∧ RefAt wr R1 n false A ∧ RefAt wr R2 n false B ∧ Hid (Rgn F.lo F.hi v2 wr)) (fun j _ => m - (intOf j).toNat)
          case atStart => exact ⟨_, 0, X, rfl, by omega, rfl, hF, hX, h1, h2, cg⟩
          case round =>
            clear hF hX h1 h2 cg
            obtain ⟨WS, q, Y, rfl, hq, rfl, hF, hY, h1, h2, cg⟩ := hrel
            have h0 := h1.hn
            by_cases cq : q < m
            · have cq' : (q : Int) < (m : Int) := by omega
              have wq : IntKind.i64.wrap ((q : Int) + 1) = ((q + 1 : Nat) : Int) := by rw [IntKind.wrap_i64]; omega
              have pn : p < 2 * n := by have := hm'.out; omega
              have qn : q < 2 * n := by have := hm'.out; omega
              have hs := hF.hs
              have r1 := hF.hr p pn
              have m1 := hF.hm p q pn qn
              have f1 := hF.fm p q pn
              have gs := h2.hs
              have gr1 := h2.hr p pn
              have gm1 := h2.hm p q pn qn
              rw [hm'.out] at hs r1 gs gr1
              have x1 := rix2 F.pb m F.pc p cp
              have x2 := rix (F.rb p) m (F.rc p) q cq
              have x3 := rix2 R2.pb m R2.pc p cp
              have x4 := rix (R2.rb p) m (R2.rc p) q cq
              have eY : Y p q = A p q := by rw [hY.out p q cp cq]; unfold pq; rw [if_neg (by omega)]
              have eG : Hid (G p q = if B p q < A p q then A p q else B p q) := by rw [← hG.out]; rfl
              rw [eY] at m1
              by_cases lt : A p q < B p q
              · have e1 : Hid (G p q = B p q) := by
                  show G p q = B p q
                  rw [eG.out, if_neg (by omega)]
                have lt' : Hid (A p q < B p q) := lt
                generalize A p q = ya at *
                generalize hyb : B p q = yb at *
                clear eG
                go_upto_region 14 with fail
                go_quiet (fail)
                replace hF := hF.drewN nq
                replace h1 := h1.drewN nq
                replace h2 := h2.drewN nq
                replace cg : Hid (Rgn F.lo F.hi v2 (WS.drewN nq)) := cg.out.drewN nq
                clear hs r1 m1 f1 gs gr1 gm1 h0
                generalize WS.drewN nq = W0 at *
                have hs := hF.hs
                have r1 := hF.hr p pn
                have m1 := hF.hm p q pn qn
                have f1 := hF.fm p q pn
                have gs := h2.hs
                have gr1 := h2.hr p pn
                have gm1 := h2.hm p q pn qn
                rw [hm'.out] at hs r1 gs gr1
                rw [hyb] at gm1
                have hset := (hF.set pn qn yb).drew
                have c6 : Hid (Rgn F.lo F.hi v2 ((W0.setCell ⟨F.rb p, q, none⟩ (.int .i64 yb)).drew)) := (cg.out.set (hF.ir p pn).1 (hF.ir p pn).2 _).drew
                have o1 : Rgn F.lo F.hi W0 ((W0.setCell ⟨F.rb p, q, none⟩ (.int .i64 yb)).drew) := ((Rgn.refl _ _ W0).set (hF.ir p pn).1 (hF.ir p pn).2 _).drew
                have k1 := h1.rgn o1 (Or.inr (by have := dF.out.1; have := hR1'.out; omega))
                have k2 := h2.rgn o1 (Or.inr (by have := dF.out.1; have := hR2'.out; omega))
                have hY2 : Hid (Agm m (ux Y p q yb) (pq m p (q + 1) G A)) := by
                  rw [← e1.out]
                  exact (ux_agm hY.out p q (G p q)).trans (pq_step G A cq)
                generalize Y p q = y0 at *
                generalize ux Y p q yb = Y2 at *
                clear hF h1 h2 cg o1 e1 hY pn qn eY hyb
                go_upto_region 15 with fail
                go_region
                go_wp2_with fail
                exact ⟨⟨_, q + 1, Y2, rfl, by omega, by simp, hset, hY2, k1, k2, c6⟩, by simp [intOf]; omega⟩
              · have e1 : G p q = A p q := by
                  rw [eG.out]
                  split <;> omega
                have hY2 : Hid (Agm m Y (pq m p (q + 1) G A)) := by
                  refine Agm.trans (fun a b ha hb => ?_) ((ux_agm hY.out p q (G p q)).trans (pq_step G A cq))
                  unfold ux
                  split
                  · rename_i k; rw [k.1, k.2, e1, eY]
                  · rfl
                generalize A p q = ya at *
                generalize B p q = yb at *
                clear eG e1 eY hY
                go_upto_region 14 with fail
                go_quiet (fail)
                go_wp2_with fail
                exact ⟨⟨_, q + 1, Y, rfl, by omega, by simp, hF.drewN _, hY2, h1.drewN _, h2.drewN _, cg.out.drewN _⟩, by simp [intOf]; omega⟩
            · have eq : q = m := by omega
              subst eq
              clear cq hq
              have wp1 : IntKind.i64.wrap ((p : Int) + 1) = ((p + 1 : Nat) : Int) := by rw [IntKind.wrap_i64]; omega
              have hY2 : Hid (Agm q Y (pq q (p + 1) 0 G A)) := hY.out.trans (pq_row G A)
              clear hY
              go_wp2_with fail
              go_roundw
              case rel => exact ⟨_, p + 1, Y, rfl, by omega, by first | rfl | go_num, hF, hY2, h1, h2, cg⟩
              case measure => simp [intOf]; omega
        · have ep : p = m := by omega
          subst ep
          clear cp hp
          have ag : Agr n X (mxS A B) := fun a b ha hb => by
            have e1 := hm'.out
            rw [hG.out]
            exact (hX.out.trans (pq_all p G A)) a b (by omega) (by omega)
          have kt2 := kt WR F X ag hF
          have ag' : Hid (Agr n X (mxS A B)) := ag
          clear kt ag hX hF
          go_wp2_with (first
            | (go_at_call 92; refine kt2.mono ?_; rintro r w5 ⟨rfl, ⟨e5, T5, hO5, r5⟩, c5⟩)
            | fail)
          go_ret
          have cz := cg.out.trans c5
          have z5 := cz.size
          exact ⟨⟨F, e5, T5, rfl, by rw [dF.out.1]; exact Nat.le_refl _, by have := dF.out.2; omega, hO5, (hJ X e5 T5 ag'.out r5).out⟩, below_rgn cc cz (by rw [dF.out.1]; exact Nat.le_refl _)⟩
    · have kt := fun V h1 => rfork R1 n hn1 hn false A V h1
      have hA : Hid (JoinR n false A true B false A) := Or.inr (Or.inl ⟨rfl, rfl, rfl, fun _ _ _ _ => rfl⟩)
      clear t1 t2
      go_enter Try.func71, Try.ntmps71
      have x1 := h1.he
      have x2 := h2.he
      go_wp2_with (first
        | (go_at_call 46; refine ka.mono ?_; rintro r v1 ⟨rfl, k, rfl⟩; replace h1 := h1.drewN k; replace h2 := h2.drewN k; replace x1 := h1.he; replace x2 := h2.he)
        | (go_at_call 33; refine (kt _ h1).mono ?_; rintro r v2 ⟨⟨F, rfl, f1, f2, hF⟩, g⟩)
        | fail)
      go_ret
      exact ⟨⟨F, false, A, rfl, by rw [f1]; exact Nat.le_refl _, f2, hF, hA.out⟩, ⟨g.os, g.tape, g.output, g.size, g.block⟩⟩
  · have kt := fun V h2 => rfork R2 n hn1 hn e2 B V h2
    have hA : Hid (JoinR n true A e2 B e2 B) := Or.inl ⟨rfl, rfl, fun _ _ _ _ _ => rfl⟩
    clear t1 t2
    go_enter Try.func71, Try.ntmps71
    have x1 := h1.he
    have x2 := h2.he
    go_wp2_with (first
      | (go_at_call 46; refine ka.mono ?_; rintro r v1 ⟨rfl, k, rfl⟩; replace h1 := h1.drewN k; replace h2 := h2.drewN k; replace x1 := h1.he; replace x2 := h2.he)
      | (go_at_call 33; refine (kt _ h2).mono ?_; rintro r v2 ⟨⟨F, rfl, f1, f2, hF⟩, g⟩)
      | fail)
    go_ret
    exact ⟨⟨F, e2, B, rfl, by rw [f1]; exact Nat.le_refl _, f2, hF, hA.out⟩, ⟨g.os, g.tape, g.output, g.size, g.block⟩⟩
end Go.Proofs.Ytpcbammncaeimaa


