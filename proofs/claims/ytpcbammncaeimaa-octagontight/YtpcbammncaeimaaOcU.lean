/- octagon: move, Shift. -/
import Derived.Test.YtpcbammncaeimaaOcS
import Derived.Test.YtpcbammncaeimaaOcT
import Derived.Test.YtpcbammncaeimaaSpL
namespace Go.Proofs.Ytpcbammncaeimaa
open Go.RowKit
set_option linter.unusedVariables false
set_option linter.unusedSimpArgs false
theorem OctAt.onl {b bo n : Nat} {e : Bool} {M : Mx} {V V' : World} (h : OctAt V bo n e M) (g : Onl b V V') (hb : bo ≠ b) : OctAt V' bo n e M :=
  ⟨g.cell hb h.hv, g.cell hb h.he, fun i j hi hj => g.cell hb (h.hm i j hi hj), fun k => (World.frozen?_of_block (g.block bo (World.block_lt_of_cell? V _ h.hv) hb)).trans (h.hf k)⟩
theorem Mv.onl {V V' : World} {b bo bi bn bc bf bg n : Nat} {e : Bool} {M : Mx} {i : Nat} {g : Bool} {c : Int} (h : Mv V bo bi bn bc bf bg n e M i g c) (q : Onl b V V') (ho : b < bo) (hi : b < bi) (hn : b < bn) (hc : b < bc) (hf : b < bf) (hg : b < bg) : Mv V' bo bi bn bc bf bg n e M i g c :=
  ⟨h.o.onl q (by omega), q.cell (by omega) h.i, q.cell (by omega) h.n, q.cell (by omega) h.c, q.cell (by omega) h.f, q.cell (by omega) h.g⟩
theorem fr_lt2 {g : Bool} {n i a : Nat} (h : a < 2 * n) : fr g i a < 2 * n := by
  unfold fr
  split
  · exact ot_lt h
  · exact h
set_option maxRecDepth 100000 in
set_option maxHeartbeats 1600000 in
theorem omove (b n : Nat) (hn : n ≤ 8) (M : Mx) (i : Nat) (hi : i < n) (g : Bool) (c : Int) (hc : -8589934592 ≤ c ∧ c ≤ 8589934592) (hM : ∀ a d, a < 2 * n → d < 2 * n → -4611686018427387904 ≤ M a d ∧ M a d ≤ 4611686018427387903) (w : World) (h : OctAt w b n false M) :
    Calls Try.prog 81 #[.pointer (some ⟨b, 0, none⟩), .int .i64 i, .bool g, .int .i64 c] w fun r w' => r = .returned (.tuple #[]) ∧ OctAt w' b n false (pm (2 * n) (2 * n) 0 (mv g i c M) M) ∧ Onl b w w' := by
  have hb : b < w.heap.size := World.block_lt_of_cell? w _ h.hv
  obtain ⟨W, hW⟩ : ∃ W, ((w.alloc (.cells #[.int .i64 i] 3)).alloc (.cells #[.bool g] 4)).alloc (.cells #[.int .i64 c] 2) = W := ⟨_, rfl⟩
  have gW : Below w.heap.size w W := by rw [← hW]; exact (((Below.refl _ _).alloc (Nat.le_refl _) _).alloc (by simp) _).alloc (by simp; omega) _
  have zW : W.heap.size = w.heap.size + 3 := by rw [← hW]; simp
  have a0 : W.cell? ⟨w.heap.size, 0, none⟩ = some (.int .i64 i) := by rw [← hW]; simp [go_sem]
  have a1 : W.cell? ⟨w.heap.size + 1, 0, none⟩ = some (.bool g) := by rw [← hW]; simp [go_sem]
  have a2 : W.cell? ⟨w.heap.size + 1 + 1, 0, none⟩ = some (.int .i64 c) := by rw [← hW]; simp [go_sem]
  have hO := h.on gW
  have he := hO.he
  have h1 := oload b n false M W hO
  have h2 := oalloc W
  have h3 := ostore n false M W
  have h4 := OctAt.made n false M W
  have h5 : Below W.heap.size W (W.alloc (.cells (octC n false M).toArray 70)) := (Below.refl _ _).alloc (Nat.le_refl _) _
  have h6 : W.heap.size < (W.alloc (.cells (octC n false M).toArray 70)).heap.size := by simp
  generalize (octC n false M).toArray = C at *
  generalize zC = Z at *
  go_enter Try.func81, Try.ntmps81
  go_upto_region 1 with fail
  (try rw [hW])
  clear hW
  have HZ : Hid (W.heap.size = w.heap.size + 3) := zW
  clear zW
  go_wp2_with fail
  refine wp_load_by 70 (.tmp 16) rfl _ _ rfl h1 ?_
  go_step
  go_step
  refine wp_alloc_by 70 rfl _ h2 ?_
  go_step
  go_step
  refine wp_store_by 70 (.tmp 8) (.tmp 17) rfl _ _ rfl rfl h3 ?_
  clear h1 h2 h3
  replace a0 := sp_cell_on h5 a0
  replace a1 := sp_cell_on h5 a1
  replace a2 := sp_cell_on h5 a2
  replace hO := hO.on h5
  have gV := sp_call gW h5
  obtain ⟨o, ho⟩ : ∃ o, W.heap.size = o := ⟨_, rfl⟩
  have HO : Hid (o = w.heap.size + 3) := by rw [← ho]; exact HZ.out
  rw [ho] at h4 h6 ⊢
  clear h5 gW HZ ho he
  generalize W.alloc (.cells C 70) = V at *
  go_upto_region 5 with fail
  obtain ⟨U, hU⟩ : ∃ U, (V.alloc (.cells #[.func (.func 98) #[] #[.pointer (some ⟨w.heap.size + 1, 0, none⟩), .pointer (some ⟨w.heap.size, 0, none⟩)]] 97)).alloc (.cells #[.func (.func 99) #[] #[.pointer (some ⟨w.heap.size, 0, none⟩), .pointer (some ⟨w.heap.size + 1 + 1, 0, none⟩)]] 84) = U := ⟨_, rfl⟩
  have gU : Below V.heap.size V U := by rw [← hU]; exact ((Below.refl _ _).alloc (Nat.le_refl _) _).alloc (by simp) _
  have f1 : U.cell? ⟨V.heap.size, 0, none⟩ = some (.func (.func 98) #[] #[.pointer (some ⟨w.heap.size + 1, 0, none⟩), .pointer (some ⟨w.heap.size, 0, none⟩)]) := by rw [← hU]; simp [go_sem]
  have f2 : U.cell? ⟨V.heap.size + 1, 0, none⟩ = some (.func (.func 99) #[] #[.pointer (some ⟨w.heap.size, 0, none⟩), .pointer (some ⟨w.heap.size + 1 + 1, 0, none⟩)]) := by rw [← hU]; simp [go_sem]
  have hm : Mv U o w.heap.size (w.heap.size + 1) (w.heap.size + 1 + 1) V.heap.size (V.heap.size + 1) n false M i g c := ⟨h4.on gU, sp_cell_on gU a0, sp_cell_on gU a1, sp_cell_on gU a2, f1, f2⟩
  have zV : w.heap.size ≤ V.heap.size := gV.size
  have kf := ofill b n (2 * n) false M rfl (by omega) 100 #[.pointer (some ⟨o, 0, none⟩), .pointer (some ⟨V.heap.size, 0, none⟩), .pointer (some ⟨V.heap.size + 1, 0, none⟩)] (fun a v => enters_of Try.func100 (by kernel_rfl) rfl a v) (mv g i c M)
    (fun X => Mv X o w.heap.size (w.heap.size + 1) (w.heap.size + 1 + 1) V.heap.size (V.heap.size + 1) n false M i g c) (fun X X' a q => a.onl q (by have := HO.out; omega) hb (by omega) (by omega) (by omega) (by omega))
    (fun a d X ha hd hX => omv3 o w.heap.size (w.heap.size + 1) (w.heap.size + 1 + 1) V.heap.size (V.heap.size + 1) n false M i (by omega) g c hc a d (by omega) (by omega) (hM _ _ (fr_lt2 ha) (fr_lt2 hd)) X hX) U (hO.on gU) hm
  have cU : Onl b w U := Onl.of (sp_call gV gU)
  clear hm f1 f2 gU gV h4 h6 a0 a1 a2 hO h HO hM
  rw [hU]
  clear hU
  go_wp2_with (first
    | (go_at_call 64; refine kf.mono ?_; rintro r w9 ⟨rfl, hO9, c9⟩)
    | fail)
  exact bodyPost_end (results_none rfl _ _ _) rfl ⟨rfl, hO9, cU.trans c9⟩
/-- A shift's own two limits change nothing where all is far from the box's ends. -/
theorem low_same {M : Mx} {x : Nat} {v : Int} (h : M x x ≤ v) (a d : Nat) : low M x x v a d = M a d := by
  have e : low1 M x x v = M := by
    funext p q
    unfold low1 up1
    split
    · rename_i k
      rw [k.1, k.2]
      omega
    · rfl
  unfold low
  rw [e, e]
set_option maxRecDepth 100000 in
set_option maxHeartbeats 1600000 in
theorem oshift (b n : Nat) (hn : n ≤ 8) (M : Mx) (i : Nat) (hi : i < n) (g : Bool) (c : Int) (hc : -8589934592 ≤ c ∧ c ≤ 8589934592) (hM : ∀ a d, a < 2 * n → d < 2 * n → -4611686018427387904 ≤ M a d ∧ M a d ≤ 2305843009213693951) (L : Mx) (eL : low (low (pm (2 * n) (2 * n) 0 (mv g i c M) M) (2 * i) (2 * i) 17179869184) (2 * i + 1) (2 * i + 1) 17179869184 = L) (u : Nat → Int) (fu : Fit n L u) (su : ∀ a, -1099511627776 ≤ u a ∧ u a ≤ 1099511627776) (w : World) (h : OctAt w b n false M) :
    Calls Try.prog 50 #[.pointer (some ⟨b, 0, none⟩), .int .i64 i, .bool g, .int .i64 c] w fun r w' => r = .returned (.int .i64 0) ∧ (∃ M', OctAt w' b n false M' ∧ Tgt n L M') ∧ Onl b w w' := by
  have hO := ob_new h (.cells #[.int .i64 i] 3)
  have cc : Onl b w (w.alloc (.cells #[.int .i64 i] 3)) := Onl.of ((Below.refl _ _).alloc (Nat.le_refl _) _)
  have kf := ofault b n false M c 8589934592 (by omega) (by omega) (by omega) (by omega) w.heap.size 1 (by omega) (fun _ => i) (fun j hj => hi) _ hO (fun j hj => by
    have : j = 0 := by omega
    subst this
    simp [go_sem])
  have km := fun V hV => omove b n hn M i hi g c hc (fun a d ha hd => by have := hM a d ha hd; omega) V hV
  have s1 := oside i (by omega) false
  have s2 := oside i (by omega) true
  have kl1 := fun V hV => olower b n (pm (2 * n) (2 * n) 0 (mv g i c M) M) (2 * i) (2 * i) (by omega) (by omega) 17179869184 V hV
  have kl2 := fun V hV => olower b n (low (pm (2 * n) (2 * n) 0 (mv g i c M) M) (2 * i) (2 * i) 17179869184) (2 * i + 1) (2 * i + 1) (by omega) (by omega) 17179869184 V hV
  have kt := fun V hV => otight b n hn L u fu su (fun a d ha hd => by
    rw [← eL]
    refine Int.le_trans (low_le _ _ _ _ _ _) (Int.le_trans (low_le _ _ _ _ _ _) ?_)
    rw [pm_all _ _ ha hd]
    have q := hM _ _ (fr_lt2 (g := g) (i := i) ha) (fr_lt2 (g := g) (i := i) hd)
    show M (fr g i a) (fr g i d) + gn i c a + gn i c d ≤ _
    have g1 : gn i c a ≤ 8589934592 := by unfold gn; split <;> (try split) <;> omega
    have g2 : gn i c d ≤ 8589934592 := by unfold gn; split <;> (try split) <;> omega
    omega) V hV
  rw [eL] at kl2
  have e1 : 2 * i + false.toNat = 2 * i := rfl
  have e2 : 2 * i + true.toNat = 2 * i + 1 := rfl
  rw [e1] at s1
  rw [e2] at s2
  clear e1 e2 eL fu hM h hc
  generalize low (pm (2 * n) (2 * n) 0 (mv g i c M) M) (2 * i) (2 * i) 17179869184 = L1 at *
  generalize pm (2 * n) (2 * n) 0 (mv g i c M) M = L0 at *
  generalize 2 * i + 1 = y at *
  generalize 2 * i = x at *
  go_enter Try.func50, Try.ntmps50
  go_wp2_with (first
    | (go_at_call 55; refine kf.mono ?_; rintro r w2 ⟨rfl, hw2⟩; subst w2)
    | (go_at_call 81; refine (km _ hO).mono ?_; rintro r w3 ⟨rfl, hO2, c3⟩; replace cc := cc.trans c3; clear c3)
    | (go_at_call_of 53 false; refine (s1 _).mono ?_; rintro r v4 ⟨rfl, hw4⟩; subst v4)
    | (go_at_call_of 53 true; refine (s2 _).mono ?_; rintro r v4 ⟨rfl, hw4⟩; subst v4)
    | (go_at_call_of 58 x; refine (kl1 _ hO2).mono ?_; rintro r w5 ⟨rfl, hO3, c5⟩; replace cc := cc.trans c5; clear c5)
    | (go_at_call_of 58 y; refine (kl2 _ hO3).mono ?_; rintro r w6 ⟨rfl, hO4, c6⟩; replace cc := cc.trans c6; clear c6)
    | (go_at_call 59; refine (kt _ hO4).mono ?_; rintro r w7 ⟨rfl, hO5, c7⟩; replace cc := cc.trans c7; clear c7)
    | fail)
  go_ret
  exact ⟨rfl, hO5, cc⟩
end Go.Proofs.Ytpcbammncaeimaa
