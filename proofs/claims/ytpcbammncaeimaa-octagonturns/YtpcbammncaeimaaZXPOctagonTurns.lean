/- Texts of the proof, put together. -/
import Derived.Test.YtpcbammncaeimaaZG1
import Derived.Test.YtpcbammncaeimaaZG2
import Derived.Test.YtpcbammncaeimaaZG3
import Derived.Test.YtpcbammncaeimaaZG4
import Derived.Test.YtpcbammncaeimaaZG5
import Derived.Test.YtpcbammncaeimaaZSpWi
import Derived.Test.YtpcbammncaeimaaZG6
import Derived.Test.YtpcbammncaeimaaZG7
import Derived.Test.YtpcbammncaeimaaZG8
import Derived.Test.YtpcbammncaeimaaZG9
import Derived.Test.YtpcbammncaeimaaZOdV
import Derived.Test.YtpcbammncaeimaaZG10
import Derived.Test.YtpcbammncaeimaaZG11
import Derived.Test.YtpcbammncaeimaaZG12
import Derived.Test.YtpcbammncaeimaaZG13
import Derived.Test.YtpcbammncaeimaaZOeE
import Derived.Test.YtpcbammncaeimaaZG14
import Derived.Test.YtpcbammncaeimaaZG15
import Derived.Test.YtpcbammncaeimaaZG16
import Derived.Deep.RegionHeld3
import Derived.OpenShut
namespace Go.Proofs.Ytpcbammncaeimaa
open Go.RowKit
set_option linter.unusedVariables false
set_option linter.unusedSimpArgs false
set_option maxRecDepth 100000 in
set_option maxHeartbeats 1600000 in
theorem owithin (b1 b2 n m : Nat) (hm : 2 * n = m) (h16 : m ≤ 16) (A B : Mx) (hAB : ∀ a c, a < m → c < m → A a c ≤ B a c) (w : World) (h1 : OctAt w b1 n false A) (h2 : OctAt w b2 n false B) :
    Calls Try.prog 16 #[.pointer (some ⟨b1, 0, none⟩), .pointer (some ⟨b2, 0, none⟩)] w fun r w' => r = .returned (.bool true) ∧ Below w.heap.size w w' := by
  have ka := oalike b1 b2 n false false A B w h1 h2
  have ks := fun V hV => osides b1 n m false A hm h16 V hV
  have k1 := fun V a ha hV => orow b1 n m false A hm h16 a ha V hV
  have k2 := fun V a ha hV => orow b2 n m false B hm h16 a ha V hV
  have e1 := h1.he
  have e2 := h2.he
  clear hm
  go_enter Try.func16, Try.ntmps16
  go_wp2_with (first
    | (go_at_call 45; refine ka.mono ?_; rintro r w1 ⟨rfl, k, rfl⟩; replace h1 := h1.drewN k; replace h2 := h2.drewN k; replace e1 := h1.he; replace e2 := h2.he)
    | (go_at_call 41; refine (ks _ h1).mono ?_; rintro r w2 ⟨rfl, hw2⟩; subst w2)
    | fail)
  clear ka ks e1 e2
  go_loopw [31] (fun i wr => ∃ (WR : World) (a : Nat), WR = wr ∧ a ≤ m ∧ i = .int .i64 a ∧ OctAt wr b1 n false A ∧ OctAt wr b2 n false B ∧ Below w.heap.size w wr) (fun i _ => m - (intOf i).toNat)
  case atStart => exact ⟨_, 0, rfl, by omega, rfl, h1, h2, ⟨rfl, rfl, rfl, Nat.le_refl _, fun _ _ => rfl⟩⟩
  case round =>
    clear h1 h2
    obtain ⟨WR, a, rfl, ha, rfl, h1, h2, cc⟩ := hrel
    by_cases ca : a < m
    · have ca' : (a : Int) < (m : Int) := by omega
      go_wp2_with (first
        | (go_at_call_of 42 b2; refine (k2 _ a ca h2).mono ?_; rintro r w3 ⟨rfl, q, rfl⟩; replace h1 := h1.drewN q; replace h2 := h2.drewN q; replace cc : Below w.heap.size w (WR.drewN q) := ⟨cc.os, cc.tape, cc.output, cc.size, cc.block⟩)
        | (go_at_call_of 42 b1; refine (k1 _ a ca h1).mono ?_; rintro r w4 ⟨rfl, q2, rfl⟩; replace h1 := h1.drewN q2; replace h2 := h2.drewN q2; replace cc : Below w.heap.size w ((WR.drewN q).drewN q2) := ⟨cc.os, cc.tape, cc.output, cc.size, cc.block⟩)
        | fail)
      go_loopw [41] (fun i wr => ∃ (WS : World) (c : Nat), WS = wr ∧ c ≤ m ∧ i = .int .i64 c ∧ OctAt wr b1 n false A ∧ OctAt wr b2 n false B ∧ Below w.heap.size w wr) (fun i _ => m - (intOf i).toNat)
      case atStart => exact ⟨_, 0, rfl, by omega, rfl, by simpa using h1, by simpa using h2, by simpa using cc⟩
      case round =>
        clear h1 h2 cc
        obtain ⟨WS, c, rfl, hc, rfl, h1, h2, cc⟩ := hrel
        by_cases cx : c < m
        · have cx' : (c : Int) < (m : Int) := by omega
          have z1 := oiz b1 (2 + a * 16) m m c cx
          have z2 := oiz b2 (2 + a * 16) m m c cx
          have y1 := h1.hm a c (by omega) (by omega)
          have y2 := h2.hm a c (by omega) (by omega)
          have le := hAB a c ca cx
          have le' : ¬ B a c < A a c := by omega
          have wc : IntKind.i64.wrap ((c : Int) + 1) = ((c + 1 : Nat) : Int) := by rw [IntKind.wrap_i64]; omega
          clear k1 k2 hAB le
          generalize A a c = p at *
          generalize B a c = q at *
          go_wp2_with fail
          exact ⟨⟨_, c + 1, rfl, by omega, by simp, h1, h2, cc⟩, by simp [intOf]; omega⟩
        · have ec : c = m := by omega
          subst ec
          clear cx hc
          have wa : IntKind.i64.wrap ((a : Int) + 1) = ((a + 1 : Nat) : Int) := by rw [IntKind.wrap_i64]; omega
          go_wp2_with fail
          go_roundw
          case rel => exact ⟨_, a + 1, rfl, by omega, by first | rfl | go_num, h1, h2, cc⟩
          case measure => simp [intOf]; omega
    · have ea : a = m := by omega
      subst ea
      clear ca ha
      go_wp2_with fail
      go_ret
      exact ⟨rfl, cc⟩
end Go.Proofs.Ytpcbammncaeimaa

namespace Go.Proofs.Ytpcbammncaeimaa
open Go.RowKit
set_option linter.unusedVariables false
set_option linter.unusedSimpArgs false
def Wi (n : Nat) (e1 : Bool) (A : Mx) (e2 : Bool) (B : Mx) : Prop := e1 = true ∨ (e1 = false ∧ e2 = false ∧ Le n A B)
theorem Agr.le {n : Nat} {A B : Mx} (h : Agr n A B) : Le n A B := fun a b ha hb => by rw [h a b ha hb]; exact Int.le_refl _
theorem Agr.ge {n : Nat} {A B : Mx} (h : Agr n A B) : Le n B A := fun a b ha hb => by rw [h a b ha hb]; exact Int.le_refl _
set_option maxRecDepth 100000 in
set_option maxHeartbeats 1600000 in
theorem owithinT (b1 b2 n : Nat) (hn : n ≤ 8) (e1 e2 : Bool) (A B : Mx) (hw : Wi n e1 A e2 B) (w : World) (h1 : OctAt w b1 n e1 A) (h2 : OctAt w b2 n e2 B) :
    Calls Try.prog 16 #[.pointer (some ⟨b1, 0, none⟩), .pointer (some ⟨b2, 0, none⟩)] w fun r w' => r = .returned (.bool true) ∧ Below w.heap.size w w' := by
  rcases hw with rfl | ⟨rfl, rfl, hl⟩
  · have ka := oalike b1 b2 n true e2 A B w h1 h2
    have q1 := h1.he
    have q2 := h2.he
    go_enter Try.func16, Try.ntmps16
    go_wp2_with (first
      | (go_at_call 45; refine ka.mono ?_; rintro r w1 ⟨rfl, k, rfl⟩; replace h1 := h1.drewN k; replace h2 := h2.drewN k; replace q1 := h1.he; replace q2 := h2.he)
      | fail)
    go_ret
    exact ⟨rfl, ⟨rfl, rfl, rfl, Nat.le_refl _, fun _ _ => rfl⟩⟩
  · exact owithin b1 b2 n (2 * n) rfl (by omega) A B hl w h1 h2
end Go.Proofs.Ytpcbammncaeimaa


namespace Go.Proofs.Ytpcbammncaeimaa
open Go.RowKit
set_option linter.unusedVariables false
set_option linter.unusedSimpArgs false
theorem le_low {n : Nat} {X M : Mx} {x y : Nat} {c : Int} (hx : x < 2 * n) (hy : y < 2 * n) : Le n X (low M x y c) ↔ Le n X M ∧ X x y ≤ c ∧ X y x ≤ c := by
  constructor
  · intro h
    refine ⟨fun a b ha hb => ?_, ?_, ?_⟩
    · have q := h a b ha hb
      simp only [low, low1, up1] at q
      repeat' split at q
      all_goals (first | omega | (rename_i k; obtain ⟨rfl, rfl⟩ := k; omega) | (rename_i k _; obtain ⟨rfl, rfl⟩ := k; omega) | (rename_i k l; obtain ⟨rfl, rfl⟩ := k; obtain ⟨rfl, l⟩ := l; omega))
    · have q := h x y hx hy
      simp only [low, low1, up1] at q
      repeat' split at q
      all_goals (first | omega | simp_all)
    · have q := h y x hy hx
      simp only [low, low1, up1] at q
      repeat' split at q
      all_goals (first | omega | simp_all)
  · intro ⟨h, h1, h2⟩ a b ha hb
    have q := h a b ha hb
    simp only [low, low1, up1]
    repeat' split
    all_goals (first | omega | (rename_i k; obtain ⟨rfl, rfl⟩ := k; omega) | (rename_i k _; obtain ⟨rfl, rfl⟩ := k; omega) | (rename_i k l; obtain ⟨rfl, rfl⟩ := k; obtain ⟨rfl, l⟩ := l; omega))
theorem lim_in {n : Nat} {i k c : Int} {gi gk e e' : Bool} {er : Int} {T T' : Mx} (t : e = false → Tt n T) (h : Act5 n (LimBad n i k c) (LimGo n i gi k gk c) e T er e' T') :
    (e' = false → Cl n T') ∧ (∀ X, Cl n X → ((e' = false ∧ Le n X T') ↔ (e = false ∧ Le n X T) ∧ (LimBad n i k c ∨ (X (sdn i gi) (sdn k gk) ≤ c ∧ X (sdn k gk) (sdn i gi) ≤ c)))) ∧ ((LimBad n i k c ∧ er = 2) ∨ (¬ LimBad n i k c ∧ er = 0)) := by
  rcases h with ⟨b, r, rfl, q⟩ | ⟨b, r, ⟨rfl, rfl⟩ | ⟨rfl, g⟩⟩
  · refine ⟨fun z => ((t z).to fun a b ha hb => (q z a b ha hb).symm).cl, fun X hX => ⟨fun z => ⟨⟨z.1, z.2.trans (q z.1).le⟩, Or.inl b⟩, fun z => ⟨z.1.1, z.1.2.trans (q z.1.1).ge⟩⟩, Or.inl ⟨b, r⟩⟩
  · exact ⟨fun z => (by cases z), fun X hX => ⟨fun z => (by cases z.1), fun z => (by cases z.1.1)⟩, Or.inr ⟨b, r⟩⟩
  · have bb := Classical.not_not.1 b
    have s1 := (sdn_lt (g := gi) bb.1)
    have s2 := (sdn_lt (g := gk) bb.2.1)
    have ll := fun X : Mx => le_low (X := X) (M := T) (c := c) s1 s2
    rcases g with ⟨rfl, g⟩ | ⟨rfl, g⟩
    · refine ⟨fun _ => g.cl, fun X hX => ⟨fun z => ?_, fun z => ⟨rfl, g.top X hX ((ll X).2 ⟨z.1.2, ?_⟩)⟩⟩, Or.inr ⟨b, r⟩⟩
      · have := (ll X).1 (z.2.trans g.le)
        exact ⟨⟨rfl, this.1⟩, Or.inr this.2⟩
      · rcases z.2 with z2 | z2
        · exact absurd z2 b
        · exact z2
    · refine ⟨fun z => (by cases z), fun X hX => ⟨fun z => (by cases z.1), fun z => ?_⟩, Or.inr ⟨b, r⟩⟩
      rcases z.2 with z2 | z2
      · exact absurd z2 b
      · exact absurd ((ll X).2 ⟨z.1.2, z2⟩) (g X hX)
theorem lim_tt {n : Nat} {i k c : Int} {gi gk e e' : Bool} {er : Int} {T T' : Mx} (t : e = false → Tt n T) (h : Act5 n (LimBad n i k c) (LimGo n i gi k gk c) e T er e' T') : e' = false → Tt n T' := by
  intro z
  have q : StpR n ⟨0, i, k, gi, gk, c, false, 0, 0⟩ e T e T er e' T' := by unfold StpR; rw [if_pos rfl]; exact h
  exact ((stp_one (fun _ _ _ _ _ => rfl) t (fun _ _ _ _ _ => rfl) t q q).2.2 z).2
theorem in_wi {n : Nat} {e f : Bool} {T U : Mx} (c : e = false → Cl n T) (h : ∀ X, Cl n X → (e = false ∧ Le n X T) → (f = false ∧ Le n X U)) : Wi n e T f U := by
  cases e
  · have := h T (c rfl) ⟨rfl, Le.refl n T⟩
    exact Or.inr ⟨rfl, this.1, this.2⟩
  · exact Or.inl rfl
end Go.Proofs.Ytpcbammncaeimaa


namespace Go.Proofs.Ytpcbammncaeimaa
open Go.RowKit
set_option linter.unusedVariables false
set_option linter.unusedSimpArgs false
theorem lw_at {W : World} {b : Nat} {t : TypeId} {z : Nat × Nat} {c : Array Value} (q : W.heap[b]? = some (.cells c t z)) (j : Nat) (v : Value) : (W.setCell ⟨b, j, none⟩ v).heap[b]? = some (.cells (c.setIfInBounds j v) t z) := by
  simp [World.setCell, Array.getElem?_modify, q]
theorem lw_off {W : World} {b c : Nat} (j : Nat) (v : Value) (h : b ≠ c) : (W.setCell ⟨b, j, none⟩ v).heap[c]? = W.heap[c]? := by
  simp [World.setCell, Array.getElem?_modify, h]
def set9 (W : World) (b : Nat) (x0 x1 x2 x3 x4 x5 x6 x7 x8 : Value) : World := (((((((((W.setCell ⟨b, 0, none⟩ x0).setCell ⟨b, 1, none⟩ x1).setCell ⟨b, 2, none⟩ x2).setCell ⟨b, 3, none⟩ x3).setCell ⟨b, 4, none⟩ x4).setCell ⟨b, 5, none⟩ x5).setCell ⟨b, 6, none⟩ x6).setCell ⟨b, 7, none⟩ x7).setCell ⟨b, 8, none⟩ x8)
theorem lw_set9 {W : World} {b : Nat} {t : TypeId} {z : Nat × Nat} {y0 y1 y2 y3 y4 y5 y6 y7 y8 : Value} (q : W.heap[b]? = some (.cells #[y0, y1, y2, y3, y4, y5, y6, y7, y8] t z)) (x0 x1 x2 x3 x4 x5 x6 x7 x8 : Value) : (set9 W b x0 x1 x2 x3 x4 x5 x6 x7 x8).heap[b]? = some (.cells #[x0, x1, x2, x3, x4, x5, x6, x7, x8] t z) := by
  have h := (lw_at (lw_at (lw_at (lw_at (lw_at (lw_at (lw_at (lw_at (lw_at q 0 x0) 1 x1) 2 x2) 3 x3) 4 x4) 5 x5) 6 x6) 7 x7) 8 x8)
  simpa [set9] using h
theorem lw_far9 {W : World} {b c : Nat} {o : Obj} (q : W.heap[c]? = some o) (x0 x1 x2 x3 x4 x5 x6 x7 x8 : Value) (h : b ≠ c) : (set9 W b x0 x1 x2 x3 x4 x5 x6 x7 x8).heap[c]? = some o := by
  rw [set9, lw_off _ _ h, lw_off _ _ h, lw_off _ _ h, lw_off _ _ h, lw_off _ _ h, lw_off _ _ h, lw_off _ _ h, lw_off _ _ h, lw_off _ _ h, q]
theorem lw_old {W : World} {c : Nat} {o : Obj} (q : W.heap[c]? = some o) (o' : Obj) : (W.alloc o').heap[c]? = some o := (Below.heap_alloc W o' c (Array.getElem?_eq_some_iff.1 q).1).trans q
theorem lw_lt {W : World} {c : Nat} {o : Obj} (q : W.heap[c]? = some o) : c < W.heap.size := (Array.getElem?_eq_some_iff.1 q).1
theorem lw_cells9 {v : World} {b : Nat} {t : TypeId} {x0 x1 x2 x3 x4 x5 x6 x7 x8 : Value} (q : v.heap[b]? = some (.cells #[x0, x1, x2, x3, x4, x5, x6, x7, x8] t (0, 0))) : v.cell? ⟨b, 0, none⟩ = some x0 ∧ v.cell? ⟨b, 1, none⟩ = some x1 ∧ v.cell? ⟨b, 2, none⟩ = some x2 ∧ v.cell? ⟨b, 3, none⟩ = some x3 ∧ v.cell? ⟨b, 4, none⟩ = some x4 ∧ v.cell? ⟨b, 5, none⟩ = some x5 ∧ v.cell? ⟨b, 6, none⟩ = some x6 ∧ v.cell? ⟨b, 7, none⟩ = some x7 ∧ v.cell? ⟨b, 8, none⟩ = some x8 ∧ ∀ j, v.frozen? ⟨b, j, none⟩ = false :=
  ⟨by simp [World.cell?, q], by simp [World.cell?, q], by simp [World.cell?, q], by simp [World.cell?, q], by simp [World.cell?, q], by simp [World.cell?, q], by simp [World.cell?, q], by simp [World.cell?, q], by simp [World.cell?, q], fun j => by simp [World.frozen?, q]⟩
theorem lw_sp9 {w W : World} (h : Below w.heap.size w W) {b : Nat} (hb : w.heap.size ≤ b) (x0 x1 x2 x3 x4 x5 x6 x7 x8 : Value) : Below w.heap.size w (set9 W b x0 x1 x2 x3 x4 x5 x6 x7 x8) := (((((((((h.setCell (p := ⟨b, 0, none⟩) hb x0).setCell (p := ⟨b, 1, none⟩) hb x1).setCell (p := ⟨b, 2, none⟩) hb x2).setCell (p := ⟨b, 3, none⟩) hb x3).setCell (p := ⟨b, 4, none⟩) hb x4).setCell (p := ⟨b, 5, none⟩) hb x5).setCell (p := ⟨b, 6, none⟩) hb x6).setCell (p := ⟨b, 7, none⟩) hb x7).setCell (p := ⟨b, 8, none⟩) hb x8)
set_option maxRecDepth 100000 in
set_option maxHeartbeats 6400000 in
theorem law_turns (nn : Int) (h0 : 0 ≤ nn) (h1 : nn ≤ 255) (sv : Value) (ds : List Dd) (a0 : Int) (a1 : Int) (a2 : Int) (a3 : Bool) (a4 : Bool) (a5 : Int) (a6 : Bool) (a7 : Int) (a8 : Int) (b0 : Int) (b1 : Int) (b2 : Int) (b3 : Bool) (b4 : Bool) (b5 : Int) (b6 : Bool) (b7 : Int) (b8 : Int) (w : World) (hs : SlDd w sv ds) :
    Calls Try.prog 10 #[.int .u8 nn, sv, .agg #[.int .i64 a0, .int .i64 a1, .int .i64 a2, .bool a3, .bool a4, .int .i64 a5, .bool a6, .int .i64 a7, .int .i64 a8, .int .i64 b0, .int .i64 b1, .int .i64 b2, .bool b3, .bool b4, .int .i64 b5, .bool b6, .int .i64 b7, .int .i64 b8]] w fun r w' => r = .returned (.bool true) ∧ Below w.heap.size w w' := by
  obtain ⟨n, hn⟩ : ∃ n : Nat, (n : Int) = nn % 4 + 1 := ⟨(nn % 4 + 1).toNat, by omega⟩
  have kp := fun V q => oplay nn h0 h1 sv ds V q n hn
  have hn4 : n ≤ 4 := by omega
  have hn8 : Hid (n ≤ 8) := (by omega : n ≤ 8)
  have kl := olive
  clear h0 h1 hn hn4
  go_enter Try.func10, Try.ntmps10
  go_upto_region 1 with fail
  generalize hW : w.alloc _ = W0
  have gW : Below w.heap.size w W0 := by rw [← hW]; exact (Below.refl _ _).alloc (Nat.le_refl _) _
  obtain ⟨bb, hbb⟩ : ∃ bb, w.heap.size = bb := ⟨_, rfl⟩
  have x0 : W0.cell? ⟨bb, 0, none⟩ = some (.int .i64 a0) := by rw [← hW, ← hbb]; simp [go_sem]
  have x1 : W0.cell? ⟨bb, 1, none⟩ = some (.int .i64 a1) := by rw [← hW, ← hbb]; simp [go_sem]
  have x2 : W0.cell? ⟨bb, 2, none⟩ = some (.int .i64 a2) := by rw [← hW, ← hbb]; simp [go_sem]
  have x3 : W0.cell? ⟨bb, 3, none⟩ = some (.bool a3) := by rw [← hW, ← hbb]; simp [go_sem]
  have x4 : W0.cell? ⟨bb, 4, none⟩ = some (.bool a4) := by rw [← hW, ← hbb]; simp [go_sem]
  have x5 : W0.cell? ⟨bb, 5, none⟩ = some (.int .i64 a5) := by rw [← hW, ← hbb]; simp [go_sem]
  have x6 : W0.cell? ⟨bb, 6, none⟩ = some (.bool a6) := by rw [← hW, ← hbb]; simp [go_sem]
  have x7 : W0.cell? ⟨bb, 7, none⟩ = some (.int .i64 a7) := by rw [← hW, ← hbb]; simp [go_sem]
  have x8 : W0.cell? ⟨bb, 8, none⟩ = some (.int .i64 a8) := by rw [← hW, ← hbb]; simp [go_sem]
  have x9 : W0.cell? ⟨bb, 9, none⟩ = some (.int .i64 b0) := by rw [← hW, ← hbb]; simp [go_sem]
  have x10 : W0.cell? ⟨bb, 10, none⟩ = some (.int .i64 b1) := by rw [← hW, ← hbb]; simp [go_sem]
  have x11 : W0.cell? ⟨bb, 11, none⟩ = some (.int .i64 b2) := by rw [← hW, ← hbb]; simp [go_sem]
  have x12 : W0.cell? ⟨bb, 12, none⟩ = some (.bool b3) := by rw [← hW, ← hbb]; simp [go_sem]
  have x13 : W0.cell? ⟨bb, 13, none⟩ = some (.bool b4) := by rw [← hW, ← hbb]; simp [go_sem]
  have x14 : W0.cell? ⟨bb, 14, none⟩ = some (.int .i64 b5) := by rw [← hW, ← hbb]; simp [go_sem]
  have x15 : W0.cell? ⟨bb, 15, none⟩ = some (.bool b6) := by rw [← hW, ← hbb]; simp [go_sem]
  have x16 : W0.cell? ⟨bb, 16, none⟩ = some (.int .i64 b7) := by rw [← hW, ← hbb]; simp [go_sem]
  have x17 : W0.cell? ⟨bb, 17, none⟩ = some (.int .i64 b8) := by rw [← hW, ← hbb]; simp [go_sem]
  have bw : Hid (Below w.heap.size w W0) := gW
  have kp1 := kp W0 (hs.on gW)
  have bw0 : Hid (w.heap.size ≤ W0.heap.size) := gW.size
  rw [hbb]
  clear gW hW kp hs hbb
  go_upto_region 4 with (first
    | (go_at_call 11; refine kp1.mono ?_; rintro r w1 ⟨bo, R, ba, Ra, e, T, T2, f, U, U2, rfl, hB⟩; clear kp1)
    | (go_at_call 12; refine (kl _).mono ?_; rintro r w2 ⟨rfl, g2⟩)
    | fail)
  have g1 := hB.bl
  have hO := hB.o.on g2
  have tt : Hid (e = false → Tt n T) := fun q => (hB.s.2 q).2
  replace x0 := sO g1 x0; replace x1 := sO g1 x1; replace x2 := sO g1 x2; replace x3 := sO g1 x3; replace x4 := sO g1 x4; replace x5 := sO g1 x5; replace x6 := sO g1 x6; replace x7 := sO g1 x7; replace x8 := sO g1 x8; replace x9 := sO g1 x9; replace x10 := sO g1 x10; replace x11 := sO g1 x11; replace x12 := sO g1 x12; replace x13 := sO g1 x13; replace x14 := sO g1 x14; replace x15 := sO g1 x15; replace x16 := sO g1 x16; replace x17 := sO g1 x17
  replace x0 := sO g2 x0; replace x1 := sO g2 x1; replace x2 := sO g2 x2; replace x3 := sO g2 x3; replace x4 := sO g2 x4; replace x5 := sO g2 x5; replace x6 := sO g2 x6; replace x7 := sO g2 x7; replace x8 := sO g2 x8; replace x9 := sO g2 x9; replace x10 := sO g2 x10; replace x11 := sO g2 x11; replace x12 := sO g2 x12; replace x13 := sO g2 x13; replace x14 := sO g2 x14; replace x15 := sO g2 x15; replace x16 := sO g2 x16; replace x17 := sO g2 x17
  replace bw : Hid (Below w.heap.size w w2) := sp_call (sp_call bw.out g1) g2
  have lo : Hid (w.heap.size ≤ bo) := Nat.le_trans bw0.out hB.z1.1
  clear hB g1 g2 kl bw0
  have kf := ofork bo n e T w2 hO
  go_upto_region 5 with (first
    | (go_at_call 19; refine kf.mono ?_; rintro r W5 ⟨rfl, hF, g⟩)
    | fail)
  obtain ⟨bf, hbf⟩ : ∃ bf, w2.heap.size = bf := ⟨_, rfl⟩
  replace x0 := sO g x0; replace x1 := sO g x1; replace x2 := sO g x2; replace x3 := sO g x3; replace x4 := sO g x4; replace x5 := sO g x5; replace x6 := sO g x6; replace x7 := sO g x7; replace x8 := sO g x8; replace x9 := sO g x9; replace x10 := sO g x10; replace x11 := sO g x11; replace x12 := sO g x12; replace x13 := sO g x13; replace x14 := sO g x14; replace x15 := sO g x15; replace x16 := sO g x16; replace x17 := sO g x17
  have sz : Hid (w.heap.size ≤ bo ∧ w.heap.size ≤ bf ∧ bo < bf ∧ bf < W5.heap.size) := by
    have z1 : bo < w2.heap.size := World.block_lt_of_cell? w2 _ hO.hv
    have z2 : w2.heap.size < W5.heap.size := World.block_lt_of_cell? W5 _ hF.hv
    have z3 := bw.out.size
    have z4 := lo.out
    exact ⟨by omega, by omega, by omega, by omega⟩
  replace hO := hO.on g
  replace bw : Hid (Below w.heap.size w W5) := sp_call bw.out g
  rw [hbf] at hF
  rw [hbf]
  clear g kf hbf lo
  have cc : Below W5.heap.size W5 W5.drew := (Below.refl _ _).drew
  go_cut [11, 12] from 32 to 35 (fun s u X => ∃ (W1 : World) (ux uy : Nat), W1 = X ∧ s = .pointer (some ⟨ux, 0, none⟩) ∧ u = .pointer (some ⟨uy, 0, none⟩) ∧ X.heap[ux]? = some (.cells #[.int .i64 a0, .int .i64 a1, .int .i64 a2, .bool a3, .bool a4, .int .i64 a5, .bool a6, .int .i64 a7, .int .i64 a8] 41) ∧ X.heap[uy]? = some (.cells #[.int .i64 b0, .int .i64 b1, .int .i64 b2, .bool b3, .bool b4, .int .i64 b5, .bool b6, .int .i64 b7, .int .i64 b8] 41) ∧ W5.heap.size ≤ ux ∧ W5.heap.size ≤ uy ∧ Below W5.heap.size W5 X)
  case first =>
   have hall : ∀ X9, Below W5.heap.size W5 X9 → (X9.cell? ⟨bb, 0, none⟩ = some (.int .i64 a0) ∧ X9.cell? ⟨bb, 1, none⟩ = some (.int .i64 a1) ∧ X9.cell? ⟨bb, 2, none⟩ = some (.int .i64 a2) ∧ X9.cell? ⟨bb, 3, none⟩ = some (.bool a3) ∧ X9.cell? ⟨bb, 4, none⟩ = some (.bool a4) ∧ X9.cell? ⟨bb, 5, none⟩ = some (.int .i64 a5) ∧ X9.cell? ⟨bb, 6, none⟩ = some (.bool a6) ∧ X9.cell? ⟨bb, 7, none⟩ = some (.int .i64 a7) ∧ X9.cell? ⟨bb, 8, none⟩ = some (.int .i64 a8) ∧ X9.cell? ⟨bb, 9, none⟩ = some (.int .i64 b0) ∧ X9.cell? ⟨bb, 10, none⟩ = some (.int .i64 b1) ∧ X9.cell? ⟨bb, 11, none⟩ = some (.int .i64 b2) ∧ X9.cell? ⟨bb, 12, none⟩ = some (.bool b3) ∧ X9.cell? ⟨bb, 13, none⟩ = some (.bool b4) ∧ X9.cell? ⟨bb, 14, none⟩ = some (.int .i64 b5) ∧ X9.cell? ⟨bb, 15, none⟩ = some (.bool b6) ∧ X9.cell? ⟨bb, 16, none⟩ = some (.int .i64 b7) ∧ X9.cell? ⟨bb, 17, none⟩ = some (.int .i64 b8)) := fun X9 cc => ⟨sO cc x0, sO cc x1, sO cc x2, sO cc x3, sO cc x4, sO cc x5, sO cc x6, sO cc x7, sO cc x8, sO cc x9, sO cc x10, sO cc x11, sO cc x12, sO cc x13, sO cc x14, sO cc x15, sO cc x16, sO cc x17⟩
   refine wp_region_held_drew (S := (fun w' => w'.cell? ⟨bb, 0, none⟩ = some (.int .i64 a0) ∧ w'.cell? ⟨bb, 1, none⟩ = some (.int .i64 a1) ∧ w'.cell? ⟨bb, 2, none⟩ = some (.int .i64 a2) ∧ w'.cell? ⟨bb, 3, none⟩ = some (.bool a3) ∧ w'.cell? ⟨bb, 4, none⟩ = some (.bool a4) ∧ w'.cell? ⟨bb, 5, none⟩ = some (.int .i64 a5) ∧ w'.cell? ⟨bb, 6, none⟩ = some (.bool a6) ∧ w'.cell? ⟨bb, 7, none⟩ = some (.int .i64 a7) ∧ w'.cell? ⟨bb, 8, none⟩ = some (.int .i64 a8) ∧ w'.cell? ⟨bb, 9, none⟩ = some (.int .i64 b0) ∧ w'.cell? ⟨bb, 10, none⟩ = some (.int .i64 b1) ∧ w'.cell? ⟨bb, 11, none⟩ = some (.int .i64 b2) ∧ w'.cell? ⟨bb, 12, none⟩ = some (.bool b3) ∧ w'.cell? ⟨bb, 13, none⟩ = some (.bool b4) ∧ w'.cell? ⟨bb, 14, none⟩ = some (.int .i64 b5) ∧ w'.cell? ⟨bb, 15, none⟩ = some (.bool b6) ∧ w'.cell? ⟨bb, 16, none⟩ = some (.int .i64 b7) ∧ w'.cell? ⟨bb, 17, none⟩ = some (.int .i64 b8))) (by kernel_rfl) (hall _ cc) (fun hH => ?_)
   refine wpAnyH_take (i := 0) (oi := _) (v := .pointer (some ⟨bb, 0, none⟩)) rfl (by kernel_rfl) (by kernel_rfl) (by kernel_rfl) (fun _ _ _ h => h) (Or.inl ⟨by rfl, fun w' hSw => by obtain ⟨zx0, zx1, zx2, zx3, zx4, zx5, zx6, zx7, zx8, zx9, zx10, zx11, zx12, zx13, zx14, zx15, zx16, zx17⟩ := hSw; go_simp⟩) hH ?_
   simp only [Act.put, List.getElem_toArray, List.getElem_cons_zero, List.getElem_cons_succ, List.setIfInBounds_toArray, List.set_cons_zero, List.set_cons_succ]
   refine wpAnyH_take (i := 1) (oi := _) (v := .agg #[.int .i64 a0, .int .i64 a1, .int .i64 a2, .bool a3, .bool a4, .int .i64 a5, .bool a6, .int .i64 a7, .int .i64 a8]) rfl (by kernel_rfl) (by kernel_rfl) (by kernel_rfl) (fun _ _ _ h => h) (Or.inl ⟨by rfl, fun w' hSw => by obtain ⟨zx0, zx1, zx2, zx3, zx4, zx5, zx6, zx7, zx8, zx9, zx10, zx11, zx12, zx13, zx14, zx15, zx16, zx17⟩ := hSw; go_simp⟩) hH ?_
   simp only [Act.put, List.getElem_toArray, List.getElem_cons_zero, List.getElem_cons_succ, List.setIfInBounds_toArray, List.set_cons_zero, List.set_cons_succ]
   refine wpAnyH_take (i := 2) (oi := _) (v := .pointer (some ⟨bb, 9, none⟩)) rfl (by kernel_rfl) (by kernel_rfl) (by kernel_rfl) (fun _ _ _ h => h) (Or.inl ⟨by rfl, fun w' hSw => by obtain ⟨zx0, zx1, zx2, zx3, zx4, zx5, zx6, zx7, zx8, zx9, zx10, zx11, zx12, zx13, zx14, zx15, zx16, zx17⟩ := hSw; go_simp⟩) hH ?_
   simp only [Act.put, List.getElem_toArray, List.getElem_cons_zero, List.getElem_cons_succ, List.setIfInBounds_toArray, List.set_cons_zero, List.set_cons_succ]
   refine wpAnyH_take (i := 3) (oi := _) (v := .agg #[.int .i64 b0, .int .i64 b1, .int .i64 b2, .bool b3, .bool b4, .int .i64 b5, .bool b6, .int .i64 b7, .int .i64 b8]) rfl (by kernel_rfl) (by kernel_rfl) (by kernel_rfl) (fun _ _ _ h => h) (Or.inl ⟨by rfl, fun w' hSw => by obtain ⟨zx0, zx1, zx2, zx3, zx4, zx5, zx6, zx7, zx8, zx9, zx10, zx11, zx12, zx13, zx14, zx15, zx16, zx17⟩ := hSw; go_simp⟩) hH ?_
   simp only [Act.put, List.getElem_toArray, List.getElem_cons_zero, List.getElem_cons_succ, List.setIfInBounds_toArray, List.set_cons_zero, List.set_cons_succ]
   generalize hY : W5.drew = Y0 at *
   clear hY
   refine wpAnyH_ready (rs := [4, 5]) (by kernel_rfl) (by simp) (AllReadyH.cons (o := _) rfl (fun K hK => ?_) (AllReadyH.cons (o := _) rfl (fun K hK => ?_) AllReadyH.nil))
   ·skip
    go_simp
    have zz0 := cc.size
    have q0 := World.alloc_heap_new Y0 (.cells #[.int .i64 0, .int .i64 0, .int .i64 0, .bool false, .bool false, .int .i64 0, .bool false, .int .i64 0, .int .i64 0] 41)
    replace cc := sp_new cc (.cells #[.int .i64 0, .int .i64 0, .int .i64 0, .bool false, .bool false, .int .i64 0, .bool false, .int .i64 0, .int .i64 0] 41)
    generalize hY : Y0.alloc (.cells #[.int .i64 0, .int .i64 0, .int .i64 0, .bool false, .bool false, .int .i64 0, .bool false, .int .i64 0, .int .i64 0] 41) = Y1 at *
    clear hY
    refine hK.out _ _ (hall _ cc) (fun hH => ?_)
    clear hK K
    try simp only [Act.put, List.getElem_toArray, List.getElem_cons_zero, List.getElem_cons_succ, List.setIfInBounds_toArray, List.set_cons_zero, List.set_cons_succ]
    refine wpAnyH_ready (rs := [5]) (by kernel_rfl) (by simp) (AllReadyH.cons (o := _) rfl (fun K hK => ?_) AllReadyH.nil)
    go_simp
    have zz1 := cc.size
    have ne0_1 : Y0.heap.size ≠ Y1.heap.size := Nat.ne_of_lt (lw_lt q0)
    replace q0 := lw_old q0 (.cells #[.int .i64 0, .int .i64 0, .int .i64 0, .bool false, .bool false, .int .i64 0, .bool false, .int .i64 0, .int .i64 0] 41)
    have q1 := World.alloc_heap_new Y1 (.cells #[.int .i64 0, .int .i64 0, .int .i64 0, .bool false, .bool false, .int .i64 0, .bool false, .int .i64 0, .int .i64 0] 41)
    replace cc := sp_new cc (.cells #[.int .i64 0, .int .i64 0, .int .i64 0, .bool false, .bool false, .int .i64 0, .bool false, .int .i64 0, .int .i64 0] 41)
    generalize hY : Y1.alloc (.cells #[.int .i64 0, .int .i64 0, .int .i64 0, .bool false, .bool false, .int .i64 0, .bool false, .int .i64 0, .int .i64 0] 41) = Y2 at *
    clear hY
    refine hK.out _ _ (hall _ cc) (fun hH => ?_)
    clear hK K
    try simp only [Act.put, List.getElem_toArray, List.getElem_cons_zero, List.getElem_cons_succ, List.setIfInBounds_toArray, List.set_cons_zero, List.set_cons_succ]
    refine wpAnyH_ready (rs := [6]) (by kernel_rfl) (by simp) (AllReadyH.cons (o := _) rfl (fun K hK => ?_) AllReadyH.nil)
    obtain ⟨q_0, q_1, q_2, q_3, q_4, q_5, q_6, q_7, q_8, qf⟩ := lw_cells9 q0
    go_simp
    clear q_0 q_1 q_2 q_3 q_4 q_5 q_6 q_7 q_8 qf
    replace q1 := lw_far9 (b := Y0.heap.size) q1 (.int .i64 a0) (.int .i64 a1) (.int .i64 a2) (.bool a3) (.bool a4) (.int .i64 a5) (.bool a6) (.int .i64 a7) (.int .i64 a8) (by first | assumption | exact Ne.symm (by assumption))
    replace q0 := lw_set9 q0 (.int .i64 a0) (.int .i64 a1) (.int .i64 a2) (.bool a3) (.bool a4) (.int .i64 a5) (.bool a6) (.int .i64 a7) (.int .i64 a8)
    replace cc := lw_sp9 (b := Y0.heap.size) cc zz0 (.int .i64 a0) (.int .i64 a1) (.int .i64 a2) (.bool a3) (.bool a4) (.int .i64 a5) (.bool a6) (.int .i64 a7) (.int .i64 a8)
    rw [show (((((((((Y2.setCell ⟨Y0.heap.size, 0, none⟩ (.int .i64 a0)).setCell ⟨Y0.heap.size, 1, none⟩ (.int .i64 a1)).setCell ⟨Y0.heap.size, 2, none⟩ (.int .i64 a2)).setCell ⟨Y0.heap.size, 3, none⟩ (.bool a3)).setCell ⟨Y0.heap.size, 4, none⟩ (.bool a4)).setCell ⟨Y0.heap.size, 5, none⟩ (.int .i64 a5)).setCell ⟨Y0.heap.size, 6, none⟩ (.bool a6)).setCell ⟨Y0.heap.size, 7, none⟩ (.int .i64 a7)).setCell ⟨Y0.heap.size, 8, none⟩ (.int .i64 a8)) = set9 Y2 Y0.heap.size (.int .i64 a0) (.int .i64 a1) (.int .i64 a2) (.bool a3) (.bool a4) (.int .i64 a5) (.bool a6) (.int .i64 a7) (.int .i64 a8) from rfl]
    generalize hY : set9 Y2 Y0.heap.size (.int .i64 a0) (.int .i64 a1) (.int .i64 a2) (.bool a3) (.bool a4) (.int .i64 a5) (.bool a6) (.int .i64 a7) (.int .i64 a8) = Y3 at *
    clear hY
    refine hK.out _ _ (hall _ cc) (fun hH => ?_)
    clear hK K
    try simp only [Act.put, List.getElem_toArray, List.getElem_cons_zero, List.getElem_cons_succ, List.setIfInBounds_toArray, List.set_cons_zero, List.set_cons_succ]
    refine wpAnyH_ready (rs := [7]) (by kernel_rfl) (by simp) (AllReadyH.cons (o := _) rfl (fun K hK => ?_) AllReadyH.nil)
    obtain ⟨q_0, q_1, q_2, q_3, q_4, q_5, q_6, q_7, q_8, qf⟩ := lw_cells9 q1
    go_simp
    clear q_0 q_1 q_2 q_3 q_4 q_5 q_6 q_7 q_8 qf
    replace q0 := lw_far9 (b := Y1.heap.size) q0 (.int .i64 b0) (.int .i64 b1) (.int .i64 b2) (.bool b3) (.bool b4) (.int .i64 b5) (.bool b6) (.int .i64 b7) (.int .i64 b8) (by first | assumption | exact Ne.symm (by assumption))
    replace q1 := lw_set9 q1 (.int .i64 b0) (.int .i64 b1) (.int .i64 b2) (.bool b3) (.bool b4) (.int .i64 b5) (.bool b6) (.int .i64 b7) (.int .i64 b8)
    replace cc := lw_sp9 (b := Y1.heap.size) cc zz1 (.int .i64 b0) (.int .i64 b1) (.int .i64 b2) (.bool b3) (.bool b4) (.int .i64 b5) (.bool b6) (.int .i64 b7) (.int .i64 b8)
    rw [show (((((((((Y3.setCell ⟨Y1.heap.size, 0, none⟩ (.int .i64 b0)).setCell ⟨Y1.heap.size, 1, none⟩ (.int .i64 b1)).setCell ⟨Y1.heap.size, 2, none⟩ (.int .i64 b2)).setCell ⟨Y1.heap.size, 3, none⟩ (.bool b3)).setCell ⟨Y1.heap.size, 4, none⟩ (.bool b4)).setCell ⟨Y1.heap.size, 5, none⟩ (.int .i64 b5)).setCell ⟨Y1.heap.size, 6, none⟩ (.bool b6)).setCell ⟨Y1.heap.size, 7, none⟩ (.int .i64 b7)).setCell ⟨Y1.heap.size, 8, none⟩ (.int .i64 b8)) = set9 Y3 Y1.heap.size (.int .i64 b0) (.int .i64 b1) (.int .i64 b2) (.bool b3) (.bool b4) (.int .i64 b5) (.bool b6) (.int .i64 b7) (.int .i64 b8) from rfl]
    generalize hY : set9 Y3 Y1.heap.size (.int .i64 b0) (.int .i64 b1) (.int .i64 b2) (.bool b3) (.bool b4) (.int .i64 b5) (.bool b6) (.int .i64 b7) (.int .i64 b8) = Y4 at *
    clear hY
    refine hK.out _ _ (hall _ cc) (fun hH => ?_)
    clear hK K
    try simp only [Act.put, List.getElem_toArray, List.getElem_cons_zero, List.getElem_cons_succ, List.setIfInBounds_toArray, List.set_cons_zero, List.set_cons_succ]
    refine wpAnyH_done (by kernel_rfl) ?_ _
    go_wp2_with fail
    go_meet
    exact ⟨_, Y0.heap.size, Y1.heap.size, rfl, rfl, rfl, q0, q1, zz0, zz1, cc⟩
   ·skip
    go_simp
    have zz1 := cc.size
    have q1 := World.alloc_heap_new Y0 (.cells #[.int .i64 0, .int .i64 0, .int .i64 0, .bool false, .bool false, .int .i64 0, .bool false, .int .i64 0, .int .i64 0] 41)
    replace cc := sp_new cc (.cells #[.int .i64 0, .int .i64 0, .int .i64 0, .bool false, .bool false, .int .i64 0, .bool false, .int .i64 0, .int .i64 0] 41)
    generalize hY : Y0.alloc (.cells #[.int .i64 0, .int .i64 0, .int .i64 0, .bool false, .bool false, .int .i64 0, .bool false, .int .i64 0, .int .i64 0] 41) = Y5 at *
    clear hY
    refine hK.out _ _ (hall _ cc) (fun hH => ?_)
    clear hK K
    try simp only [Act.put, List.getElem_toArray, List.getElem_cons_zero, List.getElem_cons_succ, List.setIfInBounds_toArray, List.set_cons_zero, List.set_cons_succ]
    refine wpAnyH_ready (rs := [4]) (by kernel_rfl) (by simp) (AllReadyH.cons (o := _) rfl (fun K hK => ?_) AllReadyH.nil)
    go_simp
    have zz0 := cc.size
    have ne0_1 : Y0.heap.size ≠ Y5.heap.size := Nat.ne_of_lt (lw_lt q1)
    replace q1 := lw_old q1 (.cells #[.int .i64 0, .int .i64 0, .int .i64 0, .bool false, .bool false, .int .i64 0, .bool false, .int .i64 0, .int .i64 0] 41)
    have q0 := World.alloc_heap_new Y5 (.cells #[.int .i64 0, .int .i64 0, .int .i64 0, .bool false, .bool false, .int .i64 0, .bool false, .int .i64 0, .int .i64 0] 41)
    replace cc := sp_new cc (.cells #[.int .i64 0, .int .i64 0, .int .i64 0, .bool false, .bool false, .int .i64 0, .bool false, .int .i64 0, .int .i64 0] 41)
    generalize hY : Y5.alloc (.cells #[.int .i64 0, .int .i64 0, .int .i64 0, .bool false, .bool false, .int .i64 0, .bool false, .int .i64 0, .int .i64 0] 41) = Y6 at *
    clear hY
    refine hK.out _ _ (hall _ cc) (fun hH => ?_)
    clear hK K
    try simp only [Act.put, List.getElem_toArray, List.getElem_cons_zero, List.getElem_cons_succ, List.setIfInBounds_toArray, List.set_cons_zero, List.set_cons_succ]
    refine wpAnyH_ready (rs := [6]) (by kernel_rfl) (by simp) (AllReadyH.cons (o := _) rfl (fun K hK => ?_) AllReadyH.nil)
    obtain ⟨q_0, q_1, q_2, q_3, q_4, q_5, q_6, q_7, q_8, qf⟩ := lw_cells9 q0
    go_simp
    clear q_0 q_1 q_2 q_3 q_4 q_5 q_6 q_7 q_8 qf
    replace q1 := lw_far9 (b := Y5.heap.size) q1 (.int .i64 a0) (.int .i64 a1) (.int .i64 a2) (.bool a3) (.bool a4) (.int .i64 a5) (.bool a6) (.int .i64 a7) (.int .i64 a8) (by first | assumption | exact Ne.symm (by assumption))
    replace q0 := lw_set9 q0 (.int .i64 a0) (.int .i64 a1) (.int .i64 a2) (.bool a3) (.bool a4) (.int .i64 a5) (.bool a6) (.int .i64 a7) (.int .i64 a8)
    replace cc := lw_sp9 (b := Y5.heap.size) cc zz0 (.int .i64 a0) (.int .i64 a1) (.int .i64 a2) (.bool a3) (.bool a4) (.int .i64 a5) (.bool a6) (.int .i64 a7) (.int .i64 a8)
    rw [show (((((((((Y6.setCell ⟨Y5.heap.size, 0, none⟩ (.int .i64 a0)).setCell ⟨Y5.heap.size, 1, none⟩ (.int .i64 a1)).setCell ⟨Y5.heap.size, 2, none⟩ (.int .i64 a2)).setCell ⟨Y5.heap.size, 3, none⟩ (.bool a3)).setCell ⟨Y5.heap.size, 4, none⟩ (.bool a4)).setCell ⟨Y5.heap.size, 5, none⟩ (.int .i64 a5)).setCell ⟨Y5.heap.size, 6, none⟩ (.bool a6)).setCell ⟨Y5.heap.size, 7, none⟩ (.int .i64 a7)).setCell ⟨Y5.heap.size, 8, none⟩ (.int .i64 a8)) = set9 Y6 Y5.heap.size (.int .i64 a0) (.int .i64 a1) (.int .i64 a2) (.bool a3) (.bool a4) (.int .i64 a5) (.bool a6) (.int .i64 a7) (.int .i64 a8) from rfl]
    generalize hY : set9 Y6 Y5.heap.size (.int .i64 a0) (.int .i64 a1) (.int .i64 a2) (.bool a3) (.bool a4) (.int .i64 a5) (.bool a6) (.int .i64 a7) (.int .i64 a8) = Y7 at *
    clear hY
    refine hK.out _ _ (hall _ cc) (fun hH => ?_)
    clear hK K
    try simp only [Act.put, List.getElem_toArray, List.getElem_cons_zero, List.getElem_cons_succ, List.setIfInBounds_toArray, List.set_cons_zero, List.set_cons_succ]
    refine wpAnyH_ready (rs := [7]) (by kernel_rfl) (by simp) (AllReadyH.cons (o := _) rfl (fun K hK => ?_) AllReadyH.nil)
    obtain ⟨q_0, q_1, q_2, q_3, q_4, q_5, q_6, q_7, q_8, qf⟩ := lw_cells9 q1
    go_simp
    clear q_0 q_1 q_2 q_3 q_4 q_5 q_6 q_7 q_8 qf
    replace q0 := lw_far9 (b := Y0.heap.size) q0 (.int .i64 b0) (.int .i64 b1) (.int .i64 b2) (.bool b3) (.bool b4) (.int .i64 b5) (.bool b6) (.int .i64 b7) (.int .i64 b8) (by first | assumption | exact Ne.symm (by assumption))
    replace q1 := lw_set9 q1 (.int .i64 b0) (.int .i64 b1) (.int .i64 b2) (.bool b3) (.bool b4) (.int .i64 b5) (.bool b6) (.int .i64 b7) (.int .i64 b8)
    replace cc := lw_sp9 (b := Y0.heap.size) cc zz1 (.int .i64 b0) (.int .i64 b1) (.int .i64 b2) (.bool b3) (.bool b4) (.int .i64 b5) (.bool b6) (.int .i64 b7) (.int .i64 b8)
    rw [show (((((((((Y7.setCell ⟨Y0.heap.size, 0, none⟩ (.int .i64 b0)).setCell ⟨Y0.heap.size, 1, none⟩ (.int .i64 b1)).setCell ⟨Y0.heap.size, 2, none⟩ (.int .i64 b2)).setCell ⟨Y0.heap.size, 3, none⟩ (.bool b3)).setCell ⟨Y0.heap.size, 4, none⟩ (.bool b4)).setCell ⟨Y0.heap.size, 5, none⟩ (.int .i64 b5)).setCell ⟨Y0.heap.size, 6, none⟩ (.bool b6)).setCell ⟨Y0.heap.size, 7, none⟩ (.int .i64 b7)).setCell ⟨Y0.heap.size, 8, none⟩ (.int .i64 b8)) = set9 Y7 Y0.heap.size (.int .i64 b0) (.int .i64 b1) (.int .i64 b2) (.bool b3) (.bool b4) (.int .i64 b5) (.bool b6) (.int .i64 b7) (.int .i64 b8) from rfl]
    generalize hY : set9 Y7 Y0.heap.size (.int .i64 b0) (.int .i64 b1) (.int .i64 b2) (.bool b3) (.bool b4) (.int .i64 b5) (.bool b6) (.int .i64 b7) (.int .i64 b8) = Y8 at *
    clear hY
    refine hK.out _ _ (hall _ cc) (fun hH => ?_)
    clear hK K
    try simp only [Act.put, List.getElem_toArray, List.getElem_cons_zero, List.getElem_cons_succ, List.setIfInBounds_toArray, List.set_cons_zero, List.set_cons_succ]
    refine wpAnyH_done (by kernel_rfl) ?_ _
    go_wp2_with fail
    go_meet
    exact ⟨_, Y5.heap.size, Y0.heap.size, rfl, rfl, rfl, q0, q1, zz0, zz1, cc⟩
  case rest =>
   obtain ⟨W6, ux, uy, rfl, rfl, rfl, q5, q6, l5, l6, cX⟩ := hcut
   replace bw : Hid (Below w.heap.size w W6) := sp_call bw.out cX
   replace hO := hO.on cX
   replace hF := hF.on cX
   have nx : Hid (ux ≠ bo ∧ ux ≠ bf ∧ uy ≠ bo ∧ uy ≠ bf ∧ bo ≠ bf ∧ w.heap.size ≤ bo ∧ w.heap.size ≤ bf ∧ w.heap.size ≤ W6.heap.size) := by
     have z := sz.out
     have z1 := bw.out.size
     exact ⟨by omega, by omega, by omega, by omega, by omega, by omega, by omega, by omega⟩
   obtain ⟨_, c1, c2, c3, c4, c5, _, _, _, _⟩ := lw_cells9 q5
   obtain ⟨_, d1, d2, d3, d4, d5, _, _, _, _⟩ := lw_cells9 q6
   clear q5 q6 l5 l6 cX cc sz x0 x1 x2 x3 x4 x5 x6 x7 x8 x9 x10 x11 x12 x13 x14 x15 x16 x17
   have k1 := olimitZ bo n hn8.out e T a1 a2 a3 a4 a5 tt.out W6 hO
   go_upto_region 7 with (first
     | (go_at_call 30; refine k1.mono ?_; rintro r w7 ⟨⟨r1, e1, T1, rfl, hO1, s1⟩, g⟩; clear k1)
     | fail)
   replace c1 := g.cell nx.out.1 c1
   replace c2 := g.cell nx.out.1 c2
   replace c3 := g.cell nx.out.1 c3
   replace c4 := g.cell nx.out.1 c4
   replace c5 := g.cell nx.out.1 c5
   replace d1 := g.cell nx.out.2.2.1 d1
   replace d2 := g.cell nx.out.2.2.1 d2
   replace d3 := g.cell nx.out.2.2.1 d3
   replace d4 := g.cell nx.out.2.2.1 d4
   replace d5 := g.cell nx.out.2.2.1 d5
   replace hF := hF.onl g (Ne.symm nx.out.2.2.2.2.1)
   replace bw : Hid (Below w.heap.size w w7) := below_onl bw.out g nx.out.2.2.2.2.2.1 nx.out.2.2.2.2.2.2.2
   have zs : Hid (w.heap.size ≤ w7.heap.size) := bw.out.size
   clear g hO
   have i1 := lim_in tt.out s1
   have tt1 : Hid (e1 = false → Tt n T1) := lim_tt tt.out s1
   have k2 := olimitZ bo n hn8.out e1 T1 b1 b2 b3 b4 b5 tt1.out w7 hO1
   go_upto_region 8 with (first
     | (go_at_call 30; refine k2.mono ?_; rintro r w8 ⟨⟨r2, e2, T3, rfl, hO2, s2⟩, g⟩; clear k2)
     | fail)
   replace c1 := g.cell nx.out.1 c1
   replace c2 := g.cell nx.out.1 c2
   replace c3 := g.cell nx.out.1 c3
   replace c4 := g.cell nx.out.1 c4
   replace c5 := g.cell nx.out.1 c5
   replace d1 := g.cell nx.out.2.2.1 d1
   replace d2 := g.cell nx.out.2.2.1 d2
   replace d3 := g.cell nx.out.2.2.1 d3
   replace d4 := g.cell nx.out.2.2.1 d4
   replace d5 := g.cell nx.out.2.2.1 d5
   replace hF := hF.onl g (Ne.symm nx.out.2.2.2.2.1)
   replace bw : Hid (Below w.heap.size w w8) := below_onl bw.out g nx.out.2.2.2.2.2.1 zs.out
   replace zs : Hid (w.heap.size ≤ w8.heap.size) := bw.out.size
   clear g hO1
   have i2 := lim_in tt1.out s2
   have k3 := olimitZ bf n hn8.out e T b1 b2 b3 b4 b5 tt.out w8 hF
   go_upto_region 9 with (first
     | (go_at_call 30; refine k3.mono ?_; rintro r w9 ⟨⟨r3, e3, T4, rfl, hF1, s3⟩, g⟩; clear k3)
     | fail)
   replace c1 := g.cell nx.out.2.1 c1
   replace c2 := g.cell nx.out.2.1 c2
   replace c3 := g.cell nx.out.2.1 c3
   replace c4 := g.cell nx.out.2.1 c4
   replace c5 := g.cell nx.out.2.1 c5
   replace hO2 := hO2.onl g nx.out.2.2.2.2.1
   replace bw : Hid (Below w.heap.size w w9) := below_onl bw.out g nx.out.2.2.2.2.2.2.1 zs.out
   replace zs : Hid (w.heap.size ≤ w9.heap.size) := bw.out.size
   clear g hF
   have i3 := lim_in tt.out s3
   have tt3 : Hid (e3 = false → Tt n T4) := lim_tt tt.out s3
   have k4 := olimitZ bf n hn8.out e3 T4 a1 a2 a3 a4 a5 tt3.out w9 hF1
   go_upto_region 10 with (first
     | (go_at_call 30; refine k4.mono ?_; rintro r v1 ⟨⟨r4, e4, T5, rfl, hF2, s4⟩, g⟩; clear k4)
     | fail)
   replace hO2 := hO2.onl g nx.out.2.2.2.2.1
   replace bw : Hid (Below w.heap.size w v1) := below_onl bw.out g nx.out.2.2.2.2.2.2.1 zs.out
   have i4 := lim_in tt3.out s4
   have w1 : Wi n e2 T3 e4 T5 := in_wi i2.1 fun X hX q => (i4.2.1 X hX).2 (by have q1 := (i2.2.1 X hX).1 q; have q2 := (i1.2.1 X hX).1 q1.1; exact ⟨(i3.2.1 X hX).2 ⟨q2.1, q1.2⟩, q2.2⟩)
   have w2' : Wi n e4 T5 e2 T3 := in_wi i4.1 fun X hX q => (i2.2.1 X hX).2 (by have q1 := (i4.2.1 X hX).1 q; have q2 := (i3.2.1 X hX).1 q1.1; exact ⟨(i1.2.1 X hX).2 ⟨q2.1, q1.2⟩, q2.2⟩)
   have ee : e4 = e2 := by
     rcases w1 with k | ⟨k, l, _⟩
     · rcases w2' with m | ⟨m, o, _⟩
       · rw [k, m]
       · rw [k] at o; cases o
     · rw [k, l]
   have r14 : r4 = r1 := by rcases i1.2.2 with ⟨k, l⟩ | ⟨k, l⟩ <;> rcases i4.2.2 with ⟨m, o⟩ | ⟨m, o⟩ <;> first | exact absurd k m | exact absurd m k | (rw [l, o])
   have r23 : r3 = r2 := by rcases i2.2.2 with ⟨k, l⟩ | ⟨k, l⟩ <;> rcases i3.2.2 with ⟨m, o⟩ | ⟨m, o⟩ <;> first | exact absurd k m | exact absurd m k | (rw [l, o])
   have ke1 := fun V q1 => oempty bo n e2 T3 V q1
   have ke2 := fun V q1 => oempty bf n e4 T5 V q1
   subst ee r14 r23
   clear i1 i2 i3 i4 s1 s2 s3 s4 g zs tt tt1 tt3 c1 c2 c3 c4 c5 d1 d2 d3 d4 d5
   have kw1 := owithinT bo bf n hn8.out _ _ _ _ w1 v1 hO2 hF2
   have kw2 := fun V q1 q2 => owithinT bf bo n hn8.out _ _ _ _ w2' V q1 q2
   clear w1 w2'
   go_wp2_with (first
     | (go_at_call 16; refine kw1.mono ?_; rintro r v2 ⟨rfl, g⟩; clear kw1; replace hO2 := hO2.on g; replace hF2 := hF2.on g; replace bw : Hid (Below w.heap.size w v2) := sp_call bw.out g; clear g)
     | (go_at_call 16; refine (kw2 _ hF2 hO2).mono ?_; rintro r v3 ⟨rfl, g⟩; clear kw2; replace hO2 := hO2.on g; replace hF2 := hF2.on g; replace bw : Hid (Below w.heap.size w v3) := sp_call bw.out g; clear g)
     | (go_at_call 21; refine (ke1 _ hO2).mono ?_; rintro r v4 ⟨rfl, hv4⟩; subst v4; clear ke1)
     | (go_at_call 21; refine (ke2 _ hF2).mono ?_; rintro r v4 ⟨rfl, hv4⟩; subst v4; clear ke2)
     | fail)
   go_ret
   exact ⟨rfl, bw.out⟩
end Go.Proofs.Ytpcbammncaeimaa


namespace Go.Proofs.Ytpcbammncaeimaa
open Go.ChangeShapes Go.WideShapes Go.ChangeAt Go.RowKit Go.Joins Go.Deep
set_option linter.unusedVariables false
set_option linter.unusedSimpArgs false
section
variable {H : Type} {enc : TypeId × Value → H} {W : World}
set_option maxRecDepth 100000 in
theorem qcs2 : Try.prog.cellsOf 58 = 18 := by kernel_rfl
set_option maxRecDepth 100000 in
theorem open_a2deed {base : Nat} {v : Value} {d : DataW H} {p : List MemPlace} (hv : Value.okWide Try.prog W .any base 58 v) (h : DataW.Trod enc Try.prog W 0 (fun _ => true) true 58 v d p) : ∃ d1 d2 : Dd, v = .agg #[.int .i64 d1.kd, .int .i64 d1.i, .int .i64 d1.k, .bool d1.ni, .bool d1.nk, .int .i64 d1.c, .bool d1.ea, .int .i64 d1.lo, .int .i64 d1.hh, .int .i64 d2.kd, .int .i64 d2.i, .int .i64 d2.k, .bool d2.ni, .bool d2.nk, .int .i64 d2.c, .bool d2.ea, .int .i64 d2.lo, .int .i64 d2.hh] ∧ ∀ x ∈ p, x.block < W.heap.size := by
  have hv0 := hv
  simp only [Value.okWide, Try.underlying58] at hv0
  obtain ⟨cs, rfl, hsz, _⟩ := hv0
  rw [qcs2] at hsz
  obtain ⟨fuel, hf⟩ := h
  simp only [Value.cells] at hf
  obtain ⟨xs, k, rfl, hx, hlen, hxl, hall⟩ := DataW.trod_array Try.underlying58 hf
  obtain ⟨y0, y1, rfl⟩ : ∃ y0 y1, xs = [y0, y1] := by
    match xs, hxl with
    | [a, b], _ => exact ⟨a, b, rfl⟩
  have q0 := hall 0 (by omega)
  have q1 := hall 1 (by omega)
  rw [sc_deed] at q0 q1
  obtain ⟨l⟩ := cs
  have hl : l.length = 18 := by simpa using hsz
  simp only [Nat.zero_mul, List.drop_zero, Nat.one_mul] at q0 q1
  obtain ⟨d1, e1, m1, _⟩ := tr_deed (by simp [hl]) q0
  obtain ⟨d2, e2, m2, _⟩ := tr_deed (by simp [hl]) q1
  have e2' : l.drop 9 = d2.cell := by
    rw [← e2, List.take_of_length_le (by simp [hl])]
  have hcs : l = d1.cell ++ d2.cell := by
    rw [← e1, ← e2', List.take_append_drop]
  refine ⟨d1, d2, by rw [hcs]; rfl, fun x hxp => ?_⟩
  simp only [Prod.mk.injEq] at hx
  rw [hx.2] at hxp
  simp [m1, m2] at hxp
end
end Go.Proofs.Ytpcbammncaeimaa


