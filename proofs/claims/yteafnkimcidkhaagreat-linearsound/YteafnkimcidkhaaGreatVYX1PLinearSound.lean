/- Texts of the proof, put together. -/
import Derived.Test.YteafnkimcidkhaaGreatVYXPLinearSound
import Derived.Test.YteafnkimcidkhaaGreatYRG1
import Derived.Test.YteafnkimcidkhaaGreatYRG2
import Derived.Test.YteafnkimcidkhaaGreatYRSpWf
import Derived.Test.YteafnkimcidkhaaGreatShelf
import Derived.Test.YteafnkimcidkhaaGreatYRMB1
import Derived.Test.YteafnkimcidkhaaGreatYRMB2
import Derived.Test.YteafnkimcidkhaaGreatYRMB3
import Derived.Test.YteafnkimcidkhaaGreatYRSpF
import Derived.Test.YteafnkimcidkhaaGreatYRSpFl
import Derived.Test.YteafnkimcidkhaaGreatYRLjF
import Derived.Test.YteafnkimcidkhaaGreatYRLjH
import Derived.Test.YteafnkimcidkhaaGreatYRG3
import Derived.Test.YteafnkimcidkhaaGreatYRLiF
import Derived.Test.YteafnkimcidkhaaGreatYRLiG
import Derived.Test.YteafnkimcidkhaaGreatYRLiH
import Derived.Test.YteafnkimcidkhaaGreatYRLiI
import Derived.Test.YteafnkimcidkhaaGreatYRLiJ
import Derived.Test.YteafnkimcidkhaaGreatYRLiK
import Derived.Test.YteafnkimcidkhaaGreatYRLiL
import Derived.Test.YteafnkimcidkhaaGreatYRLiB
import Derived.Test.YteafnkimcidkhaaGreatYRMB4
import Derived.Test.YteafnkimcidkhaaGreatYRMB5
import Derived.Test.YteafnkimcidkhaaGreatYRLiO
import Derived.Test.YteafnkimcidkhaaGreatYRG5
import Derived.Test.YteafnkimcidkhaaGreatYRG4
import Derived.Test.YteafnkimcidkhaaGreatYRG6
import Derived.Test.YteafnkimcidkhaaGreatYRG7
import Derived.Test.YteafnkimcidkhaaGreatYRG8
import Derived.Test.YteafnkimcidkhaaGreatYRG9
import Derived.Test.YteafnkimcidkhaaGreatYRXPTopForms
import Derived.Test.YteafnkimcidkhaaGreatYRX1PTopForms
import Derived.Test.YteafnkimcidkhaaGreatVYRX2PTopForms
import Derived.Deep.DeepCutAuto
import Derived.BigQuiet
import Derived.LoopN
import Derived.Handy
import Derived.Deep.OwnRows
import Derived.Deep.QuietTactic
import Derived.Deep.CutRange
import Derived.WalkKit
import Derived.Laws.AppendOwnNone
import Derived.Deep.RegionHeld3
import Derived.Deep.RegionHeld
import Derived.OwnWalk
import Derived.Below
import Derived.Laws.AppendOwn
import Derived.Deep.RegionWith
namespace Go.Proofs.YteafnkimcidkhaaGreat
open Go.RowKit Go.Shelf
set_option linter.unusedVariables false
set_option linter.unusedSimpArgs false
theorem ls_of (n : Int) (h : Sm n) (V : World) : Calls Tryz.prog 42 #[.int .i64 0, .int .u64 (mI n), .int .u64 (mI n)] V fun e w' => e = .returned (.agg #[.bool false, .int .u64 (mI n), .int .u64 (mI n)]) ∧ Below V.heap.size V w' := by
  have := rofF_any false (mI n) (mI n) (mI_word h) (mI_word h) V
  rw [show rOfF false (mI n) (mI n) = pt n from by have := of_pi h; rwa [FF_fi h] at this] at this
  exact this
set_option maxRecDepth 100000 in
theorem ls_exact (n : Int) (h : Sm n) (w : World) : Calls Tryz.prog 43 #[.int .i64 n] w fun e w' => e = .returned (.int .u64 (mI n)) ∧ Below w.heap.size w w' := by
  have hn : n.natAbs < 9007199254740992 := h
  have k : ∀ V, Calls Tryz.prog 84 #[.int .i64 0, .int .i64 0, .int .i64 n] V fun e w' => e = .returned (.int .u64 (mI n)) ∧ Below V.heap.size V w' := fun V => by
    have := rfrom3_any false 0 n (by omega) (by omega) V
    rw [show rnd false 0 (decide (n < 0)) n.natAbs 0 = FF n from rfl, FF_fi h] at this
    exact this
  go_enter Tryz.func43, Tryz.ntmps43
  go_wp2_with (first | (go_at_call 84; (with_reducible refine (k _).mono ?_); rintro e v ⟨rfl, g⟩) | fail)
  go_ret
  exact ⟨rfl, g⟩
theorem ls_neg {B n : Nat} {F Y : Zf} (hF : OkZ B n F) (hB : B < 9007199254740992) (hn : n ≤ 16) (e : negP (ofZ F) = ofZ Y) (v : Value) (V : World) (t : TAt V v (tI F.2)) :
    Calls Tryz.prog 33 #[.agg #[.bool false, .bool false, .int .u64 (mI F.1), .int .u64 (mI F.1), v]] V fun e w' => ToldZ Y V.heap.size e w' ∧ Below V.heap.size V w' := by
  have := form_neg (ofZ F) (hF.fok hB hn) v V t
  rw [e] at this
  exact this
theorem ls_sub {B B' n n' : Nat} {F G Y : Zf} (hF : OkZ B n F) (hG : OkZ B' n' G) (hB : B < 9007199254740992) (hB' : B' < 9007199254740992) (hn : n ≤ 16) (hn' : n' ≤ 16) (e : subP (ofZ F) (ofZ G) = ofZ Y) (v u : Value) (V : World) (t : TAt V v (tI F.2)) (t' : TAt V u (tI G.2)) :
    Calls Tryz.prog 31 #[.agg #[.bool false, .bool false, .int .u64 (mI F.1), .int .u64 (mI F.1), v], .agg #[.bool false, .bool false, .int .u64 (mI G.1), .int .u64 (mI G.1), u]] V fun e w' => ToldZ Y V.heap.size e w' ∧ Below V.heap.size V w' := by
  have := form_sub (ofZ F) (ofZ G) (hF.fok hB hn) (hG.fok hB' hn') v u V t t'
  rw [e] at this
  exact this
theorem ls_cell {w : World} {b : Nat} {x y z : Value} {t : TypeId} (q : w.heap[b]? = some (.cells #[x, y, z] t (0, 0))) : ∀ (j : Nat) v, [x, y, z][j]? = some v → w.cell? (Addr.add ⟨b, 0, none⟩ j) = some v := by
  intro j v h
  match j, h with
  | 0, h => simp at h; subst h; simp [World.cell?, q, Addr.add]
  | 1, h => simp at h; subst h; simp [World.cell?, q, Addr.add]
  | 2, h => simp at h; subst h; simp [World.cell?, q, Addr.add]
  | j + 3, h => simp at h
def c10 (F : Nat → Zf) (v : Nat → Value) : Array Value := #[.bool false, .bool false, .int .u64 (mI (F 0).1), .int .u64 (mI (F 0).1), v 0, .bool false, .bool false, .int .u64 (mI (F 1).1), .int .u64 (mI (F 1).1), v 1]
def set5o (W : World) (b o : Nat) (x0 x1 x2 x3 x4 : Value) : World := ((((W.setCell ⟨b, o, none⟩ x0).setCell ⟨b, o + 1, none⟩ x1).setCell ⟨b, o + 2, none⟩ x2).setCell ⟨b, o + 3, none⟩ x3).setCell ⟨b, o + 4, none⟩ x4
def Aw (V : World) (B7 B8 : Nat) (n : Nat) (v : Value) : Prop := n = 0 ∨ ∃ b o p, v = .slice (some ⟨b, o, none⟩) n p ∧ b < V.heap.size ∧ b ≠ B7 ∧ b ≠ B8
structure SF (c k a : Nat → Int) (bc bk ba B7 B8 base : Nat) (w V : World) (F : Nat → Zf) (v : Nat → Value) (s : Nat → Int) : Prop where
  bw : Below w.heap.size w V
  cc : ∀ j, j < 2 → V.cell? ⟨bc, j, none⟩ = some (.int .i16 (c j))
  kk : ∀ j, j < 6 → V.cell? ⟨bk, j, none⟩ = some (.int .i16 (k j))
  aa : ∀ j, j < 4 → V.cell? ⟨ba, j, none⟩ = some (.int .i16 (a j))
  q7 : V.heap[B7]? = some (.cells (c10 F v) 32 (0, 0))
  q8 : V.heap[B8]? = some (.cells #[.int .i64 (s 0), .int .i64 (s 1)] 66 (0, 0))
  t : ∀ i, i < 2 → TAt V (v i) (tI (F i).2)
  fr : ∀ i, i < 2 → Aw V B7 B8 (F i).2.length (v i)
  nb : bc < base ∧ bk < base ∧ ba < base ∧ B7 < base ∧ B8 < base ∧ base ≤ V.heap.size ∧ w.heap.size ≤ B7 ∧ w.heap.size ≤ B8 ∧ w.heap.size ≤ base ∧ B7 ≠ B8 ∧ B7 ≠ bc ∧ B7 ≠ bk ∧ B7 ≠ ba ∧ B8 ≠ bc ∧ B8 ≠ bk ∧ B8 ≠ ba
theorem Aw.on {V V' : World} {B7 B8 n : Nat} {v : Value} (h : Aw V B7 B8 n v) (g : V.heap.size ≤ V'.heap.size) : Aw V' B7 B8 n v := h.imp id fun ⟨b, o, p, e, k, l⟩ => ⟨b, o, p, e, Nat.lt_of_lt_of_le k g, l⟩
theorem SF.on {c k a : Nat → Int} {bc bk ba B7 B8 base : Nat} {w V : World} {F : Nat → Zf} {v : Nat → Value} {s : Nat → Int} {V' : World} (h : SF c k a bc bk ba B7 B8 base w V F v s) (g : Below V.heap.size V V') : SF c k a bc bk ba B7 B8 base w V' F v s :=
  ⟨sp_call h.bw g, fun j i => sO g (h.cc j i), fun j i => sO g (h.kk j i), fun j i => sO g (h.aa j i), lw_on g h.q7, lw_on g h.q8, fun i hi => (h.t i hi).on g, fun i hi => (h.fr i hi).on g.size, by have := h.nb; have := g.size; omega⟩
theorem SF.kept {c k a : Nat → Int} {bc bk ba B7 B8 base : Nat} {w V : World} {F : Nat → Zf} {v : Nat → Value} {s : Nat → Int} {V' : World} (h : SF c k a bc bk ba B7 B8 base w V F v s) (bw : Below w.heap.size w V') (sz : V.heap.size ≤ V'.heap.size) (kb : ∀ b, b < base → V'.heap[b]? = V.heap[b]?) (he : ∀ i, i < 2 → (F i).2 = []) : SF c k a bc bk ba B7 B8 base w V' F v s := by
  have nb := h.nb
  have kc : ∀ b x, b < base → V'.cell? ⟨b, x, none⟩ = V.cell? ⟨b, x, none⟩ := fun b x hb => World.cell?_of_block (w := V) (w' := V') (a := ⟨b, x, none⟩) (kb b hb)
  refine ⟨bw, fun j i => (kc _ _ (by omega)).trans (h.cc j i), fun j i => (kc _ _ (by omega)).trans (h.kk j i), fun j i => (kc _ _ (by omega)).trans (h.aa j i), (kb _ (by omega)).trans h.q7, (kb _ (by omega)).trans h.q8, fun i hi => ?_, fun i hi => (h.fr i hi).on sz, by omega⟩
  have t := h.t i hi
  rw [he i hi] at t ⊢
  exact TAt.emp t
theorem TAt.aw {V V' : World} {v : Value} {B B7 B8 : Nat} {l : List (Int × Int)} (h : TAt V v (tI l)) (fr : Aw V B7 B8 l.length v) (hB : B = B7 ∨ B = B8) (kb : ∀ b, b ≠ B → V'.heap[b]? = V.heap[b]?) : TAt V' v (tI l) := by
  rcases fr with e | ⟨b, o, p, e, _, n1, n2⟩
  · rw [List.length_eq_zero_iff.1 e] at h ⊢
    exact TAt.emp h
  · exact h.blk e (kb b (by rcases hB with rfl | rfl <;> assumption))
theorem SF.form {c k a : Nat → Int} {bc bk ba B7 B8 base : Nat} {w V : World} {F : Nat → Zf} {v : Nat → Value} {s : Nat → Int} {Z : Zf} {rv : Value} {n i : Nat} (h : SF c k a bc bk ba B7 B8 base w V F v s) (hi : i < 2) (t : TAt V rv (tI Z.2)) (u : Up n rv) (hn : base ≤ n) :
    SF c k a bc bk ba B7 B8 base w (set5o V B7 (i * 5) (.bool false) (.bool false) (.int .u64 (mI Z.1)) (.int .u64 (mI Z.1)) rv) (fun j => if j = i then Z else F j) (fun j => if j = i then rv else v j) s := by
  have nb := h.nb
  have kb : ∀ b, b ≠ B7 → (set5o V B7 (i * 5) (.bool false) (.bool false) (.int .u64 (mI Z.1)) (.int .u64 (mI Z.1)) rv).heap[b]? = V.heap[b]? := fun b hb => by
    unfold set5o
    rw [Below.heap_setCell _ _ _ _ hb, Below.heap_setCell _ _ _ _ hb, Below.heap_setCell _ _ _ _ hb, Below.heap_setCell _ _ _ _ hb, Below.heap_setCell _ _ _ _ hb]
  have ks : (set5o V B7 (i * 5) (.bool false) (.bool false) (.int .u64 (mI Z.1)) (.int .u64 (mI Z.1)) rv).heap.size = V.heap.size := by unfold set5o; simp [go_sem]
  have q7 : (set5o V B7 (i * 5) (.bool false) (.bool false) (.int .u64 (mI Z.1)) (.int .u64 (mI Z.1)) rv).heap[B7]? = some (.cells (c10 (fun j => if j = i then Z else F j) (fun j => if j = i then rv else v j)) 32 (0, 0)) := by
    have e := (lw_at (lw_at (lw_at (lw_at (lw_at h.q7 (i * 5) (.bool false)) (i * 5 + 1) (.bool false)) (i * 5 + 2) (.int .u64 (mI Z.1))) (i * 5 + 3) (.int .u64 (mI Z.1))) (i * 5 + 4) rv)
    unfold set5o
    rw [e]
    rcases (show i = 0 ∨ i = 1 by omega) with rfl | rfl <;> simp [c10]
  have bw : Below w.heap.size w (set5o V B7 (i * 5) (.bool false) (.bool false) (.int .u64 (mI Z.1)) (.int .u64 (mI Z.1)) rv) :=
    ((((h.bw.setCell (p := ⟨B7, i * 5, none⟩) nb.2.2.2.2.2.2.1 _).setCell (p := ⟨B7, i * 5 + 1, none⟩) nb.2.2.2.2.2.2.1 _).setCell (p := ⟨B7, i * 5 + 2, none⟩) nb.2.2.2.2.2.2.1 _).setCell (p := ⟨B7, i * 5 + 3, none⟩) nb.2.2.2.2.2.2.1 _).setCell (p := ⟨B7, i * 5 + 4, none⟩) nb.2.2.2.2.2.2.1 _
  generalize set5o V B7 (i * 5) (.bool false) (.bool false) (.int .u64 (mI Z.1)) (.int .u64 (mI Z.1)) rv = V' at *
  have kc : ∀ b x, b ≠ B7 → V'.cell? ⟨b, x, none⟩ = V.cell? ⟨b, x, none⟩ := fun b x hb => World.cell?_of_block (w := V) (w' := V') (a := ⟨b, x, none⟩) (kb b hb)
  have tZ : TAt V' rv (tI Z.2) ∧ Aw V' B7 B8 Z.2.length rv := by
    rcases t with ⟨t1, t2⟩ | ⟨b, o, p, e, l, m⟩
    · refine ⟨Or.inl ⟨t1, t2⟩, Or.inl ?_⟩
      rw [← tI_len, t2]
      rfl
    · have ub := u b o _ _ e
      refine ⟨(show TAt V rv (tI Z.2) from Or.inr ⟨b, o, p, e, l, m⟩).blk e (kb b (by omega)), ?_⟩
      rw [tI_len] at e
      by_cases e0 : Z.2 = []
      · exact Or.inl (by rw [e0]; rfl)
      · refine Or.inr ⟨b, o, p, e, ?_, by omega, by omega⟩
        cases hz : Z.2 with
        | nil => exact absurd hz e0
        | cons x xs =>
          have := (m 0 (x.1, pt x.2) (by rw [hz]; rfl)).1
          rw [ks]
          exact World.block_lt_of_cell? V _ this
  refine ⟨bw, fun j i => (kc _ _ (by omega)).trans (h.cc j i), fun j i => (kc _ _ (by omega)).trans (h.kk j i), fun j i => (kc _ _ (by omega)).trans (h.aa j i), q7, (kb _ (by omega)).trans h.q8, fun j hj => ?_, fun j hj => ?_, by omega⟩
  · show TAt V' (if j = i then rv else v j) (tI (if j = i then Z else F j).2)
    split
    · exact tZ.1
    · exact (h.t j hj).aw (h.fr j hj) (Or.inl rfl) kb
  · show Aw V' B7 B8 (if j = i then Z else F j).2.length (if j = i then rv else v j)
    split
    · exact tZ.2
    · exact (h.fr j hj).on (by omega)
theorem SF.sum {c k a : Nat → Int} {bc bk ba B7 B8 base : Nat} {w V : World} {F : Nat → Zf} {v : Nat → Value} {s : Nat → Int} {i : Nat} (h : SF c k a bc bk ba B7 B8 base w V F v s) (hi : i < 2) (x : Int) : SF c k a bc bk ba B7 B8 base w (V.setCell ⟨B8, i, none⟩ (.int .i64 x)) F v (fun j => if j = i then x else s j) := by
  have nb := h.nb
  have kb : ∀ b, b ≠ B8 → (V.setCell ⟨B8, i, none⟩ (.int .i64 x)).heap[b]? = V.heap[b]? := fun b hb => Below.heap_setCell _ _ _ _ hb
  have ks : (V.setCell ⟨B8, i, none⟩ (.int .i64 x)).heap.size = V.heap.size := by simp [go_sem]
  have q8 : (V.setCell ⟨B8, i, none⟩ (.int .i64 x)).heap[B8]? = some (.cells #[.int .i64 (if 0 = i then x else s 0), .int .i64 (if 1 = i then x else s 1)] 66 (0, 0)) := by
    rw [lw_at h.q8 i _]
    rcases (show i = 0 ∨ i = 1 by omega) with rfl | rfl <;> simp
  have bw := h.bw.setCell (p := ⟨B8, i, none⟩) nb.2.2.2.2.2.2.2.1 (.int .i64 x)
  generalize V.setCell ⟨B8, i, none⟩ (.int .i64 x) = V' at *
  have kc : ∀ b x, b ≠ B8 → V'.cell? ⟨b, x, none⟩ = V.cell? ⟨b, x, none⟩ := fun b x hb => World.cell?_of_block (w := V) (w' := V') (a := ⟨b, x, none⟩) (kb b hb)
  exact ⟨bw, fun j i => (kc _ _ (by omega)).trans (h.cc j i), fun j i => (kc _ _ (by omega)).trans (h.kk j i), fun j i => (kc _ _ (by omega)).trans (h.aa j i), (kb _ (by omega)).trans h.q7, q8, fun j hj => (h.t j hj).aw (h.fr j hj) (Or.inr rfl) kb, fun j hj => (h.fr j hj).on (by omega), by omega⟩
theorem SF.at7 {c k a : Nat → Int} {bc bk ba B7 B8 base : Nat} {w V : World} {F : Nat → Zf} {v : Nat → Value} {s : Nat → Int} {i : Nat} (h : SF c k a bc bk ba B7 B8 base w V F v s) (hi : i < 2) : V.cell? ⟨B7, i * 5, none⟩ = some (.bool false) ∧ V.cell? ⟨B7, i * 5 + 1, none⟩ = some (.bool false) ∧ V.cell? ⟨B7, i * 5 + 2, none⟩ = some (.int .u64 (mI (F i).1)) ∧ V.cell? ⟨B7, i * 5 + 3, none⟩ = some (.int .u64 (mI (F i).1)) ∧ V.cell? ⟨B7, i * 5 + 4, none⟩ = some (v i) ∧ ∀ j, V.frozen? ⟨B7, j, none⟩ = false := by
  have q := h.q7
  refine ⟨?_, ?_, ?_, ?_, ?_, fun j => by simp [World.frozen?, q]⟩ <;> rcases (show i = 0 ∨ i = 1 by omega) with rfl | rfl <;> simp [World.cell?, q, c10]
theorem SF.at8 {c k a : Nat → Int} {bc bk ba B7 B8 base : Nat} {w V : World} {F : Nat → Zf} {v : Nat → Value} {s : Nat → Int} {i : Nat} (h : SF c k a bc bk ba B7 B8 base w V F v s) (hi : i < 2) : V.cell? ⟨B8, i, none⟩ = some (.int .i64 (s i)) ∧ ∀ j, V.frozen? ⟨B8, j, none⟩ = false := by
  have q := h.q8
  refine ⟨?_, fun j => by simp [World.frozen?, q]⟩
  rcases (show i = 0 ∨ i = 1 by omega) with rfl | rfl <;> simp [World.cell?, q]
structure VF (a : Nat → Int) (B7 B8 : Nat) (V : World) (vv : Value) : Prop where
  r : RAt V vv (ptl a 3)
  fr : Aw V B7 B8 3 vv
theorem VF.on {a : Nat → Int} {B7 B8 : Nat} {V V' : World} {vv : Value} (h : VF a B7 B8 V vv) (g : Below V.heap.size V V') : VF a B7 B8 V' vv := ⟨h.r.on g, h.fr.on g.size⟩
theorem VF.off {a : Nat → Int} {B7 B8 B : Nat} {V V' : World} {vv : Value} (h : VF a B7 B8 V vv) (hB : B = B7 ∨ B = B8) (sz : V.heap.size ≤ V'.heap.size) (kb : ∀ b, b ≠ B → V'.heap[b]? = V.heap[b]?) : VF a B7 B8 V' vv := by
  refine ⟨?_, h.fr.on sz⟩
  rcases h.fr with e | ⟨b, o, p, e, _, n1, n2⟩
  · cases e
  · rcases h.r with ⟨e1, e2⟩ | ⟨b', o', p', e', l, m⟩
    · exact Or.inl ⟨e1, e2⟩
    · rw [e'] at e
      cases e
      have kc : ∀ x, V'.cell? ⟨b, x, none⟩ = V.cell? ⟨b, x, none⟩ := fun x => World.cell?_of_block (w := V) (w' := V') (a := ⟨b, x, none⟩) (kb b (by rcases hB with rfl | rfl <;> assumption))
      refine Or.inr ⟨b, o, p, e', l, fun j r hj => ?_⟩
      rw [kc, kc, kc]
      exact m j r hj
theorem VF.set5o {a : Nat → Int} {B7 B8 o : Nat} {V : World} {vv x0 x1 x2 x3 x4 : Value} (h : VF a B7 B8 V vv) : VF a B7 B8 (set5o V B7 o x0 x1 x2 x3 x4) vv :=
  h.off (Or.inl rfl) (by unfold Proofs.YteafnkimcidkhaaGreat.set5o; simp [go_sem]) (fun b hb => by
    unfold Proofs.YteafnkimcidkhaaGreat.set5o
    rw [Below.heap_setCell _ _ _ _ hb, Below.heap_setCell _ _ _ _ hb, Below.heap_setCell _ _ _ _ hb, Below.heap_setCell _ _ _ _ hb, Below.heap_setCell _ _ _ _ hb])
theorem VF.set {a : Nat → Int} {B7 B8 o : Nat} {V : World} {vv x : Value} (h : VF a B7 B8 V vv) : VF a B7 B8 (V.setCell ⟨B8, o, none⟩ x) vv :=
  h.off (Or.inr rfl) (by simp [go_sem]) (fun b hb => Below.heap_setCell _ _ _ _ hb)
theorem ixA {t e : TypeId} {n sz : Nat} (hu : Tryz.prog.underlying t = some (.array (Tryz.prog.arrayLen t) (Tryz.prog.elem t))) (hn : Tryz.prog.arrayLen t = n) (hs : ∀ w, (sizeOf (Tryz.prog.elem t)).run Tryz.prog w = .ok sz w) (b o j : Nat) (h : j < n) : ∀ w, (Instr.indexAt t (.pointer (some ⟨b, o, none⟩)) (.int .i64 j)).run Tryz.prog w = .ok (.pointer (some ⟨b, o + j * sz, none⟩)) w := by
  intro w
  rw [run_indexAt_array (h := hu), hn, if_pos ⟨by omega, by omega⟩, hs]
  simp [go_sem]
set_option maxRecDepth 100000 in
theorem ix7 (b j : Nat) (h : j < 2) : ∀ w, (Instr.indexAt 32 (.pointer (some ⟨b, 0, none⟩)) (.int .i64 j)).run Tryz.prog w = .ok (.pointer (some ⟨b, j * 5, none⟩)) w := by
  have := ixA (t := 32) (e := 31) (n := 2) (sz := 5) Tryz.underlying32 (by kernel_rfl) (fun w => by kernel_rfl) b 0 j h
  rwa [Nat.zero_add] at this
set_option maxRecDepth 100000 in
theorem ix8 (b j : Nat) (h : j < 2) : ∀ w, (Instr.indexAt 66 (.pointer (some ⟨b, 0, none⟩)) (.int .i64 j)).run Tryz.prog w = .ok (.pointer (some ⟨b, j, none⟩)) w := by
  have := ixA (t := 66) (e := 2) (n := 2) (sz := 1) Tryz.underlying66 (by kernel_rfl) (fun w => by kernel_rfl) b 0 j h
  rwa [Nat.zero_add, Nat.mul_one] at this
set_option maxRecDepth 100000 in
theorem ixc (b j : Nat) (h : j < 2) : ∀ w, (Instr.indexAt 62 (.pointer (some ⟨b, 0, none⟩)) (.int .i64 j)).run Tryz.prog w = .ok (.pointer (some ⟨b, j, none⟩)) w := by
  have := ixA (t := 62) (e := 61) (n := 2) (sz := 1) Tryz.underlying62 (by kernel_rfl) (fun w => by kernel_rfl) b 0 j h
  rwa [Nat.zero_add, Nat.mul_one] at this
set_option maxRecDepth 100000 in
theorem ixa (b j : Nat) (h : j < 4) : ∀ w, (Instr.indexAt 65 (.pointer (some ⟨b, 0, none⟩)) (.int .i64 j)).run Tryz.prog w = .ok (.pointer (some ⟨b, j, none⟩)) w := by
  have := ixA (t := 65) (e := 61) (n := 4) (sz := 1) Tryz.underlying65 (by kernel_rfl) (fun w => by kernel_rfl) b 0 j h
  rwa [Nat.zero_add, Nat.mul_one] at this
set_option maxRecDepth 100000 in
theorem ixk1 (b j : Nat) (h : j < 2) : ∀ w, (Instr.indexAt 64 (.pointer (some ⟨b, 0, none⟩)) (.int .i64 j)).run Tryz.prog w = .ok (.pointer (some ⟨b, j * 3, none⟩)) w := by
  have := ixA (t := 64) (e := 63) (n := 2) (sz := 3) Tryz.underlying64 (by kernel_rfl) (fun w => by kernel_rfl) b 0 j h
  rwa [Nat.zero_add] at this
set_option maxRecDepth 100000 in
theorem ixk2 (b o j : Nat) (h : j < 3) : ∀ w, (Instr.indexAt 63 (.pointer (some ⟨b, o, none⟩)) (.int .i64 j)).run Tryz.prog w = .ok (.pointer (some ⟨b, o + j, none⟩)) w := by
  have := ixA (t := 63) (e := 61) (n := 3) (sz := 1) Tryz.underlying63 (by kernel_rfl) (fun w => by kernel_rfl) b o j h
  rwa [Nat.mul_one] at this
theorem ixS {t e : TypeId} {sz : Nat} (hu : Tryz.prog.underlying t = some (.slice (Tryz.prog.elem t))) (hs : ∀ w, (sizeOf (Tryz.prog.elem t)).run Tryz.prog w = .ok sz w) (b m c j : Nat) (hj : j < m) (w : World) : (Instr.indexAt t (.slice (some ⟨b, 0, none⟩) m c) (.int .i64 j)).run Tryz.prog w = .ok (.pointer (some ⟨b, j * sz, none⟩)) w := by
  rw [run_indexAt_slice (h := hu), if_pos ⟨by omega, by omega⟩, hs]
  simp [go_sem]
set_option maxRecDepth 100000 in
theorem ix15 (b j : Nat) (h : j < 4) : ∀ w, (Instr.indexAt 69 (.slice (some ⟨b, 0, none⟩) 4 4) (.int .i64 j)).run Tryz.prog w = .ok (.pointer (some ⟨b, j * 5, none⟩)) w :=
  fun w => ixS (t := 69) (e := 31) (sz := 5) Tryz.underlying69 (fun w => by kernel_rfl) b 4 4 j h w
set_option maxRecDepth 100000 in
theorem ix16 (b j : Nat) (h : j < 4) : ∀ w, (Instr.indexAt 70 (.slice (some ⟨b, 0, none⟩) 4 4) (.int .i64 j)).run Tryz.prog w = .ok (.pointer (some ⟨b, j, none⟩)) w := fun w => by
  have := ixS (t := 70) (e := 2) (sz := 1) Tryz.underlying70 (fun w => by kernel_rfl) b 4 4 j h w
  rwa [Nat.mul_one] at this
def c20 (Z : Nat → Zf) (r : Nat → Value) : Array Value := #[.bool false, .bool false, .int .u64 (mI (Z 0).1), .int .u64 (mI (Z 0).1), r 0, .bool false, .bool false, .int .u64 (mI (Z 1).1), .int .u64 (mI (Z 1).1), r 1, .bool false, .bool false, .int .u64 (mI (Z 2).1), .int .u64 (mI (Z 2).1), r 2, .bool false, .bool false, .int .u64 (mI (Z 3).1), .int .u64 (mI (Z 3).1), r 3]
structure RF (a : Nat → Int) (b15 : Nat) (V : World) (Z : Nat → Zf) (r : Nat → Value) : Prop where
  q : V.heap[b15]? = some (.cells (c20 Z r) 31 (0, 0))
  t : ∀ m, m < 4 → TAt V (r m) (tI (Z m).2)
theorem RF.on {a : Nat → Int} {b15 : Nat} {V V' : World} {Z : Nat → Zf} {r : Nat → Value} (h : RF a b15 V Z r) (g : Below V.heap.size V V') : RF a b15 V' Z r := ⟨lw_on g h.q, fun m hm => (h.t m hm).on g⟩
theorem RF.at {a : Nat → Int} {b15 : Nat} {V : World} {Z : Nat → Zf} {r : Nat → Value} (h : RF a b15 V Z r) {m : Nat} (hm : m < 4) : V.cell? ⟨b15, m * 5, none⟩ = some (.bool false) ∧ V.cell? ⟨b15, m * 5 + 1, none⟩ = some (.bool false) ∧ V.cell? ⟨b15, m * 5 + 2, none⟩ = some (.int .u64 (mI (Z m).1)) ∧ V.cell? ⟨b15, m * 5 + 3, none⟩ = some (.int .u64 (mI (Z m).1)) ∧ V.cell? ⟨b15, m * 5 + 4, none⟩ = some (r m) := by
  have q := h.q
  refine ⟨?_, ?_, ?_, ?_, ?_⟩ <;> rcases (show m = 0 ∨ m = 1 ∨ m = 2 ∨ m = 3 by omega) with rfl | rfl | rfl | rfl <;> simp [World.cell?, q, c20]
theorem four_at {V : World} {b : Nat} {t : TypeId} {y : Nat → Int} (q : V.heap[b]? = some (.cells #[.int .i64 (y 0), .int .i64 (y 1), .int .i64 (y 2), .int .i64 (y 3)] t (0, 0))) {m : Nat} (hm : m < 4) : V.cell? ⟨b, m, none⟩ = some (.int .i64 (y m)) := by
  rcases (show m = 0 ∨ m = 1 ∨ m = 2 ∨ m = 3 by omega) with rfl | rfl | rfl | rfl <;> simp [World.cell?, q]
theorem OkZ.mono {B B' n n' : Nat} {F : Zf} (h : OkZ B n F) (hB : B ≤ B') (hn : n ≤ n') : OkZ B' n' F :=
  ⟨⟨Nat.le_trans h.bz.1 hB, fun t ht => ⟨Nat.le_trans (h.bz.2 t ht).1 hB, (h.bz.2 t ht).2⟩⟩, Nat.le_trans h.len hn, h.fr⟩
structure SG (a : Nat → Int) (i : Nat) (Z : Zf) (s : Int) : Prop where
  ok : OkZ (32768 * (i + 1)) i Z
  vl : vlZ (fun k => if k = 0 then a 0 else if k = 1 then a 1 else a 2) Z = s
  sm : s.natAbs ≤ 32768 + 1073741824 * i
theorem ls_step {Z : Zf} {i : Nat} (hi : i < 3) (h : OkZ (32768 * (i + 1)) i Z) (x : Int) (hx : x.natAbs ≤ 32768) : ∃ Y Z', scaP (ofZ (0, [((i : Int), 1)])) (pt x) = ofZ Y ∧ OkZ 32768 1 Y ∧ addP (ofZ Z) (ofZ Y) = ofZ Z' ∧ OkZ (32768 * (i + 1 + 1)) (i + 1) Z' ∧ ∀ at', vlZ at' Z' = vlZ at' Z + x * at' i := by
  obtain ⟨o1, _⟩ := okz_v (k := (i : Int)) (by omega) (by omega)
  obtain ⟨Y, e1, k1, v1⟩ := sca_z (C := 32768) o1 (by decide) (by decide) x 32768 hx (by decide) (by decide) (by decide)
  obtain ⟨Z', e2, k2, v2⟩ := add_z h k1 (by omega) (by omega)
  refine ⟨Y, Z', e1, k1, e2, by rw [Nat.mul_add 32768 (i + 1) 1]; exact k2, fun at' => ?_⟩
  rw [v2, v1]
  simp [vlZ, vlL]
theorem SG.step {a : Nat → Int} {i : Nat} {Z Z' : Zf} {s x : Int} (h : SG a i Z s) (hi : i < 3) (ok : OkZ (32768 * (i + 1 + 1)) (i + 1) Z') (hv : ∀ at', vlZ at' Z' = vlZ at' Z + x * at' i) (hx : x.natAbs ≤ 32768) (ha : (a i).natAbs ≤ 32768) : SG a (i + 1) Z' (s + x * a i) := by
  have pb : (x * a i).natAbs ≤ 1073741824 := by rw [Int.natAbs_mul]; exact Nat.le_trans (Nat.mul_le_mul hx ha) (by decide)
  have sm := h.sm
  refine ⟨ok, ?_, by omega⟩
  rw [hv, h.vl]
  congr 2
  rcases (show i = 0 ∨ i = 1 ∨ i = 2 by omega) with rfl | rfl | rfl <;> simp
end Go.Proofs.YteafnkimcidkhaaGreat


namespace Go.Proofs.YteafnkimcidkhaaGreat
open Go.RowKit
set_option linter.unusedVariables false
set_option linter.unusedSimpArgs false
theorem sp_below {W w w' : World} (h : Below W.heap.size W w) (g : Below w.heap.size w w') : Below W.heap.size W w' := h.trans (g.mono h.size)
def fillT (T : Array Value) (ds : List Nat) (g : Nat → Value) : Array Value := ds.foldl (fun T d => T.setIfInBounds d (g d)) T
theorem fillT_size (ds : List Nat) (g : Nat → Value) : ∀ T : Array Value, (fillT T ds g).size = T.size := by
  induction ds with
  | nil => intro T; rfl
  | cons d ds ih =>
    intro T
    show (fillT (T.setIfInBounds d (g d)) ds g).size = T.size
    rw [ih, Array.size_setIfInBounds]
theorem fillT_at (ds : List Nat) (g : Nat → Value) (k : Nat) : ∀ T : Array Value, (fillT T ds g)[k]? = if k ∈ ds ∧ k < T.size then some (g k) else T[k]? := by
  induction ds with
  | nil => intro T; rw [if_neg (fun h => by cases h.1)]; rfl
  | cons d ds ih =>
    intro T
    show (fillT (T.setIfInBounds d (g d)) ds g)[k]? = _
    rw [ih, Array.size_setIfInBounds, Array.getElem?_setIfInBounds]
    by_cases hk : k < T.size
    · by_cases h1 : k ∈ ds
      · rw [if_pos ⟨h1, hk⟩, if_pos ⟨List.mem_cons_of_mem _ h1, hk⟩]
      · rw [if_neg (fun h => h1 h.1)]
        by_cases h2 : d = k
        · subst h2
          rw [if_pos rfl, if_pos hk, if_pos ⟨List.mem_cons_self, hk⟩]
        · rw [if_neg h2, if_neg (fun h => (List.mem_cons.1 h.1).elim (fun e => h2 e.symm) h1)]
    · rw [if_neg (fun h => hk h.2)]
      by_cases h2 : d = k
      · subst h2
        rw [if_pos rfl, if_neg hk, if_neg (fun h => hk h.2), Array.getElem?_eq_none (by omega)]
      · rw [if_neg h2, if_neg (fun h => hk h.2)]
theorem fillT_self (T : Array Value) (ds : List Nat) : T = fillT T ds (fun d => T.getD d undef) := by
  apply Array.ext_getElem?
  intro k
  rw [fillT_at]
  split
  · rename_i h
    rw [Array.getElem?_eq_getElem h.2]
    simp [Array.getD, h.2]
  · rfl
theorem fillT_set (T : Array Value) (ds : List Nat) (g : Nat → Value) (d : Nat) (v : Value) (hd : d ∈ ds) : (fillT T ds g).setIfInBounds d v = fillT T ds (fun k => if k = d then v else g k) := by
  apply Array.ext_getElem?
  intro k
  rw [Array.getElem?_setIfInBounds, fillT_at, fillT_at, fillT_size]
  by_cases h2 : d = k
  · subst h2
    rw [if_pos rfl]
    by_cases hk : d < T.size
    · rw [if_pos hk, if_pos ⟨hd, hk⟩, if_pos rfl]
    · rw [if_neg hk, if_neg (fun h => hk h.2), Array.getElem?_eq_none (by omega)]
  · rw [if_neg h2]
    by_cases h1 : k ∈ ds ∧ k < T.size
    · rw [if_pos h1, if_pos h1, if_neg (fun e => h2 (Eq.symm e))]
    · rw [if_neg h1, if_neg h1]
section
variable {P : Program} {ops : Array Oper} {Q : Exit → Act → World → Prop} {md : Region.Mode}
def lowB (ops : Array Oper) : Bool := (List.range ops.size).all fun i => ((ops[i]?).map fun o => o.after.all fun e => decide (e.on < i)).getD true
def dstOf (ops : Array Oper) (i : Nat) : Option Nat := (ops[i]?).bind (·.dst)
def depsB (md : Region.Mode) (ops : Array Oper) (o : Oper) : List (Nat × Nat) := o.after.toList.filterMap fun e => if Region.binds md e then (dstOf ops e.on).map fun d => (e.on, d) else none
def okDs (m : Nat) (ops : Array Oper) (ds : List Nat) : Bool := (List.range m).all fun i => (match dstOf ops i with | some d => ds.contains d | none => true) && (List.range m).all fun j => i == j || dstOf ops i == none || !(dstOf ops i == dstOf ops j)
theorem count_lt {p q : Nat → Bool} (i : Nat) (h : ∀ k, q k = true → p k = true) (hp : p i = true) (hq : q i = false) : ∀ l : List Nat, i ∈ l → (l.filter q).length < (l.filter p).length := by
  have le : ∀ l : List Nat, (l.filter q).length ≤ (l.filter p).length := by
    intro l
    induction l with
    | nil => exact Nat.le_refl _
    | cons x xs ih =>
      rw [List.filter_cons, List.filter_cons]
      by_cases hx : q x = true
      · rw [if_pos hx, if_pos (h x hx), List.length_cons, List.length_cons]; omega
      · rw [if_neg hx]
        split
        · rw [List.length_cons]; omega
        · exact ih
  intro l hl
  induction l with
  | nil => cases hl
  | cons x xs ih =>
    rw [List.filter_cons, List.filter_cons]
    rcases List.mem_cons.1 hl with rfl | hm
    · have := le xs
      rw [if_neg (by rw [hq]; decide), if_pos hp, List.length_cons]; omega
    · have := ih hm
      by_cases hx : q x = true
      · rw [if_pos hx, if_pos (h x hx), List.length_cons, List.length_cons]; omega
      · rw [if_neg hx]
        split
        · rw [List.length_cons]; omega
        · exact this
theorem getD_any {listed : Array Bool} {k : Nat} (h : k < listed.size) (a b : Bool) : listed.getD k a = listed.getD k b := by simp [Array.getD, h]
theorem wpAny_inv (hlow : lowB ops = true) (I : Array Bool → Act → World → Prop) (hsz : ∀ listed a w, I listed a w → listed.size = ops.size)
    (hstep : ∀ listed a w i, I listed a w → i ∈ Region.ready md ops listed → wpOp P ops Q i (fun a' w' => I (listed.setIfInBounds i true) a' w') a w)
    (hdone : ∀ listed a w, I listed a w → (∀ k, k < ops.size → listed.getD k false = true) → Q .normal a w) :
    ∀ (fuel : Nat) (listed : Array Bool) (a : Act) (w : World), ((List.range ops.size).filter fun k => !listed.getD k true).length ≤ fuel → I listed a w → wpAny P md ops Q fuel listed a w := by
  have fin : ∀ listed : Array Bool, listed.size = ops.size → Region.ready md ops listed = [] → ∀ k, k < ops.size → listed.getD k false = true := by
    intro listed hs hr k
    induction k using Nat.strongRecOn with
    | ind k ih =>
      intro hk
      by_cases hl : listed.getD k false = true
      · exact hl
      · exfalso
        have hm : k ∈ Region.ready md ops listed := by
          refine mem_ready.2 ⟨?_, ops[k], Array.getElem?_eq_getElem hk, fun e he _ => ?_⟩
          · rw [getD_any (by omega) true false]; simpa using hl
          · have h1 := List.all_eq_true.1 hlow k (List.mem_range.2 hk)
            rw [Array.getElem?_eq_getElem hk] at h1
            simp only [Option.map_some, Option.getD_some, Array.all_eq_true_iff_forall_mem, decide_eq_true_eq] at h1
            have := h1 e he
            exact ih e.on this (by omega)
        rw [hr] at hm
        cases hm
  intro fuel
  induction fuel with
  | zero =>
    intro listed a w hc hI
    have hs := hsz _ _ _ hI
    have hr : Region.ready md ops listed = [] := by
      cases hq : Region.ready md ops listed with
      | nil => rfl
      | cons x xs =>
        exfalso
        have hx : x ∈ Region.ready md ops listed := by rw [hq]; exact List.mem_cons_self
        obtain ⟨h1, o, ho, _⟩ := mem_ready.1 hx
        have hlt : x < ops.size := (Array.getElem?_eq_some_iff.1 ho).1
        have : x ∈ (List.range ops.size).filter fun k => !listed.getD k true := List.mem_filter.2 ⟨List.mem_range.2 hlt, by rw [h1]; rfl⟩
        have := List.length_pos_of_mem this
        omega
    exact ⟨hr, hdone _ _ _ hI (fin _ hs hr)⟩
  | succ fuel ih =>
    intro listed a w hc hI
    have hs := hsz _ _ _ hI
    refine ⟨fun hr => hdone _ _ _ hI (fin _ hs hr), fun i hi => ?_⟩
    refine wpOp_mono (fun a' w' hI' => ih _ a' w' ?_ hI') (hstep _ _ _ i hI hi)
    obtain ⟨h1, o, ho, _⟩ := mem_ready.1 hi
    have hlt : i < ops.size := (Array.getElem?_eq_some_iff.1 ho).1
    have := count_lt (p := fun k => !listed.getD k true) (q := fun k => !(listed.setIfInBounds i true).getD k true) i (fun k hk => by
      by_cases e : i = k
      · subst e; show (!listed.getD i true) = true; rw [h1]; rfl
      · have hk2 : (!(listed.setIfInBounds i true).getD k true) = true := hk
        rw [getD_set_ne true e] at hk2; exact hk2) (by show (!listed.getD i true) = true; rw [h1]; rfl) (by
        show (!(listed.setIfInBounds i true).getD i true) = false
        simp [Array.getD, Array.size_setIfInBounds, hs, hlt]) (List.range ops.size) (List.mem_range.2 hlt)
    omega
def StepI (P : Program) (ops : Array Oper) (Q : Exit → Act → World → Prop) (T : Array Value) (D : List Deferred) (ds : List Nat) (W : World) (R : Nat → Value → World → Prop) (i : Nat) (o : Oper) : Prop :=
  ∀ (g : Nat → Value) (w : World), Below W.heap.size W w → (∀ k d, (depsB .any ops o).contains (k, d) = true → R k (g d) w) → ∀ K' : Act → World → Prop, Shut (∀ v w', Below w.heap.size w w' → R i v w' → K' (Act.put ⟨fillT T ds g, D⟩ o.dst v) w') →
    if Region.wanted o (yielded ops (fillT T ds g)) = true then Oper.wp P o ⟨fillT T ds g, D⟩ w K' Q else K' (Act.put ⟨fillT T ds g, D⟩ o.dst undef) w
def StepsI (P : Program) (ops : Array Oper) (Q : Exit → Act → World → Prop) (T : Array Value) (D : List Deferred) (ds : List Nat) (W : World) (R : Nat → Value → World → Prop) (rs : List Nat) : Prop :=
  ∀ i ∈ rs, ∀ o, ops[i]? = some o → StepI P ops Q T D ds W R i o
theorem StepsI.nil {T : Array Value} {D : List Deferred} {ds : List Nat} {W : World} {R : Nat → Value → World → Prop} : StepsI P ops Q T D ds W R [] := fun _ h => by cases h
theorem StepsI.cons {T : Array Value} {D : List Deferred} {ds : List Nat} {W : World} {R : Nat → Value → World → Prop} {i : Nat} {o : Oper} {rs : List Nat} (ho : ops[i]? = some o) (h : StepI P ops Q T D ds W R i o) (hs : StepsI P ops Q T D ds W R rs) : StepsI P ops Q T D ds W R (i :: rs) := fun j hj o' ho' => by
  rcases List.mem_cons.1 hj with rfl | hj
  · rw [ho] at ho'; cases ho'; exact h
  · exact hs j hj o' ho'
theorem wp_region_inv {id : Nat} {T : Array Value} {D : List Deferred} {W : World} (ds : List Nat) (R : Nat → Value → World → Prop) (rs : List Nat)
    (hm : P.follows .mixedOrders = true) (hlow : lowB ops = true) (hds : okDs ops.size ops ds = true) (hrs : rs = List.range ops.size)
    (mono : ∀ k v w w', R k v w → Below w.heap.size w w' → R k v w')
    (step : StepsI P ops Q T D ds W R rs)
    (done : ∀ g w, Below W.heap.size W w → (∀ k d, k < ops.size → dstOf ops k = some d → R k (g d) w) → Q .normal ⟨fillT T ds g, D⟩ w) : (Code.region id ops true).wp P Q ⟨T, D⟩ W := by
  have inj : ∀ i j d, i < ops.size → j < ops.size → dstOf ops i = some d → dstOf ops j = some d → i = j := by
    intro i j d hi hj h1 h2
    have h := List.all_eq_true.1 hds i (List.mem_range.2 hi)
    rw [Bool.and_eq_true] at h
    have h3 := List.all_eq_true.1 h.2 j (List.mem_range.2 hj)
    rw [h1, h2] at h3
    simpa using h3
  have inds : ∀ i d, i < ops.size → dstOf ops i = some d → d ∈ ds := by
    intro i d hi h1
    have h := List.all_eq_true.1 hds i (List.mem_range.2 hi)
    rw [Bool.and_eq_true, h1] at h
    simpa using h.1
  refine wp_region_any hm ?_
  refine wpAny_inv hlow (fun listed a w => listed.size = ops.size ∧ Below W.heap.size W w ∧ ∃ g, a = ⟨fillT T ds g, D⟩ ∧ ∀ k d, listed.getD k false = true → dstOf ops k = some d → R k (g d) w)
    (fun _ _ _ h => h.1) ?_ ?_ _ _ _ _ ?_ ?_
  · rintro listed a w i ⟨hs, hb, g, rfl, hg⟩ hi
    obtain ⟨h1, o, ho, hdep⟩ := mem_ready.1 hi
    have hlt : i < ops.size := (Array.getElem?_eq_some_iff.1 ho).1
    refine wpOp_step ho fun K' hK => ?_
    refine step i (by rw [hrs]; exact List.mem_range.2 hlt) o ho g w hb (fun k d hkd => ?_) K' (fun v w' hw hr => hK _ _ ?_)
    · have hkd := List.contains_iff_mem.1 hkd
      obtain ⟨e, he, hed⟩ := List.mem_filterMap.1 hkd
      by_cases hbd : Region.binds .any e = true
      · rw [if_pos hbd] at hed
        cases hde : dstOf ops e.on with
        | none => rw [hde] at hed; cases hed
        | some x =>
          rw [hde] at hed
          simp only [Option.map_some, Option.some.injEq, Prod.mk.injEq] at hed
          obtain ⟨rfl, rfl⟩ := hed
          exact hg _ _ (hdep e (by simpa using he) hbd) hde
      · rw [if_neg hbd] at hed; cases hed
    · refine ⟨by rw [Array.size_setIfInBounds, hs], sp_below hb hw, ?_⟩
      cases hd : o.dst with
      | none =>
        refine ⟨g, rfl, fun k d hk hkd => ?_⟩
        have hki : k ≠ i := fun e => by
          subst e
          unfold dstOf at hkd
          rw [ho] at hkd
          simp [hd] at hkd
        rw [getD_set_ne false (Ne.symm hki)] at hk
        exact mono _ _ _ _ (hg k d hk hkd) hw
      | some d0 =>
        have hdi : dstOf ops i = some d0 := by unfold dstOf; rw [ho]; exact hd
        refine ⟨fun k => if k = d0 then v else g k, by show Act.mk _ _ = _; rw [fillT_set _ _ _ _ _ (inds i d0 hlt hdi)], fun k d hk hkd => ?_⟩
        have hkl : k < ops.size := by
          unfold dstOf at hkd
          cases hq : ops[k]? with
          | none => rw [hq] at hkd; cases hkd
          | some o' => exact (Array.getElem?_eq_some_iff.1 hq).1
        by_cases e : k = i
        · subst e
          rw [hdi] at hkd
          cases hkd
          show R k (if d0 = d0 then v else g d0) w'
          rw [if_pos rfl]
          exact hr
        · rw [getD_set_ne false (Ne.symm e)] at hk
          have hne : d ≠ d0 := fun e2 => e (inj k i d hkl hlt hkd (e2 ▸ hdi))
          show R k (if d = d0 then v else g d) w'
          rw [if_neg hne]
          exact mono _ _ _ _ (hg k d hk hkd) hw
  · rintro listed a w ⟨hs, hb, g, rfl, hg⟩ hall
    exact done g w hb fun k d hk hkd => hg k d (hall k hk) hkd
  · refine Nat.le_trans (List.length_filter_le _ _) ?_
    simp
  · refine ⟨by simp, (Below.refl _ W).drew, fun d => T.getD d undef, by rw [← fillT_self], fun k d hk _ => ?_⟩
    exfalso
    by_cases hk2 : k < ops.size <;> simp [Array.getD, hk2] at hk
end
section
variable {P : Program} {ops : Array Oper} {Q : Exit → Act → World → Prop} {md : Region.Mode}
def sinkAt (m : Nat) (ops : Array Oper) : Bool := decide (m < ops.size) && ((List.range m).all fun k => (List.range (m + 1)).any fun j => decide (k < j) && (match ops[j]? with | some o => o.after.any fun e => Region.binds .any e && e.on == k | none => false)) &&
  (List.range ops.size).all fun j => decide (j ≤ m) || (match ops[j]? with | some o => o.after.any fun e => Region.binds .any e && decide (m ≤ e.on) | none => false)
theorem wp_region_pre {id : Nat} {T : Array Value} {D : List Deferred} {W : World} (m : Nat) (ds : List Nat) (R : Nat → Value → World → Prop) (rs : List Nat)
    (hm : P.follows .mixedOrders = true) (hlow : lowB ops = true) (hds : okDs m ops ds = true) (hrs : rs = List.range m) (hsk : sinkAt m ops = true) {r : Nat} {lst : Array Bool} (hn : ops.size - m = r) (hl : ((List.range ops.size).map fun k => decide (k < m)).toArray = lst)
    (mono : ∀ k v w w', R k v w → Below w.heap.size w w' → R k v w')
    (step : StepsI P ops Q T D ds W R rs)
    (done : ∀ f g w, Below W.heap.size W w → (∀ k d, k < m → dstOf ops k = some d → R k (g d) w) → wpAny P .any ops Q (f + r) lst ⟨fillT T ds g, D⟩ w) : (Code.region id ops true).wp P Q ⟨T, D⟩ W := by
  subst hn hl
  have inj : ∀ i j d, i < m → j < m → dstOf ops i = some d → dstOf ops j = some d → i = j := by
    intro i j d hi hj h1 h2
    have h := List.all_eq_true.1 hds i (List.mem_range.2 hi)
    rw [Bool.and_eq_true] at h
    have h3 := List.all_eq_true.1 h.2 j (List.mem_range.2 hj)
    rw [h1, h2] at h3
    simpa using h3
  have inds : ∀ i d, i < m → dstOf ops i = some d → d ∈ ds := by
    intro i d hi h1
    have h := List.all_eq_true.1 hds i (List.mem_range.2 hi)
    rw [Bool.and_eq_true, h1] at h
    simpa using h.1
  simp only [sinkAt, Bool.and_eq_true, decide_eq_true_eq] at hsk
  obtain ⟨⟨hmn, hsk⟩, htl⟩ := hsk
  have succ : ∀ k, k < m → ∃ j o, k < j ∧ j ≤ m ∧ ops[j]? = some o ∧ ∃ e ∈ o.after, Region.binds .any e = true ∧ e.on = k := by
    intro k hk
    obtain ⟨j, hj, h⟩ := List.any_eq_true.1 (List.all_eq_true.1 hsk k (List.mem_range.2 hk))
    rw [Bool.and_eq_true, decide_eq_true_eq] at h
    have hj := List.mem_range.1 hj
    cases ho : ops[j]? with
    | none => rw [ho] at h; exact absurd h.2 (by simp)
    | some o =>
      rw [ho] at h
      obtain ⟨x, hx, hx2⟩ := Array.any_eq_true.1 h.2
      rw [Bool.and_eq_true, beq_iff_eq] at hx2
      exact ⟨j, o, h.1, by omega, ho, o.after[x], Array.getElem_mem hx, hx2⟩
  have tail : ∀ j o, m < j → ops[j]? = some o → ∃ e ∈ o.after, Region.binds .any e = true ∧ m ≤ e.on := by
    intro j o hj ho
    have h := List.all_eq_true.1 htl j (List.mem_range.2 (Array.getElem?_eq_some_iff.1 ho).1)
    rw [Bool.or_eq_true, decide_eq_true_eq, ho] at h
    rcases h with h | h
    · omega
    · obtain ⟨x, hx, hx2⟩ := Array.any_eq_true.1 h
      rw [Bool.and_eq_true, decide_eq_true_eq] at hx2
      exact ⟨o.after[x], Array.getElem_mem hx, hx2⟩
  have low : ∀ (j : Nat) (o : Oper), ops[j]? = some o → ∀ e ∈ o.after, e.on < j := by
    intro j o ho e he
    have h1 := List.all_eq_true.1 hlow j (List.mem_range.2 (Array.getElem?_eq_some_iff.1 ho).1)
    rw [ho] at h1
    simp only [Option.map_some, Option.getD_some, Array.all_eq_true_iff_forall_mem, decide_eq_true_eq] at h1
    exact h1 e he
  refine wp_region_any hm ?_
  have main : ∀ (fuel : Nat) (listed : Array Bool) (g : Nat → Value) (w : World), listed.size = ops.size → (∀ k, m ≤ k → listed.getD k false = false) →
      (∀ j o, ops[j]? = some o → listed.getD j false = true → ∀ e ∈ o.after, Region.binds .any e = true → listed.getD e.on false = true) →
      Below W.heap.size W w → (∀ k d, listed.getD k false = true → dstOf ops k = some d → R k (g d) w) →
      ((List.range m).filter fun k => !listed.getD k true).length + (ops.size - m) ≤ fuel → wpAny P .any ops Q fuel listed ⟨fillT T ds g, D⟩ w := by
    intro fuel
    induction fuel with
    | zero => intro listed g w hs hhi hcl hb hg hf; omega
    | succ fuel ih =>
      intro listed g w hs hhi hcl hb hg hf
      by_cases hall : ∀ k, k < m → listed.getD k false = true
      · have e : listed = ((List.range ops.size).map fun k => decide (k < m)).toArray := by
          apply Array.ext_getElem?
          intro k
          by_cases hk : k < ops.size
          · rw [Array.getElem?_eq_getElem (by omega)]
            have hx : listed.getD k false = decide (k < m) := by
              by_cases h : k < m
              · rw [hall k h, decide_eq_true h]
              · rw [hhi k (by omega), decide_eq_false h]
            simp only [Array.getD, show k < listed.size by omega, dif_pos] at hx
            simp [hk]
            simpa using hx
          · rw [Array.getElem?_eq_none (by omega), Array.getElem?_eq_none (by simp; omega)]
        rw [e]
        have := done (fuel + 1 - (ops.size - m)) g w hb (fun k d hk hd => hg k d (hall k hk) hd)
        rw [show fuel + 1 - (ops.size - m) + (ops.size - m) = fuel + 1 by omega] at this
        exact this
      · refine ⟨fun hr => ?_, fun i hi => ?_⟩
        · exfalso
          apply hall
          intro k
          induction k using Nat.strongRecOn with
          | ind k ihk =>
            intro hk
            by_cases hl : listed.getD k false = true
            · exact hl
            · exfalso
              have hkn : k < ops.size := by omega
              have hmem : k ∈ Region.ready .any ops listed := by
                refine mem_ready.2 ⟨?_, ops[k], Array.getElem?_eq_getElem hkn, fun e he _ => ?_⟩
                · rw [getD_any (by omega) true false]; simpa using hl
                · have := low k _ (Array.getElem?_eq_getElem hkn) e he
                  exact ihk e.on this (by omega)
              rw [hr] at hmem
              cases hmem
        · obtain ⟨h1, o, ho, hdep⟩ := mem_ready.1 hi
          have hlt : i < ops.size := (Array.getElem?_eq_some_iff.1 ho).1
          have him : i < m := by
            refine Decidable.byContradiction fun hc => ?_
            by_cases e : i = m
            · subst e
              apply hall
              have : ∀ t k, i - k ≤ t → k < i → listed.getD k false = true := by
                intro t
                induction t with
                | zero => intro k h1 h2; omega
                | succ t iht =>
                  intro k h1 h2
                  obtain ⟨j, o', hkj, hjm, ho', e, he, hb', hek⟩ := succ k h2
                  rw [← hek]
                  by_cases ej : j = i
                  · subst ej
                    rw [ho] at ho'; cases ho'
                    exact hdep e he hb'
                  · exact hcl j o' ho' (iht j (by omega) (by omega)) e he hb'
              exact fun k hk => this (i - k) k (Nat.le_refl _) hk
            · obtain ⟨e', he, hb', hme⟩ := tail i o (by omega) ho
              have := hdep e' he hb'
              rw [hhi e'.on hme] at this
              cases this
          refine wpOp_step ho fun K' hK => ?_
          refine step i (by rw [hrs]; exact List.mem_range.2 him) o ho g w hb (fun k d hkd => ?_) K' (fun v w' hw hr => hK _ _ ?_)
          · have hkd := List.contains_iff_mem.1 hkd
            obtain ⟨e, he, hed⟩ := List.mem_filterMap.1 hkd
            by_cases hbd : Region.binds .any e = true
            · rw [if_pos hbd] at hed
              cases hde : dstOf ops e.on with
              | none => rw [hde] at hed; cases hed
              | some x =>
                rw [hde] at hed
                simp only [Option.map_some, Option.some.injEq, Prod.mk.injEq] at hed
                obtain ⟨rfl, rfl⟩ := hed
                exact hg _ _ (hdep e (by simpa using he) hbd) hde
            · rw [if_neg hbd] at hed; cases hed
          · have hset : ∀ k, (listed.setIfInBounds i true).getD k false = true ↔ k = i ∨ listed.getD k false = true := by
              intro k
              by_cases e : i = k
              · subst e
                simp [Array.getD, Array.size_setIfInBounds, hs, hlt]
              · rw [getD_set_ne false e]
                exact ⟨Or.inr, fun h => h.elim (fun h => absurd (Eq.symm h) e) (fun h => h)⟩
            have cnt := count_lt (p := fun k => !listed.getD k true) (q := fun k => !(listed.setIfInBounds i true).getD k true) i (fun k hk => by
              by_cases e : i = k
              · subst e; show (!listed.getD i true) = true; rw [h1]; rfl
              · have hk2 : (!(listed.setIfInBounds i true).getD k true) = true := hk
                rw [getD_set_ne true e] at hk2; exact hk2) (by show (!listed.getD i true) = true; rw [h1]; rfl) (by
                show (!(listed.setIfInBounds i true).getD i true) = false
                simp [Array.getD, Array.size_setIfInBounds, hs, hlt]) (List.range m) (List.mem_range.2 him)
            have hput : ∃ g', Act.put ⟨fillT T ds g, D⟩ o.dst v = ⟨fillT T ds g', D⟩ ∧ ∀ k d, (k = i ∨ listed.getD k false = true) → dstOf ops k = some d → R k (g' d) w' := by
              cases hd : o.dst with
              | none =>
                refine ⟨g, rfl, fun k d hk hkd => ?_⟩
                have hki : k ≠ i := fun e => by
                  subst e
                  unfold dstOf at hkd
                  rw [ho] at hkd
                  simp [hd] at hkd
                exact mono _ _ _ _ (hg k d (hk.resolve_left hki) hkd) hw
              | some d0 =>
                have hdi : dstOf ops i = some d0 := by unfold dstOf; rw [ho]; exact hd
                refine ⟨fun k => if k = d0 then v else g k, by show Act.mk _ _ = _; rw [fillT_set _ _ _ _ _ (inds i d0 him hdi)], fun k d hk hkd => ?_⟩
                have hkm : k < m := by
                  rcases hk with rfl | hk
                  · exact him
                  · refine Decidable.byContradiction fun hc => ?_
                    rw [hhi k (by omega)] at hk
                    cases hk
                have hkl : k < ops.size := by
                  unfold dstOf at hkd
                  cases hq : ops[k]? with
                  | none => rw [hq] at hkd; cases hkd
                  | some o' => exact (Array.getElem?_eq_some_iff.1 hq).1
                by_cases e : k = i
                · subst e
                  rw [hdi] at hkd
                  cases hkd
                  show R k (if d0 = d0 then v else g d0) w'
                  rw [if_pos rfl]
                  exact hr
                · have hne : d ≠ d0 := fun e2 => e (inj k i d hkm him hkd (e2 ▸ hdi))
                  show R k (if d = d0 then v else g d) w'
                  rw [if_neg hne]
                  exact mono _ _ _ _ (hg k d (hk.resolve_left e) hkd) hw
            obtain ⟨g', hp, hg'⟩ := hput
            rw [hp]
            refine ih _ g' w' (by rw [Array.size_setIfInBounds, hs]) (fun k hk => ?_) (fun j o' ho' hj e he hb' => ?_) (sp_below hb hw) (fun k d hk hd => hg' k d ((hset k).1 hk) hd) (by omega)
            · rw [getD_set_ne false (by omega)]; exact hhi k hk
            · rcases (hset j).1 hj with rfl | hj
              · rw [ho] at ho'; cases ho'
                exact (hset _).2 (Or.inr (hdep e he hb'))
              · exact (hset _).2 (Or.inr (hcl j o' ho' hj e he hb'))
  have h0 := main ops.size (Array.replicate ops.size false) (fun d => T.getD d undef) W.drew (by simp) (fun k _ => by by_cases hk2 : k < ops.size <;> simp [Array.getD, hk2]) (fun j o _ hj => by exfalso; by_cases hk2 : j < ops.size <;> simp [Array.getD, hk2] at hj)
    (Below.refl _ W).drew (fun k d hk _ => by exfalso; by_cases hk2 : k < ops.size <;> simp [Array.getD, hk2] at hk) (by
      have := List.length_filter_le (fun k => !(Array.replicate ops.size false).getD k true) (List.range m)
      rw [List.length_range] at this
      omega)
  rw [← fillT_self] at h0
  exact h0
end
theorem StepI.of {P : Program} {ops : Array Oper} {Q : Exit → Act → World → Prop} {T : Array Value} {D : List Deferred} {ds : List Nat} {W : World} {R : Nat → Value → World → Prop} {i : Nat} {o : Oper} (hg : o.guard = none) (hds : ((depsB .any ops o).all fun p => ds.contains p.2 && decide (p.2 < T.size)) = true)
    (h : ∀ (A : Act) (w : World), Below W.heap.size W w → (∀ d, ds.contains d = false → A.tmps[d]?.getD undef = T.getD d undef) → (∀ k d, (depsB .any ops o).contains (k, d) = true → R k (A.tmps[d]?.getD undef) w) → ∀ K' : Act → World → Prop, Shut (∀ v w', Below w.heap.size w w' → R i v w' → K' (A.put o.dst v) w') → Oper.wp P o A w K' Q) : StepI P ops Q T D ds W R i o := by
  intro g w hb hd K' hK
  have hw : Region.wanted o (yielded ops (fillT T ds g)) = true := by unfold Region.wanted; rw [hg]
  rw [if_pos hw]
  refine h ⟨fillT T ds g, D⟩ w hb (fun d hd' => ?_) (fun k d hkd => ?_) K' hK
  · have hn : ¬ d ∈ ds := fun hm => by rw [List.contains_iff_mem.2 hm] at hd'; cases hd'
    show (fillT T ds g)[d]?.getD undef = T.getD d undef
    rw [Array.getD_eq_getD_getElem?, fillT_at, if_neg (fun h => hn h.1)]
  · have h1 := List.all_eq_true.1 hds _ (List.contains_iff_mem.1 hkd)
    rw [Bool.and_eq_true, decide_eq_true_eq] at h1
    have e : (fillT T ds g)[d]?.getD undef = g d := by rw [fillT_at, if_pos ⟨List.contains_iff_mem.1 h1.1, h1.2⟩]; rfl
    show R k ((fillT T ds g)[d]?.getD undef) w
    rw [e]
    exact hd k d hkd
def Rls (l : List (Value → World → Prop)) (n : Nat) (v : Value) (w : World) : Prop := match l[n]? with | some p => p v w | none => True
def Eqv (x : Value) : Value → World → Prop := fun v _ => v = x
def MonoL (l : List (Value → World → Prop)) : Prop := ∀ p ∈ l, ∀ v w w', p v w → Below w.heap.size w w' → p v w'
theorem MonoL.nil : MonoL [] := fun _ h => by cases h
theorem MonoL.eq {x : Value} {l : List (Value → World → Prop)} (h : MonoL l) : MonoL (Eqv x :: l) := fun p hp v w w' q g => by
  rcases List.mem_cons.1 hp with rfl | hp
  · exact q
  · exact h p hp v w w' q g
theorem MonoL.cons {p : Value → World → Prop} {l : List (Value → World → Prop)} (hp : ∀ v w w', p v w → Below w.heap.size w w' → p v w') (h : MonoL l) : MonoL (p :: l) := fun r hr v w w' q g => by
  rcases List.mem_cons.1 hr with rfl | hr
  · exact hp v w w' q g
  · exact h r hr v w w' q g
theorem MonoL.of {l : List (Value → World → Prop)} (h : MonoL l) : ∀ k v w w', Rls l k v w → Below w.heap.size w w' → Rls l k v w' := by
  intro k v w w' q g
  unfold Rls at *
  cases hl : l[k]? with
  | none => trivial
  | some p =>
    rw [hl] at q
    exact h p (List.mem_of_getElem? hl) v w w' q g
theorem wp_appendAt {P : Program} {o : Oper} {a : Act} {w : World} {K : Act → World → Prop} {Q : Exit → Act → World → Prop} (s x : Operand) (t : TypeId) (ho : o.op = .call { callee := .builtin .append, args := #[s, x], argTypes := #[t, t] }) (v1 v2 : Value) (hs : a.eval s = v1) (hx : a.eval x = v2) (v' : Value) (w' : World)
    (hr : (Builtin.append_ #[t, t] o.type #[v1, v2]).run P w = .ok v' w') (h : K (a.put o.dst v') w') : o.wp P a w K Q := by
  unfold Oper.wp execOp
  simp only [ho, resolve, invoke, builtin, Sem.run_bind, Sem.run_pure, Result.andThen_ok, List.map_toArray, List.map_cons, List.map_nil, hs, hx, hr]
  exact h
end Go.Proofs.YteafnkimcidkhaaGreat

namespace Go.Proofs.YteafnkimcidkhaaGreat
open Go.RowKit
set_option linter.unusedVariables false
set_option linter.unusedSimpArgs false
set_option maxRecDepth 100000 in
set_option maxHeartbeats 6400000 in
theorem law_sound (c k a : Nat → Int) (hc : ∀ j, (c j).natAbs ≤ 32768) (hk : ∀ j, (k j).natAbs ≤ 32768) (ha : ∀ j, (a j).natAbs ≤ 32768) (w : World) : Calls Tryz.prog 8 #[.agg #[.int .i16 (c 0), .int .i16 (c 1)], .agg #[.int .i16 (k 0), .int .i16 (k 1), .int .i16 (k 2), .int .i16 (k 3), .int .i16 (k 4), .int .i16 (k 5)], .agg #[.int .i16 (a 0), .int .i16 (a 1), .int .i16 (a 2), .int .i16 (a 3)]] w fun e w' => e = .returned (.bool true) ∧ Below w.heap.size w w' := by
  have sc : ∀ j, Sm (c j) := fun j => by have := hc j; show _ < _; omega
  have sk : ∀ j, Sm (k j) := fun j => by have := hk j; show _ < _; omega
  have sa : ∀ j, Sm (a j) := fun j => by have := ha j; show _ < _; omega
  go_enter Tryz.func8, Tryz.ntmps8
  go_upto_region 3 with fail
  obtain ⟨W, hW⟩ : ∃ W, ((((w.alloc (.cells #[.int .i16 (c 0), .int .i16 (c 1)] 62)).alloc (.cells #[.int .i16 (k 0), .int .i16 (k 1), .int .i16 (k 2), .int .i16 (k 3), .int .i16 (k 4), .int .i16 (k 5)] 64)).alloc (.cells #[.int .i16 (a 0), .int .i16 (a 1), .int .i16 (a 2), .int .i16 (a 3)] 65)).alloc (.cells #[.bool false, .bool false, .int .u64 0, .int .u64 0, .slice none 0 0, .bool false, .bool false, .int .u64 0, .int .u64 0, .slice none 0 0] 32)).alloc (.cells #[.int .i64 0, .int .i64 0] 66) = W := ⟨_, rfl⟩
  obtain ⟨bc, hbc⟩ : ∃ b, w.heap.size = b := ⟨_, rfl⟩
  obtain ⟨bk, hbk⟩ : ∃ b, bc + 1 = b := ⟨_, rfl⟩
  obtain ⟨ba, hba⟩ : ∃ b, bk + 1 = b := ⟨_, rfl⟩
  obtain ⟨B7, hB7⟩ : ∃ b, ba + 1 = b := ⟨_, rfl⟩
  obtain ⟨B8, hB8⟩ : ∃ b, B7 + 1 = b := ⟨_, rfl⟩
  obtain ⟨base, hbs⟩ : ∃ b, B8 + 1 = b := ⟨_, rfl⟩
  have hT : Hid (SF c k a bc bk ba B7 B8 base w W (fun _ => (0, [])) (fun _ => .slice none 0 0) (fun _ => 0)) := by
    have zW : W.heap.size = base := by rw [← hW, ← hbs, ← hB8, ← hB7, ← hba, ← hbk, ← hbc]; simp [go_sem]
    have bW : Below w.heap.size w W := by rw [← hW]; exact sp_new (sp_new (sp_new (sp_new (sp_new (Below.refl _ _) _) _) _) _) _
    have r7 : W.heap[B7]? = some (.cells #[.bool false, .bool false, .int .u64 0, .int .u64 0, .slice none 0 0, .bool false, .bool false, .int .u64 0, .int .u64 0, .slice none 0 0] 32 (0, 0)) := by
      rw [← hW, show B7 = (((w.alloc (.cells #[.int .i16 (c 0), .int .i16 (c 1)] 62)).alloc (.cells #[.int .i16 (k 0), .int .i16 (k 1), .int .i16 (k 2), .int .i16 (k 3), .int .i16 (k 4), .int .i16 (k 5)] 64)).alloc (.cells #[.int .i16 (a 0), .int .i16 (a 1), .int .i16 (a 2), .int .i16 (a 3)] 65)).heap.size by rw [← hB7, ← hba, ← hbk, ← hbc]; simp [go_sem]]
      exact lw_old (World.alloc_heap_new _ _) _
    have r8 : W.heap[B8]? = some (.cells #[.int .i64 0, .int .i64 0] 66 (0, 0)) := by
      rw [← hW, show B8 = ((((w.alloc (.cells #[.int .i16 (c 0), .int .i16 (c 1)] 62)).alloc (.cells #[.int .i16 (k 0), .int .i16 (k 1), .int .i16 (k 2), .int .i16 (k 3), .int .i16 (k 4), .int .i16 (k 5)] 64)).alloc (.cells #[.int .i16 (a 0), .int .i16 (a 1), .int .i16 (a 2), .int .i16 (a 3)] 65)).alloc (.cells #[.bool false, .bool false, .int .u64 0, .int .u64 0, .slice none 0 0, .bool false, .bool false, .int .u64 0, .int .u64 0, .slice none 0 0] 32)).heap.size by rw [← hB8, ← hB7, ← hba, ← hbk, ← hbc]; simp [go_sem]]
      exact World.alloc_heap_new _ _
    have ec : ∀ j, j < 2 → W.cell? ⟨bc, j, none⟩ = some (.int .i16 (c j)) := fun j hj => by
      rw [← hW, ← hbc]
      rcases (show j = 0 ∨ j = 1 by omega) with rfl | rfl <;> simp [go_sem]
    have ek : ∀ j, j < 6 → W.cell? ⟨bk, j, none⟩ = some (.int .i16 (k j)) := fun j hj => by
      rw [← hW, ← hbk, ← hbc]
      rcases (show j = 0 ∨ j = 1 ∨ j = 2 ∨ j = 3 ∨ j = 4 ∨ j = 5 by omega) with rfl | rfl | rfl | rfl | rfl | rfl <;> simp [go_sem]
    have ea : ∀ j, j < 4 → W.cell? ⟨ba, j, none⟩ = some (.int .i16 (a j)) := fun j hj => by
      rw [← hW, ← hba, ← hbk, ← hbc]
      rcases (show j = 0 ∨ j = 1 ∨ j = 2 ∨ j = 3 by omega) with rfl | rfl | rfl | rfl <;> simp [go_sem]
    exact ⟨bW, ec, ek, ea, r7, r8, fun _ _ => Or.inl ⟨rfl, rfl⟩, fun _ _ => Or.inl rfl, by omega⟩
  rw [hW, hbc, hbk, hba, hB7, hB8]
  have own0 : Hid (W.ownsRow base 24 3 (.slice none 0 0) 0 (rcs (ptl a 0))) := World.ownsRow_nil _ _ _ _
  clear hW hbc hbk hba hB7 hB8 hbs
  have sym3 : Hid (∀ j, Sm (c j)) := sc
  have a3 := hT.out.aa 3 (by omega)
  have ix3 := ixa ba 3 (by omega)
  have wa3 : IntKind.i64.wrap (a 3) = a 3 := by have := ha 3; rw [IntKind.wrap_i64]; omega
  go_upto_region 6 with fail
  clear a3 ix3
  obtain ⟨i0, hi, hz0, hz1, hz2⟩ : ∃ i, Tryz.prog.info? 24 = some i ∧ i.zero = some (.agg #[.bool false, .int .u64 0, .int .u64 0]) ∧ i.size = 3 ∧ i.bytes = 24 := by
    have h := fr_info
    cases hq : Tryz.prog.info? 24 with
    | none => rw [hq] at h; cases h
    | some i => rw [hq] at h; simp only [Option.map_some, Option.some.injEq, Prod.mk.injEq] at h; exact ⟨i, rfl, h.1, h.2.1, h.2.2⟩
  go_loopw [10, 11] (fun vv iv wr => ∃ (i : Nat) (V : World), iv = .int .i64 i ∧ V = wr ∧ i ≤ 3 ∧ Hid (SF c k a bc bk ba B7 B8 base w V (fun _ => (0, [])) (fun _ => .slice none 0 0) (fun _ => 0)) ∧ Hid (V.ownsRow base 24 3 vv i (rcs (ptl a i)))) (fun _ iv _ => 3 - (intOf iv).toNat)
  case atStart => exact ⟨0, W, rfl, rfl, by omega, hT, own0⟩
  case round =>
    clear hT own0
    obtain ⟨i, V, rfl, e, hi3, hT, own⟩ := hrel
    subst e
    by_cases c3 : i < 3
    · have c3' : (i : Int) < 3 := by omega
      go_upto_region 8 with fail
      have aI := hT.out.aa i (by omega)
      have ke := ls_exact (a i) (sa i)
      have ko := ls_of (a i) (sa i)
      have ix := ixa ba i (by omega)
      have wa : IntKind.i64.wrap (a i) = a i := by have := ha i; rw [IntKind.wrap_i64]; omega
      have hall : ∀ X9, Below V.heap.size V X9 → X9.cell? ⟨ba, i, none⟩ = some (.int .i16 (a i)) := fun X9 cc => sO cc aI
      refine wp_region_pre 13 [28, 29, 30, 31, 32, 33, 34, 35, 36, 37, 38, 39, 40] (Rls [Eqv (u10), Eqv (.int .i64 i), Eqv (.pointer (some ⟨ba, i, none⟩)), Eqv (.int .i16 (a i)), Eqv (.int .i64 (a i)), Eqv (.int .u64 (mI (a i))), Eqv (.int .i64 i), Eqv (.pointer (some ⟨ba, i, none⟩)), Eqv (.int .i16 (a i)), Eqv (.int .i64 (a i)), Eqv (.int .u64 (mI (a i))), Eqv (.agg #[.bool false, .int .u64 (mI (a i)), .int .u64 (mI (a i))]), (fun v w => ∃ b, v = .slice (some ⟨b, 0, none⟩) 1 1 ∧ w.heap[b]? = some (.cells #[.bool false, .int .u64 (mI (a i)), .int .u64 (mI (a i))] 24 (0, 0)) ∧ V.heap.size ≤ b)]) [0, 1, 2, 3, 4, 5, 6, 7, 8, 9, 10, 11, 12] (by kernel_rfl) (by kernel_rfl) (by kernel_rfl) (by kernel_rfl) (by kernel_rfl) (r := 2) (lst := #[true, true, true, true, true, true, true, true, true, true, true, true, true, false, false]) (by kernel_rfl) (by kernel_rfl) (MonoL.of (MonoL.eq (MonoL.eq (MonoL.eq (MonoL.eq (MonoL.eq (MonoL.eq (MonoL.eq (MonoL.eq (MonoL.eq (MonoL.eq (MonoL.eq (MonoL.eq (MonoL.cons (fun v w w2 ⟨b, h1, h2, h3⟩ g => ⟨b, h1, lw_on g h2, h3⟩) MonoL.nil)))))))))))))) ?_ ?_
      · skip
        refine StepsI.cons (o := _) rfl ?_ ?_
        · try simp only [List.getElem_toArray, List.getElem_cons_zero, List.getElem_cons_succ]
          refine StepI.of ?_ ?_ ?_
          · rfl
          · kernel_rfl
          intro A w hb hT0 hd0 K hK
          have f0 : A.tmps[10]?.getD undef = u10 := hT0 10 (by kernel_rfl)
          clear hT0 hd0
          go_simp
          exact hK.out _ _ (Below.refl _ _) rfl
        refine StepsI.cons (o := _) rfl ?_ ?_
        · try simp only [List.getElem_toArray, List.getElem_cons_zero, List.getElem_cons_succ]
          refine StepI.of ?_ ?_ ?_
          · rfl
          · kernel_rfl
          intro A w hb hT0 hd0 K hK
          have f0 : A.tmps[11]?.getD undef = .int .i64 i := hT0 11 (by kernel_rfl)
          clear hT0 hd0
          go_simp
          exact hK.out _ _ (Below.refl _ _) rfl
        refine StepsI.cons (o := _) rfl ?_ ?_
        · try simp only [List.getElem_toArray, List.getElem_cons_zero, List.getElem_cons_succ]
          refine StepI.of ?_ ?_ ?_
          · rfl
          · kernel_rfl
          intro A w hb hT0 hd0 K hK
          have e0 : A.tmps[29]?.getD undef = .int .i64 i := hd0 1 29 (by kernel_rfl)
          have f0 : A.tmps[5]?.getD undef = .pointer (some ⟨ba, 0, none⟩) := hT0 5 (by kernel_rfl)
          clear hT0 hd0
          go_simp
          exact hK.out _ _ (Below.refl _ _) rfl
        refine StepsI.cons (o := _) rfl ?_ ?_
        · try simp only [List.getElem_toArray, List.getElem_cons_zero, List.getElem_cons_succ]
          refine StepI.of ?_ ?_ ?_
          · rfl
          · kernel_rfl
          intro A w hb hT0 hd0 K hK
          have z0 := hall w hb
          have e0 : A.tmps[30]?.getD undef = .pointer (some ⟨ba, i, none⟩) := hd0 2 30 (by kernel_rfl)
          clear hT0 hd0
          go_simp
          exact hK.out _ _ (Below.refl _ _) rfl
        refine StepsI.cons (o := _) rfl ?_ ?_
        · try simp only [List.getElem_toArray, List.getElem_cons_zero, List.getElem_cons_succ]
          refine StepI.of ?_ ?_ ?_
          · rfl
          · kernel_rfl
          intro A w hb hT0 hd0 K hK
          have e0 : A.tmps[31]?.getD undef = .int .i16 (a i) := hd0 3 31 (by kernel_rfl)
          clear hT0 hd0
          go_simp
          exact hK.out _ _ (Below.refl _ _) rfl
        refine StepsI.cons (o := _) rfl ?_ ?_
        · try simp only [List.getElem_toArray, List.getElem_cons_zero, List.getElem_cons_succ]
          refine StepI.of ?_ ?_ ?_
          · rfl
          · kernel_rfl
          intro A w hb hT0 hd0 K hK
          have e0 : A.tmps[32]?.getD undef = .int .i64 (a i) := hd0 4 32 (by kernel_rfl)
          clear hT0 hd0
          go_simp
          refine (ke _).mono ?_
          rintro e w2 ⟨rfl, g⟩
          exact hK.out _ _ g (rfl)
        refine StepsI.cons (o := _) rfl ?_ ?_
        · try simp only [List.getElem_toArray, List.getElem_cons_zero, List.getElem_cons_succ]
          refine StepI.of ?_ ?_ ?_
          · rfl
          · kernel_rfl
          intro A w hb hT0 hd0 K hK
          have f0 : A.tmps[11]?.getD undef = .int .i64 i := hT0 11 (by kernel_rfl)
          clear hT0 hd0
          go_simp
          exact hK.out _ _ (Below.refl _ _) rfl
        refine StepsI.cons (o := _) rfl ?_ ?_
        · try simp only [List.getElem_toArray, List.getElem_cons_zero, List.getElem_cons_succ]
          refine StepI.of ?_ ?_ ?_
          · rfl
          · kernel_rfl
          intro A w hb hT0 hd0 K hK
          have e0 : A.tmps[34]?.getD undef = .int .i64 i := hd0 6 34 (by kernel_rfl)
          have f0 : A.tmps[5]?.getD undef = .pointer (some ⟨ba, 0, none⟩) := hT0 5 (by kernel_rfl)
          clear hT0 hd0
          go_simp
          exact hK.out _ _ (Below.refl _ _) rfl
        refine StepsI.cons (o := _) rfl ?_ ?_
        · try simp only [List.getElem_toArray, List.getElem_cons_zero, List.getElem_cons_succ]
          refine StepI.of ?_ ?_ ?_
          · rfl
          · kernel_rfl
          intro A w hb hT0 hd0 K hK
          have z0 := hall w hb
          have e0 : A.tmps[35]?.getD undef = .pointer (some ⟨ba, i, none⟩) := hd0 7 35 (by kernel_rfl)
          clear hT0 hd0
          go_simp
          exact hK.out _ _ (Below.refl _ _) rfl
        refine StepsI.cons (o := _) rfl ?_ ?_
        · try simp only [List.getElem_toArray, List.getElem_cons_zero, List.getElem_cons_succ]
          refine StepI.of ?_ ?_ ?_
          · rfl
          · kernel_rfl
          intro A w hb hT0 hd0 K hK
          have e0 : A.tmps[36]?.getD undef = .int .i16 (a i) := hd0 8 36 (by kernel_rfl)
          clear hT0 hd0
          go_simp
          exact hK.out _ _ (Below.refl _ _) rfl
        refine StepsI.cons (o := _) rfl ?_ ?_
        · try simp only [List.getElem_toArray, List.getElem_cons_zero, List.getElem_cons_succ]
          refine StepI.of ?_ ?_ ?_
          · rfl
          · kernel_rfl
          intro A w hb hT0 hd0 K hK
          have e0 : A.tmps[37]?.getD undef = .int .i64 (a i) := hd0 9 37 (by kernel_rfl)
          clear hT0 hd0
          go_simp
          refine (ke _).mono ?_
          rintro e w2 ⟨rfl, g⟩
          exact hK.out _ _ g (rfl)
        refine StepsI.cons (o := _) rfl ?_ ?_
        · try simp only [List.getElem_toArray, List.getElem_cons_zero, List.getElem_cons_succ]
          refine StepI.of ?_ ?_ ?_
          · rfl
          · kernel_rfl
          intro A w hb hT0 hd0 K hK
          have e0 : A.tmps[33]?.getD undef = .int .u64 (mI (a i)) := hd0 5 33 (by kernel_rfl)
          have e1 : A.tmps[38]?.getD undef = .int .u64 (mI (a i)) := hd0 10 38 (by kernel_rfl)
          clear hT0 hd0
          go_simp
          refine (ko _).mono ?_
          rintro e w2 ⟨rfl, g⟩
          exact hK.out _ _ g (rfl)
        refine StepsI.cons (o := _) rfl ?_ ?_
        · try simp only [List.getElem_toArray, List.getElem_cons_zero, List.getElem_cons_succ]
          refine StepI.of ?_ ?_ ?_
          · rfl
          · kernel_rfl
          intro A w hb hT0 hd0 K hK
          have e0 : A.tmps[39]?.getD undef = .agg #[.bool false, .int .u64 (mI (a i)), .int .u64 (mI (a i))] := hd0 11 39 (by kernel_rfl)
          clear hT0 hd0
          go_simp
          exact hK.out _ _ (sp_new (Below.refl _ _) _) ⟨_, rfl, World.alloc_heap_new _ _, hb.size⟩
        exact StepsI.nil
      intro f g wz hb hR
      have e0 : g 28 = u10 := hR 0 28 (by decide) (by kernel_rfl)
      obtain ⟨b, e12, q12, hbb⟩ : ∃ b, g 40 = .slice (some ⟨b, 0, none⟩) 1 1 ∧ wz.heap[b]? = some (.cells #[.bool false, .int .u64 (mI (a i)), .int .u64 (mI (a i))] 24 (0, 0)) ∧ V.heap.size ≤ b := hR 12 40 (by decide) (by kernel_rfl)
      simp only [fillT, List.foldl_cons, List.foldl_nil, List.setIfInBounds_toArray, List.set_cons_zero, List.set_cons_succ]
      refine wpAny_ready (rs := [13]) (by kernel_rfl) (by simp) (AllReady.cons (o := _) rfl (fun K hK => ?_) AllReady.nil)
      try simp only [List.getElem_toArray, List.getElem_cons_zero, List.getElem_cons_succ]
      rw [if_pos (show Region.wanted _ _ = true from rfl)]
      have hTz := hT.out.on hb
      have ownz := lo_on hb own.out
      obtain ⟨v2, W2, hr, hown2, hgrow, _, hat⟩ := run_append_own_at (P := Tryz.prog) wz base 51 51 24 i0 (.agg #[.bool false, .int .u64 0, .int .u64 0]) 3 24 Tryz.underlying51 hi hz0 hz1 hz2 rfl (by decide) _ _ _ ownz ⟨b, 0, none⟩ 1 1 [.bool false, .int .u64 (mI (a i)), .int .u64 (mI (a i))] rfl (ls_cell q12) (fr_one _ _ _) (by unfold maxLen; omega) (by omega) (by have := hTz.nb; omega)
      refine wp_appendAt (.tmp 28) (.tmp 40) 51 rfl u10 (.slice (some ⟨b, 0, none⟩) 1 1) e0 e12 v2 W2 hr ?_
      refine hK _ _ ?_
      clear hK K
      try simp only [Act.put, List.getElem_toArray, List.getElem_cons_zero, List.getElem_cons_succ, List.setIfInBounds_toArray, List.set_cons_zero, List.set_cons_succ]
      refine wpAny_ready (rs := [14]) (by kernel_rfl) (by simp) (AllReady.cons (o := _) rfl (fun K hK => ?_) AllReady.nil)
      go_simp
      refine hK _ _ ?_
      clear hK K
      refine wpAny_done (by kernel_rfl) ?_ _
      have snoc : rcs (ptl a (i + 1)) = rcs (ptl a i) ++ [.bool false, .int .u64 (mI (a i)), .int .u64 (mI (a i))] := by rw [ptl_succ, rcs_app]; rfl
      have hT2 : SF c k a bc bk ba B7 B8 base w W2 (fun _ => (0, [])) (fun _ => .slice none 0 0) (fun _ => 0) := hTz.kept (hTz.bw.grown hgrow (by have := hTz.nb; omega) (fun x hx => by have := (ownz.lt x hx).1; have := hTz.nb; omega)) hgrow.size (fun x hx => hgrow.block x (by have := hTz.nb; omega) (fun e => by have := (ownz.lt x e.symm).1; omega)) (fun _ _ => rfl)
      rw [← snoc] at hown2
      go_wp2_with fail
      exact ⟨⟨i + 1, W2, by go_num, rfl, by omega, hT2, hown2⟩, by simp [intOf]; omega⟩
    · obtain rfl : i = 3 := by omega
      have hV : Hid (VF a B7 B8 V u10) := by
        refine ⟨lo_rat (by rw [ptl_len]; exact own.out), Or.inr ?_⟩
        rcases lo_cells own.out with ⟨_, h⟩ | ⟨b, p, e, l, _, m, _⟩
        · omega
        · exact ⟨b, 0, p, e, l, by have := hT.out.nb; omega, by have := hT.out.nb; omega⟩
      generalize u10 = vv at *
      clear own
      go_upto_region 9 with fail
      go_upto_region 10 with fail
      (try rw [show (((3 : Nat) : Int)) = 3 from rfl])
      go_loopw [12, 13, 14] (fun iv _ _ wr => ∃ (i : Nat) (F : Nat → Zf) (v : Nat → Value) (s : Nat → Int) (V : World), iv = .int .i64 i ∧ V = wr ∧ i ≤ 2 ∧ Hid (SF c k a bc bk ba B7 B8 base w V F v s) ∧ Hid (VF a B7 B8 V vv) ∧ Hid (∀ j, j < i → SG a 3 (F j) (s j))) (fun iv _ _ _ => 2 - (intOf iv).toNat)
      case atStart => exact ⟨0, _, _, _, V, rfl, rfl, by omega, hT, hV, fun j hj => by omega⟩
      case round =>
        clear hT hV
        obtain ⟨i, F, v, s, V, rfl, e, hi2, hT, hV, hG⟩ := hrel
        subst e
        by_cases c2 : i < 2
        · have c2' : (i : Int) < 2 := by omega
          go_upto_region 12 with fail
          have cI := hT.out.cc i c2
          have ke := ls_exact (c i) (sc i)
          have ko := ls_of (c i) (sc i)
          have kl := tf_lof (c i) (sc i)
          have ix := ixc bc i c2
          have ixf := ix7 B7 i c2
          have wc : IntKind.i64.wrap (c i) = c i := by have := hc i; rw [IntKind.wrap_i64]; omega
          have hall : ∀ X9, Below V.heap.size V X9 → X9.cell? ⟨bc, i, none⟩ = some (.int .i16 (c i)) := fun X9 cc => sO cc cI
          refine wp_region_pre 14 [46, 47, 48, 49, 50, 51, 52, 53, 54, 55, 56, 57, 58, 59] (Rls [Eqv (.int .i64 i), Eqv (.int .i64 i), Eqv (.pointer (some ⟨bc, i, none⟩)), Eqv (.int .i16 (c i)), Eqv (.int .i64 (c i)), Eqv (.int .u64 (mI (c i))), Eqv (.int .i64 i), Eqv (.pointer (some ⟨bc, i, none⟩)), Eqv (.int .i16 (c i)), Eqv (.int .i64 (c i)), Eqv (.int .u64 (mI (c i))), Eqv (.agg #[.bool false, .int .u64 (mI (c i)), .int .u64 (mI (c i))]), Eqv (.agg #[.bool false, .bool false, .int .u64 (mI (c i, ([] : List (Int × Int))).1), .int .u64 (mI (c i, ([] : List (Int × Int))).1), .slice none 0 0]), Eqv (.pointer (some ⟨B7, i * 5, none⟩))]) [0, 1, 2, 3, 4, 5, 6, 7, 8, 9, 10, 11, 12, 13] (by kernel_rfl) (by kernel_rfl) (by kernel_rfl) (by kernel_rfl) (by kernel_rfl) (r := 1) (lst := #[true, true, true, true, true, true, true, true, true, true, true, true, true, true, false]) (by kernel_rfl) (by kernel_rfl) (MonoL.of (MonoL.eq (MonoL.eq (MonoL.eq (MonoL.eq (MonoL.eq (MonoL.eq (MonoL.eq (MonoL.eq (MonoL.eq (MonoL.eq (MonoL.eq (MonoL.eq (MonoL.eq (MonoL.eq MonoL.nil))))))))))))))) ?_ ?_
          · skip
            refine StepsI.cons (o := _) rfl ?_ ?_
            · try simp only [List.getElem_toArray, List.getElem_cons_zero, List.getElem_cons_succ]
              refine StepI.of ?_ ?_ ?_
              · rfl
              · kernel_rfl
              intro A w hb hT0 hd0 K hK
              have f0 : A.tmps[12]?.getD undef = .int .i64 i := hT0 12 (by kernel_rfl)
              clear hT0 hd0
              go_simp
              exact hK.out _ _ (Below.refl _ _) rfl
            refine StepsI.cons (o := _) rfl ?_ ?_
            · try simp only [List.getElem_toArray, List.getElem_cons_zero, List.getElem_cons_succ]
              refine StepI.of ?_ ?_ ?_
              · rfl
              · kernel_rfl
              intro A w hb hT0 hd0 K hK
              have f0 : A.tmps[12]?.getD undef = .int .i64 i := hT0 12 (by kernel_rfl)
              clear hT0 hd0
              go_simp
              exact hK.out _ _ (Below.refl _ _) rfl
            refine StepsI.cons (o := _) rfl ?_ ?_
            · try simp only [List.getElem_toArray, List.getElem_cons_zero, List.getElem_cons_succ]
              refine StepI.of ?_ ?_ ?_
              · rfl
              · kernel_rfl
              intro A w hb hT0 hd0 K hK
              have e0 : A.tmps[47]?.getD undef = .int .i64 i := hd0 1 47 (by kernel_rfl)
              have f0 : A.tmps[3]?.getD undef = .pointer (some ⟨bc, 0, none⟩) := hT0 3 (by kernel_rfl)
              clear hT0 hd0
              go_simp
              exact hK.out _ _ (Below.refl _ _) rfl
            refine StepsI.cons (o := _) rfl ?_ ?_
            · try simp only [List.getElem_toArray, List.getElem_cons_zero, List.getElem_cons_succ]
              refine StepI.of ?_ ?_ ?_
              · rfl
              · kernel_rfl
              intro A w hb hT0 hd0 K hK
              have z0 := hall w hb
              have e0 : A.tmps[48]?.getD undef = .pointer (some ⟨bc, i, none⟩) := hd0 2 48 (by kernel_rfl)
              clear hT0 hd0
              go_simp
              exact hK.out _ _ (Below.refl _ _) rfl
            refine StepsI.cons (o := _) rfl ?_ ?_
            · try simp only [List.getElem_toArray, List.getElem_cons_zero, List.getElem_cons_succ]
              refine StepI.of ?_ ?_ ?_
              · rfl
              · kernel_rfl
              intro A w hb hT0 hd0 K hK
              have e0 : A.tmps[49]?.getD undef = .int .i16 (c i) := hd0 3 49 (by kernel_rfl)
              clear hT0 hd0
              go_simp
              exact hK.out _ _ (Below.refl _ _) rfl
            refine StepsI.cons (o := _) rfl ?_ ?_
            · try simp only [List.getElem_toArray, List.getElem_cons_zero, List.getElem_cons_succ]
              refine StepI.of ?_ ?_ ?_
              · rfl
              · kernel_rfl
              intro A w hb hT0 hd0 K hK
              have e0 : A.tmps[50]?.getD undef = .int .i64 (c i) := hd0 4 50 (by kernel_rfl)
              clear hT0 hd0
              go_simp
              refine (ke _).mono ?_
              rintro e w2 ⟨rfl, g⟩
              exact hK.out _ _ g (rfl)
            refine StepsI.cons (o := _) rfl ?_ ?_
            · try simp only [List.getElem_toArray, List.getElem_cons_zero, List.getElem_cons_succ]
              refine StepI.of ?_ ?_ ?_
              · rfl
              · kernel_rfl
              intro A w hb hT0 hd0 K hK
              have f0 : A.tmps[12]?.getD undef = .int .i64 i := hT0 12 (by kernel_rfl)
              clear hT0 hd0
              go_simp
              exact hK.out _ _ (Below.refl _ _) rfl
            refine StepsI.cons (o := _) rfl ?_ ?_
            · try simp only [List.getElem_toArray, List.getElem_cons_zero, List.getElem_cons_succ]
              refine StepI.of ?_ ?_ ?_
              · rfl
              · kernel_rfl
              intro A w hb hT0 hd0 K hK
              have e0 : A.tmps[52]?.getD undef = .int .i64 i := hd0 6 52 (by kernel_rfl)
              have f0 : A.tmps[3]?.getD undef = .pointer (some ⟨bc, 0, none⟩) := hT0 3 (by kernel_rfl)
              clear hT0 hd0
              go_simp
              exact hK.out _ _ (Below.refl _ _) rfl
            refine StepsI.cons (o := _) rfl ?_ ?_
            · try simp only [List.getElem_toArray, List.getElem_cons_zero, List.getElem_cons_succ]
              refine StepI.of ?_ ?_ ?_
              · rfl
              · kernel_rfl
              intro A w hb hT0 hd0 K hK
              have z0 := hall w hb
              have e0 : A.tmps[53]?.getD undef = .pointer (some ⟨bc, i, none⟩) := hd0 7 53 (by kernel_rfl)
              clear hT0 hd0
              go_simp
              exact hK.out _ _ (Below.refl _ _) rfl
            refine StepsI.cons (o := _) rfl ?_ ?_
            · try simp only [List.getElem_toArray, List.getElem_cons_zero, List.getElem_cons_succ]
              refine StepI.of ?_ ?_ ?_
              · rfl
              · kernel_rfl
              intro A w hb hT0 hd0 K hK
              have e0 : A.tmps[54]?.getD undef = .int .i16 (c i) := hd0 8 54 (by kernel_rfl)
              clear hT0 hd0
              go_simp
              exact hK.out _ _ (Below.refl _ _) rfl
            refine StepsI.cons (o := _) rfl ?_ ?_
            · try simp only [List.getElem_toArray, List.getElem_cons_zero, List.getElem_cons_succ]
              refine StepI.of ?_ ?_ ?_
              · rfl
              · kernel_rfl
              intro A w hb hT0 hd0 K hK
              have e0 : A.tmps[55]?.getD undef = .int .i64 (c i) := hd0 9 55 (by kernel_rfl)
              clear hT0 hd0
              go_simp
              refine (ke _).mono ?_
              rintro e w2 ⟨rfl, g⟩
              exact hK.out _ _ g (rfl)
            refine StepsI.cons (o := _) rfl ?_ ?_
            · try simp only [List.getElem_toArray, List.getElem_cons_zero, List.getElem_cons_succ]
              refine StepI.of ?_ ?_ ?_
              · rfl
              · kernel_rfl
              intro A w hb hT0 hd0 K hK
              have e0 : A.tmps[51]?.getD undef = .int .u64 (mI (c i)) := hd0 5 51 (by kernel_rfl)
              have e1 : A.tmps[56]?.getD undef = .int .u64 (mI (c i)) := hd0 10 56 (by kernel_rfl)
              clear hT0 hd0
              go_simp
              refine (ko _).mono ?_
              rintro e w2 ⟨rfl, g⟩
              exact hK.out _ _ g (rfl)
            refine StepsI.cons (o := _) rfl ?_ ?_
            · try simp only [List.getElem_toArray, List.getElem_cons_zero, List.getElem_cons_succ]
              refine StepI.of ?_ ?_ ?_
              · rfl
              · kernel_rfl
              intro A w hb hT0 hd0 K hK
              have e0 : A.tmps[57]?.getD undef = .agg #[.bool false, .int .u64 (mI (c i)), .int .u64 (mI (c i))] := hd0 11 57 (by kernel_rfl)
              clear hT0 hd0
              go_simp
              refine (kl _).mono ?_
              rintro e w2 ⟨rfl, g⟩
              exact hK.out _ _ g (rfl)
            refine StepsI.cons (o := _) rfl ?_ ?_
            · try simp only [List.getElem_toArray, List.getElem_cons_zero, List.getElem_cons_succ]
              refine StepI.of ?_ ?_ ?_
              · rfl
              · kernel_rfl
              intro A w hb hT0 hd0 K hK
              have e0 : A.tmps[46]?.getD undef = .int .i64 i := hd0 0 46 (by kernel_rfl)
              have f0 : A.tmps[7]?.getD undef = .pointer (some ⟨B7, 0, none⟩) := hT0 7 (by kernel_rfl)
              clear hT0 hd0
              go_simp
              exact hK.out _ _ (Below.refl _ _) rfl
            exact StepsI.nil
          intro f g wz hb hR
          have e12 : g 58 = .agg #[.bool false, .bool false, .int .u64 (mI (c i, ([] : List (Int × Int))).1), .int .u64 (mI (c i, ([] : List (Int × Int))).1), .slice none 0 0] := hR 12 58 (by decide) (by kernel_rfl)
          have e13 : g 59 = .pointer (some ⟨B7, i * 5, none⟩) := hR 13 59 (by decide) (by kernel_rfl)
          simp only [fillT, List.foldl_cons, List.foldl_nil, List.setIfInBounds_toArray, List.set_cons_zero, List.set_cons_succ]
          rw [e12, e13]
          replace hT := hT.out.on hb
          replace hV := hV.out.on hb
          obtain ⟨p0, p1, p2, p3, p4, pf⟩ := hT.at7 c2
          refine wpAny_ready (rs := [14]) (by kernel_rfl) (by simp) (AllReady.cons (o := _) rfl (fun K hK => ?_) AllReady.nil)
          go_simp
          refine hK _ _ ?_
          clear hK K
          refine wpAny_done (by kernel_rfl) ?_ _
          replace hT := hT.form (Z := (c i, [])) (rv := .slice none 0 0) c2 (Or.inl ⟨rfl, rfl⟩) (fun b o n p e => by cases e) (Nat.le_refl base)
          replace hV := hV.set5o (o := i * 5) (x0 := .bool false) (x1 := .bool false) (x2 := .int .u64 (mI (c i))) (x3 := .int .u64 (mI (c i))) (x4 := .slice none 0 0)
          obtain ⟨V2, hV2⟩ : ∃ X, set5o wz B7 (i * 5) (.bool false) (.bool false) (.int .u64 (mI (c i))) (.int .u64 (mI (c i))) (.slice none 0 0) = X := ⟨_, rfl⟩
          simp only [] at hT hV
          rw [hV2] at hT hV
          unfold set5o at hV2
          rw [hV2]
          clear hV2 p0 p1 p2 p3 p4 pf e12 e13 hb hR
          obtain ⟨F1, hF1⟩ : ∃ f : Nat → Zf, (fun j => if j = i then (c i, []) else F j) = f := ⟨_, rfl⟩
          obtain ⟨v1, hv1⟩ : ∃ f : Nat → Value, (fun j => if j = i then .slice none 0 0 else v j) = f := ⟨_, rfl⟩
          rw [hF1, hv1] at hT
          have F1i : F1 i = (c i, []) := by rw [← hF1]; simp
          have hG1 : Hid (∀ j, j < i → SG a 3 (F1 j) (s j)) := fun j hj => by
            have := hG.out j hj
            rw [← hF1]
            simpa [show j ≠ i by omega] using this
          clear hF1 hv1 hG hall cI
          obtain ⟨y0, yf⟩ := hT.at8 c2
          have cI := hT.cc i c2
          have ix8i := ix8 B8 i c2
          go_upto_region 14 with fail
          replace hT := hT.sum c2 (c i)
          replace hV := hV.set (o := i) (x := .int .i64 (c i))
          obtain ⟨V3, hV3⟩ : ∃ X, V2.setCell ⟨B8, i, none⟩ (.int .i64 (c i)) = X := ⟨_, rfl⟩
          rw [hV3] at hT hV
          rw [hV3]
          obtain ⟨s1, hs1⟩ : ∃ f : Nat → Int, (fun j => if j = i then c i else s j) = f := ⟨_, rfl⟩
          rw [hs1] at hT
          have hS : Hid (SG a 0 (F1 i) (s1 i)) := by
            have := hc i
            rw [F1i, ← hs1]
            show SG a 0 (c i, []) (if i = i then c i else s i)
            rw [if_pos rfl]
            exact ⟨okz_c (by omega) (by decide), by simp [vlZ, vlL], by omega⟩
          have hG : Hid (∀ j, j < i → SG a 3 (F1 j) (s1 j)) := fun j hj => by
            have := hG1.out j hj
            rw [← hs1]
            simpa [show j ≠ i by omega] using this
          clear hV3 hs1 F1i hG1 y0 yf cI ke ko kl ix wc
          replace hT : Hid _ := hT
          replace hV : Hid _ := hV
          go_upto_region 15 with fail
          go_loopw [13, 14] (fun kv _ wr => ∃ (q : Nat) (F : Nat → Zf) (v : Nat → Value) (s : Nat → Int) (V : World), kv = .int .i64 q ∧ V = wr ∧ q ≤ 3 ∧ Hid (SF c k a bc bk ba B7 B8 base w V F v s) ∧ Hid (VF a B7 B8 V vv) ∧ Hid (∀ j, j < i → SG a 3 (F j) (s j)) ∧ Hid (SG a q (F i) (s i))) (fun kv _ _ => 3 - (intOf kv).toNat)
          case atStart => exact ⟨0, _, _, _, _, rfl, rfl, by omega, hT, hV, hG, hS⟩
          case round =>
            clear hT hV hG hS
            obtain ⟨q, F, v, s, V, rfl, e, hq3, hT, hV, hG, hS⟩ := hrel
            subst e
            by_cases q3 : q < 3
            · have q3' : (q : Int) < 3 := by omega
              obtain ⟨Y, Z', e1, ok1, e2, ok2, hval⟩ := ls_step q3 hS.out.ok (k (i * 3 + q)) (hk _)
              have kI := hT.out.kk (i * 3 + q) (by omega)
              have ixq1 := ixk1 bk i c2
              have ixq2 := ixk2 bk (i * 3) q q3
              have ke := ls_exact (k (i * 3 + q)) (sk _)
              have wk : IntKind.i64.wrap (k (i * 3 + q)) = (k (i * 3 + q)) := by have := hk (i * 3 + q); rw [IntKind.wrap_i64]; omega
              go_upto_region 18 with (first
                | (go_at_call 43; (with_reducible refine (ke _).mono ?_); rintro e V1 ⟨rfl, g⟩; replace hT := hT.out.on g; replace hV := hV.out.on g; clear g)
                | fail)
              have kv := tf_var (q : Int) (by omega) q3'
              have ko2 := ls_of (k (i * 3 + q)) (sk _)
              have ks := tf_sca (okz_v (k := (q : Int)) (by omega) q3').1 (by decide) (by decide) (k (i * 3 + q)) (sk _) e1
              have ka := tf_add hS.out.ok ok1 (by omega) (by decide) (by omega) (by decide) e2
              obtain ⟨p0, p1, p2, p3, p4, pf⟩ := hT.at7 c2
              have hall : ∀ X9, Below V1.heap.size V1 X9 → (X9.cell? ⟨B7, i * 5, none⟩ = some (.bool false) ∧ X9.cell? ⟨B7, i * 5 + 1, none⟩ = some (.bool false) ∧ X9.cell? ⟨B7, i * 5 + 2, none⟩ = some (.int .u64 (mI (F i).1)) ∧ X9.cell? ⟨B7, i * 5 + 3, none⟩ = some (.int .u64 (mI (F i).1)) ∧ X9.cell? ⟨B7, i * 5 + 4, none⟩ = some (v i)) := fun X9 cc => ⟨sO cc p0, sO cc p1, sO cc p2, sO cc p3, sO cc p4⟩
              go_upto_region 18 with fail
              refine wp_region_pre 12 [77, 78, 79, 80, 81, 82, 83, 84, 85, 86, 87, 88] (Rls [Eqv (.int .i64 i), Eqv (.int .i64 i), Eqv (.pointer (some ⟨B7, i * 5, none⟩)), Eqv (.agg #[.bool false, .bool false, .int .u64 (mI (F i).1), .int .u64 (mI (F i).1), v i]), Eqv (.int .i64 q), (fun v w => ∃ rv, v = .agg #[.bool false, .bool false, .int .u64 (mI ((0, [((q : Int), 1)]) : Zf).1), .int .u64 (mI ((0, [((q : Int), 1)]) : Zf).1), rv] ∧ TAt w rv (tI [((q : Int), 1)])), Eqv (.int .u64 (mI (k (i * 3 + q)))), Eqv (.int .u64 (mI (k (i * 3 + q)))), Eqv (.agg #[.bool false, .int .u64 (mI (k (i * 3 + q))), .int .u64 (mI (k (i * 3 + q)))]), (fun v w => ∃ rv, v = .agg #[.bool false, .bool false, .int .u64 (mI Y.1), .int .u64 (mI Y.1), rv] ∧ TAt w rv (tI Y.2)), (fun v w => ∃ rv, v = .agg #[.bool false, .bool false, .int .u64 (mI Z'.1), .int .u64 (mI Z'.1), rv] ∧ TAt w rv (tI Z'.2) ∧ Up V1.heap.size rv), Eqv (.pointer (some ⟨B7, i * 5, none⟩))]) [0, 1, 2, 3, 4, 5, 6, 7, 8, 9, 10, 11] (by kernel_rfl) (by kernel_rfl) (by kernel_rfl) (by kernel_rfl) (by kernel_rfl) (r := 1) (lst := #[true, true, true, true, true, true, true, true, true, true, true, true, false]) (by kernel_rfl) (by kernel_rfl) (MonoL.of (MonoL.eq (MonoL.eq (MonoL.eq (MonoL.eq (MonoL.eq (MonoL.cons (fun v w w2 ⟨rv, h1, h2⟩ g => ⟨rv, h1, h2.on g⟩) (MonoL.eq (MonoL.eq (MonoL.eq (MonoL.cons (fun v w w2 ⟨rv, h1, h2⟩ g => ⟨rv, h1, h2.on g⟩) (MonoL.cons (fun v w w2 ⟨rv, h1, h2, h3⟩ g => ⟨rv, h1, h2.on g, h3⟩) (MonoL.eq MonoL.nil))))))))))))) ?_ ?_
              · skip
                refine StepsI.cons (o := _) rfl ?_ ?_
                · try simp only [List.getElem_toArray, List.getElem_cons_zero, List.getElem_cons_succ]
                  refine StepI.of ?_ ?_ ?_
                  · rfl
                  · kernel_rfl
                  intro A w hb hT0 hd0 K hK
                  have f0 : A.tmps[12]?.getD undef = .int .i64 i := hT0 12 (by kernel_rfl)
                  clear hT0 hd0
                  go_simp
                  exact hK.out _ _ (Below.refl _ _) rfl
                refine StepsI.cons (o := _) rfl ?_ ?_
                · try simp only [List.getElem_toArray, List.getElem_cons_zero, List.getElem_cons_succ]
                  refine StepI.of ?_ ?_ ?_
                  · rfl
                  · kernel_rfl
                  intro A w hb hT0 hd0 K hK
                  have f0 : A.tmps[12]?.getD undef = .int .i64 i := hT0 12 (by kernel_rfl)
                  clear hT0 hd0
                  go_simp
                  exact hK.out _ _ (Below.refl _ _) rfl
                refine StepsI.cons (o := _) rfl ?_ ?_
                · try simp only [List.getElem_toArray, List.getElem_cons_zero, List.getElem_cons_succ]
                  refine StepI.of ?_ ?_ ?_
                  · rfl
                  · kernel_rfl
                  intro A w hb hT0 hd0 K hK
                  have e0 : A.tmps[78]?.getD undef = .int .i64 i := hd0 1 78 (by kernel_rfl)
                  have f0 : A.tmps[7]?.getD undef = .pointer (some ⟨B7, 0, none⟩) := hT0 7 (by kernel_rfl)
                  clear hT0 hd0
                  go_simp
                  exact hK.out _ _ (Below.refl _ _) rfl
                refine StepsI.cons (o := _) rfl ?_ ?_
                · try simp only [List.getElem_toArray, List.getElem_cons_zero, List.getElem_cons_succ]
                  refine StepI.of ?_ ?_ ?_
                  · rfl
                  · kernel_rfl
                  intro A w hb hT0 hd0 K hK
                  obtain ⟨z0, z1, z2, z3, z4⟩ := hall w hb
                  have e0 : A.tmps[79]?.getD undef = .pointer (some ⟨B7, i * 5, none⟩) := hd0 2 79 (by kernel_rfl)
                  clear hT0 hd0
                  go_simp
                  exact hK.out _ _ (Below.refl _ _) rfl
                refine StepsI.cons (o := _) rfl ?_ ?_
                · try simp only [List.getElem_toArray, List.getElem_cons_zero, List.getElem_cons_succ]
                  refine StepI.of ?_ ?_ ?_
                  · rfl
                  · kernel_rfl
                  intro A w hb hT0 hd0 K hK
                  have f0 : A.tmps[13]?.getD undef = .int .i64 q := hT0 13 (by kernel_rfl)
                  clear hT0 hd0
                  go_simp
                  exact hK.out _ _ (Below.refl _ _) rfl
                refine StepsI.cons (o := _) rfl ?_ ?_
                · try simp only [List.getElem_toArray, List.getElem_cons_zero, List.getElem_cons_succ]
                  refine StepI.of ?_ ?_ ?_
                  · rfl
                  · kernel_rfl
                  intro A w hb hT0 hd0 K hK
                  have e0 : A.tmps[81]?.getD undef = .int .i64 q := hd0 4 81 (by kernel_rfl)
                  clear hT0 hd0
                  go_simp
                  refine (kv _).mono ?_
                  rintro e w2 ⟨⟨rv, rfl, t4, _⟩, g⟩
                  exact hK.out _ _ g (⟨rv, rfl, t4⟩)
                refine StepsI.cons (o := _) rfl ?_ ?_
                · try simp only [List.getElem_toArray, List.getElem_cons_zero, List.getElem_cons_succ]
                  refine StepI.of ?_ ?_ ?_
                  · rfl
                  · kernel_rfl
                  intro A w hb hT0 hd0 K hK
                  have f0 : A.tmps[14]?.getD undef = .int .u64 (mI (k (i * 3 + q))) := hT0 14 (by kernel_rfl)
                  clear hT0 hd0
                  go_simp
                  exact hK.out _ _ (Below.refl _ _) rfl
                refine StepsI.cons (o := _) rfl ?_ ?_
                · try simp only [List.getElem_toArray, List.getElem_cons_zero, List.getElem_cons_succ]
                  refine StepI.of ?_ ?_ ?_
                  · rfl
                  · kernel_rfl
                  intro A w hb hT0 hd0 K hK
                  have f0 : A.tmps[14]?.getD undef = .int .u64 (mI (k (i * 3 + q))) := hT0 14 (by kernel_rfl)
                  clear hT0 hd0
                  go_simp
                  exact hK.out _ _ (Below.refl _ _) rfl
                refine StepsI.cons (o := _) rfl ?_ ?_
                · try simp only [List.getElem_toArray, List.getElem_cons_zero, List.getElem_cons_succ]
                  refine StepI.of ?_ ?_ ?_
                  · rfl
                  · kernel_rfl
                  intro A w hb hT0 hd0 K hK
                  have e0 : A.tmps[83]?.getD undef = .int .u64 (mI (k (i * 3 + q))) := hd0 6 83 (by kernel_rfl)
                  have e1 : A.tmps[84]?.getD undef = .int .u64 (mI (k (i * 3 + q))) := hd0 7 84 (by kernel_rfl)
                  clear hT0 hd0
                  go_simp
                  refine (ko2 _).mono ?_
                  rintro e w2 ⟨rfl, g⟩
                  exact hK.out _ _ g (rfl)
                refine StepsI.cons (o := _) rfl ?_ ?_
                · try simp only [List.getElem_toArray, List.getElem_cons_zero, List.getElem_cons_succ]
                  refine StepI.of ?_ ?_ ?_
                  · rfl
                  · kernel_rfl
                  intro A w hb hT0 hd0 K hK
                  have r0 := hd0 5 82 (by kernel_rfl)
                  have e1 : A.tmps[85]?.getD undef = .agg #[.bool false, .int .u64 (mI (k (i * 3 + q))), .int .u64 (mI (k (i * 3 + q)))] := hd0 8 85 (by kernel_rfl)
                  clear hT0 hd0
                  obtain ⟨rv4, x4, t4⟩ : ∃ rv, A.tmps[82]?.getD undef = .agg #[.bool false, .bool false, .int .u64 (mI ((0, [((q : Int), 1)]) : Zf).1), .int .u64 (mI ((0, [((q : Int), 1)]) : Zf).1), rv] ∧ TAt w rv (tI [((q : Int), 1)]) := r0
                  go_simp
                  refine (ks _ _ t4).mono ?_
                  rintro e w2 ⟨⟨rv, rfl, t6, _⟩, g⟩
                  exact hK.out _ _ g (⟨rv, rfl, t6⟩)
                refine StepsI.cons (o := _) rfl ?_ ?_
                · try simp only [List.getElem_toArray, List.getElem_cons_zero, List.getElem_cons_succ]
                  refine StepI.of ?_ ?_ ?_
                  · rfl
                  · kernel_rfl
                  intro A w hb hT0 hd0 K hK
                  have e0 : A.tmps[80]?.getD undef = .agg #[.bool false, .bool false, .int .u64 (mI (F i).1), .int .u64 (mI (F i).1), v i] := hd0 3 80 (by kernel_rfl)
                  have r1 := hd0 9 86 (by kernel_rfl)
                  clear hT0 hd0
                  obtain ⟨rv6, x6, t6⟩ : ∃ rv, A.tmps[86]?.getD undef = .agg #[.bool false, .bool false, .int .u64 (mI Y.1), .int .u64 (mI Y.1), rv] ∧ TAt w rv (tI Y.2) := r1
                  go_simp
                  refine (ka _ _ _ ((hT.on hb).t i c2) t6).mono ?_
                  rintro e w2 ⟨⟨rv, rfl, t7, u7⟩, g⟩
                  exact hK.out _ _ g (⟨rv, rfl, t7, fun b o n p e => Nat.le_trans hb.size (u7 b o n p e)⟩)
                refine StepsI.cons (o := _) rfl ?_ ?_
                · try simp only [List.getElem_toArray, List.getElem_cons_zero, List.getElem_cons_succ]
                  refine StepI.of ?_ ?_ ?_
                  · rfl
                  · kernel_rfl
                  intro A w hb hT0 hd0 K hK
                  have e0 : A.tmps[77]?.getD undef = .int .i64 i := hd0 0 77 (by kernel_rfl)
                  have f0 : A.tmps[7]?.getD undef = .pointer (some ⟨B7, 0, none⟩) := hT0 7 (by kernel_rfl)
                  clear hT0 hd0
                  go_simp
                  exact hK.out _ _ (Below.refl _ _) rfl
                exact StepsI.nil
              intro f g wz hb hR
              obtain ⟨rv, e10, t7, u7⟩ : ∃ rv, g 87 = .agg #[.bool false, .bool false, .int .u64 (mI Z'.1), .int .u64 (mI Z'.1), rv] ∧ TAt wz rv (tI Z'.2) ∧ Up V1.heap.size rv := hR 10 87 (by decide) (by kernel_rfl)
              have e11 : g 88 = .pointer (some ⟨B7, i * 5, none⟩) := hR 11 88 (by decide) (by kernel_rfl)
              simp only [fillT, List.foldl_cons, List.foldl_nil, List.setIfInBounds_toArray, List.set_cons_zero, List.set_cons_succ]
              rw [e10, e11]
              have nbz := hT.nb
              replace hT := hT.on hb
              replace hV := hV.on hb
              clear p0 p1 p2 p3 p4 pf
              obtain ⟨p0, p1, p2, p3, p4, pf⟩ := hT.at7 c2
              obtain ⟨pp, nn, rfl⟩ := t7.len
              refine wpAny_ready (rs := [12]) (by kernel_rfl) (by simp) (AllReady.cons (o := _) rfl (fun K hK => ?_) AllReady.nil)
              go_simp
              refine hK _ _ ?_
              clear hK K
              refine wpAny_done (by kernel_rfl) ?_ _
              replace hT := hT.form c2 t7 u7 nbz.2.2.2.2.2.1
              replace hV := hV.set5o (o := i * 5) (x0 := .bool false) (x1 := .bool false) (x2 := .int .u64 (mI Z'.1)) (x3 := .int .u64 (mI Z'.1)) (x4 := .slice pp (tI Z'.2).length nn)
              obtain ⟨V2, hV2⟩ : ∃ X, set5o wz B7 (i * 5) (.bool false) (.bool false) (.int .u64 (mI Z'.1)) (.int .u64 (mI Z'.1)) (.slice pp (tI Z'.2).length nn) = X := ⟨_, rfl⟩
              rw [hV2] at hT hV
              unfold set5o at hV2
              rw [hV2]
              clear hV2 p0 p1 p2 p3 p4 pf e10 e11 hb hR t7 u7 nbz kv ks ka hall
              obtain ⟨F1, hF1⟩ : ∃ f : Nat → Zf, (fun j => if j = i then Z' else F j) = f := ⟨_, rfl⟩
              obtain ⟨v1, hv1⟩ : ∃ f : Nat → Value, (fun j => if j = i then .slice pp (tI Z'.2).length nn else v j) = f := ⟨_, rfl⟩
              rw [hF1, hv1] at hT
              have hS1 : Hid (SG a (q + 1) (F1 i) (s i + (k (i * 3 + q)) * a q)) := by
                rw [← hF1]
                show SG a (q + 1) (if i = i then Z' else F i) (s i + (k (i * 3 + q)) * a q)
                rw [if_pos rfl]
                exact hS.out.step q3 ok2 hval (hk _) (ha _)
              have hG1 : Hid (∀ j, j < i → SG a 3 (F1 j) (s j)) := fun j hj => by
                have := hG.out j hj
                rw [← hF1]
                simpa [show j ≠ i by omega] using this
              have sms := hS.out.sm
              have pb : ((k (i * 3 + q)) * a q).natAbs ≤ 1073741824 := by rw [Int.natAbs_mul]; exact Nat.le_trans (Nat.mul_le_mul (hk _) (ha _)) (by decide)
              have wm : IntKind.i64.wrap ((k (i * 3 + q)) * a q) = (k (i * 3 + q)) * a q := by rw [IntKind.wrap_i64]; omega
              have ws : IntKind.i64.wrap (s i + (k (i * 3 + q)) * a q) = s i + (k (i * 3 + q)) * a q := by rw [IntKind.wrap_i64]; omega
              have wq : IntKind.i64.wrap (a q) = a q := by have := ha q; rw [IntKind.wrap_i64]; omega
              clear hF1 hv1 hG hS hval ok1 ok2 e1 e2 sms pb
              have kI := hT.kk (i * 3 + q) (by omega)
              have aI := hT.aa q (by omega)
              have sI := (hT.at8 c2).1
              have ixa2 := ixa ba q (by omega)
              have hall : ∀ X9, Below V2.heap.size V2 X9 → (X9.cell? ⟨B8, i, none⟩ = some (.int .i64 (s i)) ∧ X9.cell? ⟨bk, i * 3 + q, none⟩ = some (.int .i16 (k (i * 3 + q))) ∧ X9.cell? ⟨ba, q, none⟩ = some (.int .i16 (a q))) := fun X9 cc => ⟨sO cc sI, sO cc kI, sO cc aI⟩
              go_upto_region 19 with fail
              refine wp_region_pre 16 [89, 90, 91, 92, 93, 94, 95, 96, 97, 98, 99, 100, 101, 102, 103, 104] (Rls [Eqv (.int .i64 i), Eqv (.pointer (some ⟨B8, i, none⟩)), Eqv (.int .i64 (s i)), Eqv (.int .i64 i), Eqv (.int .i64 q), Eqv (.pointer (some ⟨bk, i * 3, none⟩)), Eqv (.pointer (some ⟨bk, i * 3 + q, none⟩)), Eqv (.int .i16 (k (i * 3 + q))), Eqv (.int .i64 (k (i * 3 + q))), Eqv (.int .i64 q), Eqv (.pointer (some ⟨ba, q, none⟩)), Eqv (.int .i16 (a q)), Eqv (.int .i64 (a q)), Eqv (.int .i64 ((k (i * 3 + q)) * a q)), Eqv (.int .i64 (s i + (k (i * 3 + q)) * a q)), Eqv (.pointer (some ⟨B8, i, none⟩))]) [0, 1, 2, 3, 4, 5, 6, 7, 8, 9, 10, 11, 12, 13, 14, 15] (by kernel_rfl) (by kernel_rfl) (by kernel_rfl) (by kernel_rfl) (by kernel_rfl) (r := 1) (lst := #[true, true, true, true, true, true, true, true, true, true, true, true, true, true, true, true, false]) (by kernel_rfl) (by kernel_rfl) (MonoL.of (MonoL.eq (MonoL.eq (MonoL.eq (MonoL.eq (MonoL.eq (MonoL.eq (MonoL.eq (MonoL.eq (MonoL.eq (MonoL.eq (MonoL.eq (MonoL.eq (MonoL.eq (MonoL.eq (MonoL.eq (MonoL.eq MonoL.nil))))))))))))))))) ?_ ?_
              · skip
                refine StepsI.cons (o := _) rfl ?_ ?_
                · try simp only [List.getElem_toArray, List.getElem_cons_zero, List.getElem_cons_succ]
                  refine StepI.of ?_ ?_ ?_
                  · rfl
                  · kernel_rfl
                  intro A w hb hT0 hd0 K hK
                  have f0 : A.tmps[12]?.getD undef = .int .i64 i := hT0 12 (by kernel_rfl)
                  clear hT0 hd0
                  go_simp
                  exact hK.out _ _ (Below.refl _ _) rfl
                refine StepsI.cons (o := _) rfl ?_ ?_
                · try simp only [List.getElem_toArray, List.getElem_cons_zero, List.getElem_cons_succ]
                  refine StepI.of ?_ ?_ ?_
                  · rfl
                  · kernel_rfl
                  intro A w hb hT0 hd0 K hK
                  have e0 : A.tmps[89]?.getD undef = .int .i64 i := hd0 0 89 (by kernel_rfl)
                  have f0 : A.tmps[8]?.getD undef = .pointer (some ⟨B8, 0, none⟩) := hT0 8 (by kernel_rfl)
                  clear hT0 hd0
                  go_simp
                  exact hK.out _ _ (Below.refl _ _) rfl
                refine StepsI.cons (o := _) rfl ?_ ?_
                · try simp only [List.getElem_toArray, List.getElem_cons_zero, List.getElem_cons_succ]
                  refine StepI.of ?_ ?_ ?_
                  · rfl
                  · kernel_rfl
                  intro A w hb hT0 hd0 K hK
                  obtain ⟨z0, z1, z2⟩ := hall w hb
                  have e0 : A.tmps[90]?.getD undef = .pointer (some ⟨B8, i, none⟩) := hd0 1 90 (by kernel_rfl)
                  clear hT0 hd0
                  go_simp
                  exact hK.out _ _ (Below.refl _ _) rfl
                refine StepsI.cons (o := _) rfl ?_ ?_
                · try simp only [List.getElem_toArray, List.getElem_cons_zero, List.getElem_cons_succ]
                  refine StepI.of ?_ ?_ ?_
                  · rfl
                  · kernel_rfl
                  intro A w hb hT0 hd0 K hK
                  have f0 : A.tmps[12]?.getD undef = .int .i64 i := hT0 12 (by kernel_rfl)
                  clear hT0 hd0
                  go_simp
                  exact hK.out _ _ (Below.refl _ _) rfl
                refine StepsI.cons (o := _) rfl ?_ ?_
                · try simp only [List.getElem_toArray, List.getElem_cons_zero, List.getElem_cons_succ]
                  refine StepI.of ?_ ?_ ?_
                  · rfl
                  · kernel_rfl
                  intro A w hb hT0 hd0 K hK
                  have f0 : A.tmps[13]?.getD undef = .int .i64 q := hT0 13 (by kernel_rfl)
                  clear hT0 hd0
                  go_simp
                  exact hK.out _ _ (Below.refl _ _) rfl
                refine StepsI.cons (o := _) rfl ?_ ?_
                · try simp only [List.getElem_toArray, List.getElem_cons_zero, List.getElem_cons_succ]
                  refine StepI.of ?_ ?_ ?_
                  · rfl
                  · kernel_rfl
                  intro A w hb hT0 hd0 K hK
                  have e0 : A.tmps[92]?.getD undef = .int .i64 i := hd0 3 92 (by kernel_rfl)
                  have f0 : A.tmps[4]?.getD undef = .pointer (some ⟨bk, 0, none⟩) := hT0 4 (by kernel_rfl)
                  clear hT0 hd0
                  go_simp
                  exact hK.out _ _ (Below.refl _ _) rfl
                refine StepsI.cons (o := _) rfl ?_ ?_
                · try simp only [List.getElem_toArray, List.getElem_cons_zero, List.getElem_cons_succ]
                  refine StepI.of ?_ ?_ ?_
                  · rfl
                  · kernel_rfl
                  intro A w hb hT0 hd0 K hK
                  have e0 : A.tmps[93]?.getD undef = .int .i64 q := hd0 4 93 (by kernel_rfl)
                  have e1 : A.tmps[94]?.getD undef = .pointer (some ⟨bk, i * 3, none⟩) := hd0 5 94 (by kernel_rfl)
                  clear hT0 hd0
                  go_simp
                  exact hK.out _ _ (Below.refl _ _) rfl
                refine StepsI.cons (o := _) rfl ?_ ?_
                · try simp only [List.getElem_toArray, List.getElem_cons_zero, List.getElem_cons_succ]
                  refine StepI.of ?_ ?_ ?_
                  · rfl
                  · kernel_rfl
                  intro A w hb hT0 hd0 K hK
                  obtain ⟨z0, z1, z2⟩ := hall w hb
                  have e0 : A.tmps[95]?.getD undef = .pointer (some ⟨bk, i * 3 + q, none⟩) := hd0 6 95 (by kernel_rfl)
                  clear hT0 hd0
                  go_simp
                  exact hK.out _ _ (Below.refl _ _) rfl
                refine StepsI.cons (o := _) rfl ?_ ?_
                · try simp only [List.getElem_toArray, List.getElem_cons_zero, List.getElem_cons_succ]
                  refine StepI.of ?_ ?_ ?_
                  · rfl
                  · kernel_rfl
                  intro A w hb hT0 hd0 K hK
                  have e0 : A.tmps[96]?.getD undef = .int .i16 (k (i * 3 + q)) := hd0 7 96 (by kernel_rfl)
                  clear hT0 hd0
                  go_simp
                  exact hK.out _ _ (Below.refl _ _) rfl
                refine StepsI.cons (o := _) rfl ?_ ?_
                · try simp only [List.getElem_toArray, List.getElem_cons_zero, List.getElem_cons_succ]
                  refine StepI.of ?_ ?_ ?_
                  · rfl
                  · kernel_rfl
                  intro A w hb hT0 hd0 K hK
                  have f0 : A.tmps[13]?.getD undef = .int .i64 q := hT0 13 (by kernel_rfl)
                  clear hT0 hd0
                  go_simp
                  exact hK.out _ _ (Below.refl _ _) rfl
                refine StepsI.cons (o := _) rfl ?_ ?_
                · try simp only [List.getElem_toArray, List.getElem_cons_zero, List.getElem_cons_succ]
                  refine StepI.of ?_ ?_ ?_
                  · rfl
                  · kernel_rfl
                  intro A w hb hT0 hd0 K hK
                  have e0 : A.tmps[98]?.getD undef = .int .i64 q := hd0 9 98 (by kernel_rfl)
                  have f0 : A.tmps[5]?.getD undef = .pointer (some ⟨ba, 0, none⟩) := hT0 5 (by kernel_rfl)
                  clear hT0 hd0
                  go_simp
                  exact hK.out _ _ (Below.refl _ _) rfl
                refine StepsI.cons (o := _) rfl ?_ ?_
                · try simp only [List.getElem_toArray, List.getElem_cons_zero, List.getElem_cons_succ]
                  refine StepI.of ?_ ?_ ?_
                  · rfl
                  · kernel_rfl
                  intro A w hb hT0 hd0 K hK
                  obtain ⟨z0, z1, z2⟩ := hall w hb
                  have e0 : A.tmps[99]?.getD undef = .pointer (some ⟨ba, q, none⟩) := hd0 10 99 (by kernel_rfl)
                  clear hT0 hd0
                  go_simp
                  exact hK.out _ _ (Below.refl _ _) rfl
                refine StepsI.cons (o := _) rfl ?_ ?_
                · try simp only [List.getElem_toArray, List.getElem_cons_zero, List.getElem_cons_succ]
                  refine StepI.of ?_ ?_ ?_
                  · rfl
                  · kernel_rfl
                  intro A w hb hT0 hd0 K hK
                  have e0 : A.tmps[100]?.getD undef = .int .i16 (a q) := hd0 11 100 (by kernel_rfl)
                  clear hT0 hd0
                  go_simp
                  exact hK.out _ _ (Below.refl _ _) rfl
                refine StepsI.cons (o := _) rfl ?_ ?_
                · try simp only [List.getElem_toArray, List.getElem_cons_zero, List.getElem_cons_succ]
                  refine StepI.of ?_ ?_ ?_
                  · rfl
                  · kernel_rfl
                  intro A w hb hT0 hd0 K hK
                  have e0 : A.tmps[97]?.getD undef = .int .i64 (k (i * 3 + q)) := hd0 8 97 (by kernel_rfl)
                  have e1 : A.tmps[101]?.getD undef = .int .i64 (a q) := hd0 12 101 (by kernel_rfl)
                  clear hT0 hd0
                  go_simp
                  exact hK.out _ _ (Below.refl _ _) rfl
                refine StepsI.cons (o := _) rfl ?_ ?_
                · try simp only [List.getElem_toArray, List.getElem_cons_zero, List.getElem_cons_succ]
                  refine StepI.of ?_ ?_ ?_
                  · rfl
                  · kernel_rfl
                  intro A w hb hT0 hd0 K hK
                  have e0 : A.tmps[91]?.getD undef = .int .i64 (s i) := hd0 2 91 (by kernel_rfl)
                  have e1 : A.tmps[102]?.getD undef = .int .i64 ((k (i * 3 + q)) * a q) := hd0 13 102 (by kernel_rfl)
                  clear hT0 hd0
                  go_simp
                  exact hK.out _ _ (Below.refl _ _) rfl
                refine StepsI.cons (o := _) rfl ?_ ?_
                · try simp only [List.getElem_toArray, List.getElem_cons_zero, List.getElem_cons_succ]
                  refine StepI.of ?_ ?_ ?_
                  · rfl
                  · kernel_rfl
                  intro A w hb hT0 hd0 K hK
                  have e0 : A.tmps[89]?.getD undef = .int .i64 i := hd0 0 89 (by kernel_rfl)
                  have f0 : A.tmps[8]?.getD undef = .pointer (some ⟨B8, 0, none⟩) := hT0 8 (by kernel_rfl)
                  clear hT0 hd0
                  go_simp
                  exact hK.out _ _ (Below.refl _ _) rfl
                exact StepsI.nil
              intro f g wz hb hR
              have e14 : g 103 = .int .i64 (s i + (k (i * 3 + q)) * a q) := hR 14 103 (by decide) (by kernel_rfl)
              have e15 : g 104 = .pointer (some ⟨B8, i, none⟩) := hR 15 104 (by decide) (by kernel_rfl)
              simp only [fillT, List.foldl_cons, List.foldl_nil, List.setIfInBounds_toArray, List.set_cons_zero, List.set_cons_succ]
              rw [e14, e15]
              replace hT := hT.on hb
              replace hV := hV.on hb
              obtain ⟨y0, yf⟩ := hT.at8 c2
              refine wpAny_ready (rs := [16]) (by kernel_rfl) (by simp) (AllReady.cons (o := _) rfl (fun K hK => ?_) AllReady.nil)
              go_simp
              refine hK _ _ ?_
              clear hK K
              refine wpAny_done (by kernel_rfl) ?_ _
              replace hT := hT.sum c2 (s i + (k (i * 3 + q)) * a q)
              replace hV := hV.set (o := i) (x := .int .i64 (s i + (k (i * 3 + q)) * a q))
              clear e14 e15 hb hR y0 yf hall
              obtain ⟨V4, hV4⟩ : ∃ X, wz.setCell ⟨B8, i, none⟩ (.int .i64 (s i + (k (i * 3 + q)) * a q)) = X := ⟨_, rfl⟩
              rw [hV4] at hT hV
              rw [hV4]
              obtain ⟨s1, hs1⟩ : ∃ f : Nat → Int, (fun j => if j = i then s i + (k (i * 3 + q)) * a q else s j) = f := ⟨_, rfl⟩
              rw [hs1] at hT
              have hS : Hid (SG a (q + 1) (F1 i) (s1 i)) := by
                have := hS1.out
                rw [← hs1]
                show SG a (q + 1) (F1 i) (if i = i then s i + (k (i * 3 + q)) * a q else s i)
                rw [if_pos rfl]
                exact this
              have hG : Hid (∀ j, j < i → SG a 3 (F1 j) (s1 j)) := fun j hj => by
                have := hG1.out j hj
                rw [← hs1]
                simpa [show j ≠ i by omega] using this
              clear hV4 hs1 hS1 hG1
              go_wp2_with fail
              exact ⟨⟨q + 1, F1, v1, s1, V4, by go_num, rfl, by omega, hT, hV, hG, hS⟩, by simp [intOf]; omega⟩
            · obtain rfl : q = 3 := by omega
              go_wp2_with fail
              have hG2 : ∀ j, j < i + 1 → SG a 3 (F j) (s j) := fun j hj => by
                rcases (show j < i ∨ j = i by omega) with h | rfl
                · exact hG.out j h
                · exact hS.out
              go_roundw
              case measure => simp [intOf]; omega
              case rel => exact ⟨i + 1, F, v, s, V, by go_num, rfl, by omega, hT, hV, hG2⟩
        · obtain rfl : i = 2 := by omega
          clear wa3
          (try rw [show (((2 : Nat) : Int)) = 2 from rfl])
          go_upto_region 20 with fail
          obtain ⟨Z0, ea0, ok0, hv0⟩ := add_z (hG.out 0 (by omega)).ok (hG.out 1 (by omega)).ok (by omega) (by omega)
          obtain ⟨Z1, ea1, ok1, hv1⟩ := sub_z (hG.out 0 (by omega)).ok (hG.out 1 (by omega)).ok (by omega) (by omega)
          obtain ⟨Z2, ea2, ok2, hv2⟩ := neg_z (hG.out 0 (by omega)).ok (by omega) (by omega)
          obtain ⟨Z3, ea3, ok3, hv3⟩ := sca_z (C := 4294967296) (hG.out 1 (by omega)).ok (by omega) (by omega) (a 3) 32768 (ha 3) (by omega) (by omega) (by omega)
          have ka := tf_add (hG.out 0 (by omega)).ok (hG.out 1 (by omega)).ok (by omega) (by omega) (by omega) (by omega) ea0
          have ku := ls_sub (hG.out 0 (by omega)).ok (hG.out 1 (by omega)).ok (by omega) (by omega) (by omega) (by omega) ea1
          have kn := ls_neg (hG.out 0 (by omega)).ok (by omega) (by omega) ea2
          have ks := tf_sca (hG.out 1 (by omega)).ok (by omega) (by omega) (a 3) (sa 3) ea3
          have ke := ls_exact (a 3) (sa 3)
          have ko := ls_of (a 3) (sa 3)
          replace hT := hT.out
          replace hV := hV.out
          obtain ⟨p0, p1, p2, p3, p4, pf⟩ := hT.at7 (i := 0) (by omega)
          obtain ⟨o0, o1, o2, o3, o4, _⟩ := hT.at7 (i := 1) (by omega)
          simp only [Nat.zero_mul, Nat.one_mul, Nat.zero_add, Nat.reduceAdd] at p0 p1 p2 p3 p4 o0 o1 o2 o3 o4
          have hall : ∀ X9, Below V.heap.size V X9 → (X9.cell? ⟨B7, 0, none⟩ = some (.bool false) ∧ X9.cell? ⟨B7, 1, none⟩ = some (.bool false) ∧ X9.cell? ⟨B7, 2, none⟩ = some (.int .u64 (mI (F 0).1)) ∧ X9.cell? ⟨B7, 3, none⟩ = some (.int .u64 (mI (F 0).1)) ∧ X9.cell? ⟨B7, 4, none⟩ = some (v 0) ∧ X9.cell? ⟨B7, 5, none⟩ = some (.bool false) ∧ X9.cell? ⟨B7, 6, none⟩ = some (.bool false) ∧ X9.cell? ⟨B7, 7, none⟩ = some (.int .u64 (mI (F 1).1)) ∧ X9.cell? ⟨B7, 8, none⟩ = some (.int .u64 (mI (F 1).1)) ∧ X9.cell? ⟨B7, 9, none⟩ = some (v 1)) := fun X9 cc => ⟨sO cc p0, sO cc p1, sO cc p2, sO cc p3, sO cc p4, sO cc o0, sO cc o1, sO cc o2, sO cc o3, sO cc o4⟩
          refine wp_region_inv [105, 106, 107, 108, 109, 110, 111, 112, 113, 114, 115, 116, 117, 118, 119, 120, 121, 122, 123, 124, 125, 126, 15] (Rls [Eqv (.pointer (some ⟨B7, 0, none⟩)), Eqv (.agg #[.bool false, .bool false, .int .u64 (mI (F 0).1), .int .u64 (mI (F 0).1), v 0]), Eqv (.pointer (some ⟨B7, 5, none⟩)), Eqv (.agg #[.bool false, .bool false, .int .u64 (mI (F 1).1), .int .u64 (mI (F 1).1), v 1]), (fun v w => ∃ rv, v = .agg #[.bool false, .bool false, .int .u64 (mI Z0.1), .int .u64 (mI Z0.1), rv] ∧ TAt w rv (tI Z0.2)), Eqv (.pointer (some ⟨B7, 0, none⟩)), Eqv (.agg #[.bool false, .bool false, .int .u64 (mI (F 0).1), .int .u64 (mI (F 0).1), v 0]), Eqv (.pointer (some ⟨B7, 5, none⟩)), Eqv (.agg #[.bool false, .bool false, .int .u64 (mI (F 1).1), .int .u64 (mI (F 1).1), v 1]), (fun v w => ∃ rv, v = .agg #[.bool false, .bool false, .int .u64 (mI Z1.1), .int .u64 (mI Z1.1), rv] ∧ TAt w rv (tI Z1.2)), Eqv (.pointer (some ⟨B7, 0, none⟩)), Eqv (.agg #[.bool false, .bool false, .int .u64 (mI (F 0).1), .int .u64 (mI (F 0).1), v 0]), (fun v w => ∃ rv, v = .agg #[.bool false, .bool false, .int .u64 (mI Z2.1), .int .u64 (mI Z2.1), rv] ∧ TAt w rv (tI Z2.2)), Eqv (.pointer (some ⟨B7, 5, none⟩)), Eqv (.agg #[.bool false, .bool false, .int .u64 (mI (F 1).1), .int .u64 (mI (F 1).1), v 1]), Eqv (.int .i64 (a 3)), Eqv (.int .u64 (mI (a 3))), Eqv (.int .i64 (a 3)), Eqv (.int .u64 (mI (a 3))), Eqv (.agg #[.bool false, .int .u64 (mI (a 3)), .int .u64 (mI (a 3))]), (fun v w => ∃ rv, v = .agg #[.bool false, .bool false, .int .u64 (mI Z3.1), .int .u64 (mI Z3.1), rv] ∧ TAt w rv (tI Z3.2)), (fun v w => ∃ b r0 r1 r2 r3, v = .slice (some ⟨b, 0, none⟩) 4 4 ∧ w.heap[b]? = some (.cells #[.bool false, .bool false, .int .u64 (mI Z0.1), .int .u64 (mI Z0.1), r0, .bool false, .bool false, .int .u64 (mI Z1.1), .int .u64 (mI Z1.1), r1, .bool false, .bool false, .int .u64 (mI Z2.1), .int .u64 (mI Z2.1), r2, .bool false, .bool false, .int .u64 (mI Z3.1), .int .u64 (mI Z3.1), r3] 31 (0, 0)) ∧ TAt w r0 (tI Z0.2) ∧ TAt w r1 (tI Z1.2) ∧ TAt w r2 (tI Z2.2) ∧ TAt w r3 (tI Z3.2)), (fun v w => ∃ b r0 r1 r2 r3, v = .slice (some ⟨b, 0, none⟩) 4 4 ∧ w.heap[b]? = some (.cells #[.bool false, .bool false, .int .u64 (mI Z0.1), .int .u64 (mI Z0.1), r0, .bool false, .bool false, .int .u64 (mI Z1.1), .int .u64 (mI Z1.1), r1, .bool false, .bool false, .int .u64 (mI Z2.1), .int .u64 (mI Z2.1), r2, .bool false, .bool false, .int .u64 (mI Z3.1), .int .u64 (mI Z3.1), r3] 31 (0, 0)) ∧ TAt w r0 (tI Z0.2) ∧ TAt w r1 (tI Z1.2) ∧ TAt w r2 (tI Z2.2) ∧ TAt w r3 (tI Z3.2))]) [0, 1, 2, 3, 4, 5, 6, 7, 8, 9, 10, 11, 12, 13, 14, 15, 16, 17, 18, 19, 20, 21, 22] (by kernel_rfl) (by kernel_rfl) (by kernel_rfl) (by kernel_rfl) (MonoL.of (MonoL.eq (MonoL.eq (MonoL.eq (MonoL.eq (MonoL.cons (fun v w w2 ⟨rv, h1, h2⟩ g => ⟨rv, h1, h2.on g⟩) (MonoL.eq (MonoL.eq (MonoL.eq (MonoL.eq (MonoL.cons (fun v w w2 ⟨rv, h1, h2⟩ g => ⟨rv, h1, h2.on g⟩) (MonoL.eq (MonoL.eq (MonoL.cons (fun v w w2 ⟨rv, h1, h2⟩ g => ⟨rv, h1, h2.on g⟩) (MonoL.eq (MonoL.eq (MonoL.eq (MonoL.eq (MonoL.eq (MonoL.eq (MonoL.eq (MonoL.cons (fun v w w2 ⟨rv, h1, h2⟩ g => ⟨rv, h1, h2.on g⟩) (MonoL.cons (fun v w w2 ⟨b, r0, r1, r2, r3, h, q, t0, t1, t2, t3⟩ g => ⟨b, r0, r1, r2, r3, h, lw_on g q, t0.on g, t1.on g, t2.on g, t3.on g⟩) (MonoL.cons (fun v w w2 ⟨b, r0, r1, r2, r3, h, q, t0, t1, t2, t3⟩ g => ⟨b, r0, r1, r2, r3, h, lw_on g q, t0.on g, t1.on g, t2.on g, t3.on g⟩) MonoL.nil)))))))))))))))))))))))) ?_ ?_
          · skip
            refine StepsI.cons (o := _) rfl ?_ ?_
            · try simp only [List.getElem_toArray, List.getElem_cons_zero, List.getElem_cons_succ]
              refine StepI.of ?_ ?_ ?_
              · rfl
              · kernel_rfl
              intro A w hb hT0 hd0 K hK
              have f0 : A.tmps[7]?.getD undef = .pointer (some ⟨B7, 0, none⟩) := hT0 7 (by kernel_rfl)
              clear hT0 hd0
              go_simp
              exact hK.out _ _ (Below.refl _ _) rfl
            refine StepsI.cons (o := _) rfl ?_ ?_
            · try simp only [List.getElem_toArray, List.getElem_cons_zero, List.getElem_cons_succ]
              refine StepI.of ?_ ?_ ?_
              · rfl
              · kernel_rfl
              intro A w hb hT0 hd0 K hK
              obtain ⟨z0, z1, z2, z3, z4, z5, z6, z7, z8, z9⟩ := hall w hb
              have e0 : A.tmps[105]?.getD undef = .pointer (some ⟨B7, 0, none⟩) := hd0 0 105 (by kernel_rfl)
              clear hT0 hd0
              go_simp
              exact hK.out _ _ (Below.refl _ _) rfl
            refine StepsI.cons (o := _) rfl ?_ ?_
            · try simp only [List.getElem_toArray, List.getElem_cons_zero, List.getElem_cons_succ]
              refine StepI.of ?_ ?_ ?_
              · rfl
              · kernel_rfl
              intro A w hb hT0 hd0 K hK
              have f0 : A.tmps[7]?.getD undef = .pointer (some ⟨B7, 0, none⟩) := hT0 7 (by kernel_rfl)
              clear hT0 hd0
              go_simp
              exact hK.out _ _ (Below.refl _ _) rfl
            refine StepsI.cons (o := _) rfl ?_ ?_
            · try simp only [List.getElem_toArray, List.getElem_cons_zero, List.getElem_cons_succ]
              refine StepI.of ?_ ?_ ?_
              · rfl
              · kernel_rfl
              intro A w hb hT0 hd0 K hK
              obtain ⟨z0, z1, z2, z3, z4, z5, z6, z7, z8, z9⟩ := hall w hb
              have e0 : A.tmps[107]?.getD undef = .pointer (some ⟨B7, 5, none⟩) := hd0 2 107 (by kernel_rfl)
              clear hT0 hd0
              go_simp
              exact hK.out _ _ (Below.refl _ _) rfl
            refine StepsI.cons (o := _) rfl ?_ ?_
            · try simp only [List.getElem_toArray, List.getElem_cons_zero, List.getElem_cons_succ]
              refine StepI.of ?_ ?_ ?_
              · rfl
              · kernel_rfl
              intro A w hb hT0 hd0 K hK
              have e0 : A.tmps[106]?.getD undef = .agg #[.bool false, .bool false, .int .u64 (mI (F 0).1), .int .u64 (mI (F 0).1), v 0] := hd0 1 106 (by kernel_rfl)
              have e1 : A.tmps[108]?.getD undef = .agg #[.bool false, .bool false, .int .u64 (mI (F 1).1), .int .u64 (mI (F 1).1), v 1] := hd0 3 108 (by kernel_rfl)
              clear hT0 hd0
              go_simp
              refine (ka _ _ _ ((hT.on hb).t 0 (by omega)) ((hT.on hb).t 1 (by omega))).mono ?_
              rintro e w2 ⟨⟨rv, rfl, t6, _⟩, g⟩
              exact hK.out _ _ g (⟨rv, rfl, t6⟩)
            refine StepsI.cons (o := _) rfl ?_ ?_
            · try simp only [List.getElem_toArray, List.getElem_cons_zero, List.getElem_cons_succ]
              refine StepI.of ?_ ?_ ?_
              · rfl
              · kernel_rfl
              intro A w hb hT0 hd0 K hK
              have f0 : A.tmps[7]?.getD undef = .pointer (some ⟨B7, 0, none⟩) := hT0 7 (by kernel_rfl)
              clear hT0 hd0
              go_simp
              exact hK.out _ _ (Below.refl _ _) rfl
            refine StepsI.cons (o := _) rfl ?_ ?_
            · try simp only [List.getElem_toArray, List.getElem_cons_zero, List.getElem_cons_succ]
              refine StepI.of ?_ ?_ ?_
              · rfl
              · kernel_rfl
              intro A w hb hT0 hd0 K hK
              obtain ⟨z0, z1, z2, z3, z4, z5, z6, z7, z8, z9⟩ := hall w hb
              have e0 : A.tmps[110]?.getD undef = .pointer (some ⟨B7, 0, none⟩) := hd0 5 110 (by kernel_rfl)
              clear hT0 hd0
              go_simp
              exact hK.out _ _ (Below.refl _ _) rfl
            refine StepsI.cons (o := _) rfl ?_ ?_
            · try simp only [List.getElem_toArray, List.getElem_cons_zero, List.getElem_cons_succ]
              refine StepI.of ?_ ?_ ?_
              · rfl
              · kernel_rfl
              intro A w hb hT0 hd0 K hK
              have f0 : A.tmps[7]?.getD undef = .pointer (some ⟨B7, 0, none⟩) := hT0 7 (by kernel_rfl)
              clear hT0 hd0
              go_simp
              exact hK.out _ _ (Below.refl _ _) rfl
            refine StepsI.cons (o := _) rfl ?_ ?_
            · try simp only [List.getElem_toArray, List.getElem_cons_zero, List.getElem_cons_succ]
              refine StepI.of ?_ ?_ ?_
              · rfl
              · kernel_rfl
              intro A w hb hT0 hd0 K hK
              obtain ⟨z0, z1, z2, z3, z4, z5, z6, z7, z8, z9⟩ := hall w hb
              have e0 : A.tmps[112]?.getD undef = .pointer (some ⟨B7, 5, none⟩) := hd0 7 112 (by kernel_rfl)
              clear hT0 hd0
              go_simp
              exact hK.out _ _ (Below.refl _ _) rfl
            refine StepsI.cons (o := _) rfl ?_ ?_
            · try simp only [List.getElem_toArray, List.getElem_cons_zero, List.getElem_cons_succ]
              refine StepI.of ?_ ?_ ?_
              · rfl
              · kernel_rfl
              intro A w hb hT0 hd0 K hK
              have e0 : A.tmps[111]?.getD undef = .agg #[.bool false, .bool false, .int .u64 (mI (F 0).1), .int .u64 (mI (F 0).1), v 0] := hd0 6 111 (by kernel_rfl)
              have e1 : A.tmps[113]?.getD undef = .agg #[.bool false, .bool false, .int .u64 (mI (F 1).1), .int .u64 (mI (F 1).1), v 1] := hd0 8 113 (by kernel_rfl)
              clear hT0 hd0
              go_simp
              refine (ku _ _ _ ((hT.on hb).t 0 (by omega)) ((hT.on hb).t 1 (by omega))).mono ?_
              rintro e w2 ⟨⟨rv, rfl, t6, _⟩, g⟩
              exact hK.out _ _ g (⟨rv, rfl, t6⟩)
            refine StepsI.cons (o := _) rfl ?_ ?_
            · try simp only [List.getElem_toArray, List.getElem_cons_zero, List.getElem_cons_succ]
              refine StepI.of ?_ ?_ ?_
              · rfl
              · kernel_rfl
              intro A w hb hT0 hd0 K hK
              have f0 : A.tmps[7]?.getD undef = .pointer (some ⟨B7, 0, none⟩) := hT0 7 (by kernel_rfl)
              clear hT0 hd0
              go_simp
              exact hK.out _ _ (Below.refl _ _) rfl
            refine StepsI.cons (o := _) rfl ?_ ?_
            · try simp only [List.getElem_toArray, List.getElem_cons_zero, List.getElem_cons_succ]
              refine StepI.of ?_ ?_ ?_
              · rfl
              · kernel_rfl
              intro A w hb hT0 hd0 K hK
              obtain ⟨z0, z1, z2, z3, z4, z5, z6, z7, z8, z9⟩ := hall w hb
              have e0 : A.tmps[115]?.getD undef = .pointer (some ⟨B7, 0, none⟩) := hd0 10 115 (by kernel_rfl)
              clear hT0 hd0
              go_simp
              exact hK.out _ _ (Below.refl _ _) rfl
            refine StepsI.cons (o := _) rfl ?_ ?_
            · try simp only [List.getElem_toArray, List.getElem_cons_zero, List.getElem_cons_succ]
              refine StepI.of ?_ ?_ ?_
              · rfl
              · kernel_rfl
              intro A w hb hT0 hd0 K hK
              have e0 : A.tmps[116]?.getD undef = .agg #[.bool false, .bool false, .int .u64 (mI (F 0).1), .int .u64 (mI (F 0).1), v 0] := hd0 11 116 (by kernel_rfl)
              clear hT0 hd0
              go_simp
              refine (kn _ _ ((hT.on hb).t 0 (by omega))).mono ?_
              rintro e w2 ⟨⟨rv, rfl, t6, _⟩, g⟩
              exact hK.out _ _ g (⟨rv, rfl, t6⟩)
            refine StepsI.cons (o := _) rfl ?_ ?_
            · try simp only [List.getElem_toArray, List.getElem_cons_zero, List.getElem_cons_succ]
              refine StepI.of ?_ ?_ ?_
              · rfl
              · kernel_rfl
              intro A w hb hT0 hd0 K hK
              have f0 : A.tmps[7]?.getD undef = .pointer (some ⟨B7, 0, none⟩) := hT0 7 (by kernel_rfl)
              clear hT0 hd0
              go_simp
              exact hK.out _ _ (Below.refl _ _) rfl
            refine StepsI.cons (o := _) rfl ?_ ?_
            · try simp only [List.getElem_toArray, List.getElem_cons_zero, List.getElem_cons_succ]
              refine StepI.of ?_ ?_ ?_
              · rfl
              · kernel_rfl
              intro A w hb hT0 hd0 K hK
              obtain ⟨z0, z1, z2, z3, z4, z5, z6, z7, z8, z9⟩ := hall w hb
              have e0 : A.tmps[118]?.getD undef = .pointer (some ⟨B7, 5, none⟩) := hd0 13 118 (by kernel_rfl)
              clear hT0 hd0
              go_simp
              exact hK.out _ _ (Below.refl _ _) rfl
            refine StepsI.cons (o := _) rfl ?_ ?_
            · try simp only [List.getElem_toArray, List.getElem_cons_zero, List.getElem_cons_succ]
              refine StepI.of ?_ ?_ ?_
              · rfl
              · kernel_rfl
              intro A w hb hT0 hd0 K hK
              have f0 : A.tmps[9]?.getD undef = .int .i64 (a 3) := hT0 9 (by kernel_rfl)
              clear hT0 hd0
              go_simp
              exact hK.out _ _ (Below.refl _ _) rfl
            refine StepsI.cons (o := _) rfl ?_ ?_
            · try simp only [List.getElem_toArray, List.getElem_cons_zero, List.getElem_cons_succ]
              refine StepI.of ?_ ?_ ?_
              · rfl
              · kernel_rfl
              intro A w hb hT0 hd0 K hK
              have e0 : A.tmps[120]?.getD undef = .int .i64 (a 3) := hd0 15 120 (by kernel_rfl)
              clear hT0 hd0
              go_simp
              refine (ke _).mono ?_
              rintro e w2 ⟨rfl, g⟩
              exact hK.out _ _ g (rfl)
            refine StepsI.cons (o := _) rfl ?_ ?_
            · try simp only [List.getElem_toArray, List.getElem_cons_zero, List.getElem_cons_succ]
              refine StepI.of ?_ ?_ ?_
              · rfl
              · kernel_rfl
              intro A w hb hT0 hd0 K hK
              have f0 : A.tmps[9]?.getD undef = .int .i64 (a 3) := hT0 9 (by kernel_rfl)
              clear hT0 hd0
              go_simp
              exact hK.out _ _ (Below.refl _ _) rfl
            refine StepsI.cons (o := _) rfl ?_ ?_
            · try simp only [List.getElem_toArray, List.getElem_cons_zero, List.getElem_cons_succ]
              refine StepI.of ?_ ?_ ?_
              · rfl
              · kernel_rfl
              intro A w hb hT0 hd0 K hK
              have e0 : A.tmps[122]?.getD undef = .int .i64 (a 3) := hd0 17 122 (by kernel_rfl)
              clear hT0 hd0
              go_simp
              refine (ke _).mono ?_
              rintro e w2 ⟨rfl, g⟩
              exact hK.out _ _ g (rfl)
            refine StepsI.cons (o := _) rfl ?_ ?_
            · try simp only [List.getElem_toArray, List.getElem_cons_zero, List.getElem_cons_succ]
              refine StepI.of ?_ ?_ ?_
              · rfl
              · kernel_rfl
              intro A w hb hT0 hd0 K hK
              have e0 : A.tmps[121]?.getD undef = .int .u64 (mI (a 3)) := hd0 16 121 (by kernel_rfl)
              have e1 : A.tmps[123]?.getD undef = .int .u64 (mI (a 3)) := hd0 18 123 (by kernel_rfl)
              clear hT0 hd0
              go_simp
              refine (ko _).mono ?_
              rintro e w2 ⟨rfl, g⟩
              exact hK.out _ _ g (rfl)
            refine StepsI.cons (o := _) rfl ?_ ?_
            · try simp only [List.getElem_toArray, List.getElem_cons_zero, List.getElem_cons_succ]
              refine StepI.of ?_ ?_ ?_
              · rfl
              · kernel_rfl
              intro A w hb hT0 hd0 K hK
              have e0 : A.tmps[119]?.getD undef = .agg #[.bool false, .bool false, .int .u64 (mI (F 1).1), .int .u64 (mI (F 1).1), v 1] := hd0 14 119 (by kernel_rfl)
              have e1 : A.tmps[124]?.getD undef = .agg #[.bool false, .int .u64 (mI (a 3)), .int .u64 (mI (a 3))] := hd0 19 124 (by kernel_rfl)
              clear hT0 hd0
              go_simp
              refine (ks _ _ ((hT.on hb).t 1 (by omega))).mono ?_
              rintro e w2 ⟨⟨rv, rfl, t6, _⟩, g⟩
              exact hK.out _ _ g (⟨rv, rfl, t6⟩)
            refine StepsI.cons (o := _) rfl ?_ ?_
            · try simp only [List.getElem_toArray, List.getElem_cons_zero, List.getElem_cons_succ]
              refine StepI.of ?_ ?_ ?_
              · rfl
              · kernel_rfl
              intro A w hb hT0 hd0 K hK
              have r0 := hd0 4 109 (by kernel_rfl)
              have r1 := hd0 9 114 (by kernel_rfl)
              have r2 := hd0 12 117 (by kernel_rfl)
              have r3 := hd0 20 125 (by kernel_rfl)
              clear hT0 hd0
              obtain ⟨n0, xn0, tn0⟩ : ∃ rv, A.tmps[109]?.getD undef = .agg #[.bool false, .bool false, .int .u64 (mI Z0.1), .int .u64 (mI Z0.1), rv] ∧ TAt w rv (tI Z0.2) := r0
              obtain ⟨n1, xn1, tn1⟩ : ∃ rv, A.tmps[114]?.getD undef = .agg #[.bool false, .bool false, .int .u64 (mI Z1.1), .int .u64 (mI Z1.1), rv] ∧ TAt w rv (tI Z1.2) := r1
              obtain ⟨n2, xn2, tn2⟩ : ∃ rv, A.tmps[117]?.getD undef = .agg #[.bool false, .bool false, .int .u64 (mI Z2.1), .int .u64 (mI Z2.1), rv] ∧ TAt w rv (tI Z2.2) := r2
              obtain ⟨n3, xn3, tn3⟩ : ∃ rv, A.tmps[125]?.getD undef = .agg #[.bool false, .bool false, .int .u64 (mI Z3.1), .int .u64 (mI Z3.1), rv] ∧ TAt w rv (tI Z3.2) := r3
              obtain ⟨P0, N0, rfl⟩ := tn0.len
              obtain ⟨P1, N1, rfl⟩ := tn1.len
              obtain ⟨P2, N2, rfl⟩ := tn2.len
              obtain ⟨P3, N3, rfl⟩ := tn3.len
              go_simp
              have gn := sp_new (Below.refl _ w) (.cells #[.bool false, .bool false, .int .u64 (mI Z0.1), .int .u64 (mI Z0.1), .slice P0 (tI Z0.2).length N0, .bool false, .bool false, .int .u64 (mI Z1.1), .int .u64 (mI Z1.1), .slice P1 (tI Z1.2).length N1, .bool false, .bool false, .int .u64 (mI Z2.1), .int .u64 (mI Z2.1), .slice P2 (tI Z2.2).length N2, .bool false, .bool false, .int .u64 (mI Z3.1), .int .u64 (mI Z3.1), .slice P3 (tI Z3.2).length N3] 31)
              exact hK.out _ _ gn ⟨_, _, _, _, _, rfl, World.alloc_heap_new _ _, tn0.on gn, tn1.on gn, tn2.on gn, tn3.on gn⟩
            refine StepsI.cons (o := _) rfl ?_ ?_
            · try simp only [List.getElem_toArray, List.getElem_cons_zero, List.getElem_cons_succ]
              refine StepI.of ?_ ?_ ?_
              · rfl
              · kernel_rfl
              intro A w hb hT0 hd0 K hK
              have r0 := hd0 21 126 (by kernel_rfl)
              clear hT0 hd0
              obtain ⟨b, n0, n1, n2, n3, x, q, t0, t1, t2, t3⟩ : ∃ b r0 r1 r2 r3, A.tmps[126]?.getD undef = .slice (some ⟨b, 0, none⟩) 4 4 ∧ w.heap[b]? = some (.cells #[.bool false, .bool false, .int .u64 (mI Z0.1), .int .u64 (mI Z0.1), r0, .bool false, .bool false, .int .u64 (mI Z1.1), .int .u64 (mI Z1.1), r1, .bool false, .bool false, .int .u64 (mI Z2.1), .int .u64 (mI Z2.1), r2, .bool false, .bool false, .int .u64 (mI Z3.1), .int .u64 (mI Z3.1), r3] 31 (0, 0)) ∧ TAt w r0 (tI Z0.2) ∧ TAt w r1 (tI Z1.2) ∧ TAt w r2 (tI Z2.2) ∧ TAt w r3 (tI Z3.2) := r0
              go_simp
              exact hK.out _ _ (Below.refl _ _) ⟨_, _, _, _, _, rfl, q, t0, t1, t2, t3⟩
            exact StepsI.nil
          intro g wz hb hR
          obtain ⟨b15, r0, r1, r2, r3, e15, q15, t0, t1, t2, t3⟩ : ∃ b r0 r1 r2 r3, g 15 = .slice (some ⟨b, 0, none⟩) 4 4 ∧ wz.heap[b]? = some (.cells #[.bool false, .bool false, .int .u64 (mI Z0.1), .int .u64 (mI Z0.1), r0, .bool false, .bool false, .int .u64 (mI Z1.1), .int .u64 (mI Z1.1), r1, .bool false, .bool false, .int .u64 (mI Z2.1), .int .u64 (mI Z2.1), r2, .bool false, .bool false, .int .u64 (mI Z3.1), .int .u64 (mI Z3.1), r3] 31 (0, 0)) ∧ TAt wz r0 (tI Z0.2) ∧ TAt wz r1 (tI Z1.2) ∧ TAt wz r2 (tI Z2.2) ∧ TAt wz r3 (tI Z3.2) := hR 22 15 (by decide) (by kernel_rfl)
          simp only [fillT, List.foldl_cons, List.foldl_nil, List.setIfInBounds_toArray, List.set_cons_zero, List.set_cons_succ]
          rw [e15]
          clear hR e15
          replace hT := hT.on hb
          replace hV := hV.on hb
          have bW := hT.bw
          have y0 := (hT.at8 (i := 0) (by omega)).1
          have y1 := (hT.at8 (i := 1) (by omega)).1
          have g0 := (hG.out 0 (by omega)).sm
          have g1 := (hG.out 1 (by omega)).sm
          have ha3 := ha 3
          have pb : (s 1 * a 3).natAbs ≤ 140737488355328 := by rw [Int.natAbs_mul]; exact Nat.le_trans (Nat.mul_le_mul (show (s 1).natAbs ≤ 4294967296 by omega) ha3) (by decide)
          have wq0 : IntKind.i64.wrap (s 0 + s 1) = s 0 + s 1 := by rw [IntKind.wrap_i64]; omega
          have wq1 : IntKind.i64.wrap (s 0 - s 1) = s 0 - s 1 := by rw [IntKind.wrap_i64]; omega
          have wq2 : IntKind.i64.wrap (-s 0) = -s 0 := by rw [IntKind.wrap_i64]; omega
          have wq3 : IntKind.i64.wrap (s 1 * a 3) = s 1 * a 3 := by rw [IntKind.wrap_i64]; omega
          obtain ⟨Z, hZd⟩ : ∃ Z : Nat → Zf, (fun m => if m = 0 then Z0 else if m = 1 then Z1 else if m = 2 then Z2 else Z3) = Z := ⟨_, rfl⟩
          obtain ⟨r, hrd⟩ : ∃ r : Nat → Value, (fun m => if m = 0 then r0 else if m = 1 then r1 else if m = 2 then r2 else r3) = r := ⟨_, rfl⟩
          obtain ⟨y, hyd⟩ : ∃ y : Nat → Int, (fun m => if m = 0 then s 0 + s 1 else if m = 1 then s 0 - s 1 else if m = 2 then -s 0 else s 1 * a 3) = y := ⟨_, rfl⟩
          have hZ : Hid (∀ m, m < 4 → OkZ 4294967296 6 (Z m) ∧ vlZ (fun k => if k = 0 then a 0 else if k = 1 then a 1 else a 2) (Z m) = y m ∧ (y m).natAbs ≤ 140737488355328) := by
            have l0 := (hG.out 0 (by omega)).vl
            have l1 := (hG.out 1 (by omega)).vl
            intro m hm
            rw [← hZd, ← hyd]
            rcases (show m = 0 ∨ m = 1 ∨ m = 2 ∨ m = 3 by omega) with rfl | rfl | rfl | rfl
            · exact ⟨ok0.mono (by omega) (by omega), by show vlZ _ Z0 = s 0 + s 1; rw [hv0, l0, l1], by show (s 0 + s 1).natAbs ≤ _; omega⟩
            · exact ⟨ok1.mono (by omega) (by omega), by show vlZ _ Z1 = s 0 - s 1; rw [hv1, l0, l1], by show (s 0 - s 1).natAbs ≤ _; omega⟩
            · exact ⟨ok2.mono (by omega) (by omega), by show vlZ _ Z2 = -s 0; rw [hv2, l0], by show (-s 0).natAbs ≤ _; omega⟩
            · exact ⟨ok3.mono (by omega) (by omega), by show vlZ _ Z3 = s 1 * a 3; rw [hv3, l1, Int.mul_comm], pb⟩
          have hR : RF a b15 wz Z r := by
            refine ⟨by rw [← hZd, ← hrd]; exact q15, fun m hm => ?_⟩
            rw [← hZd, ← hrd]
            rcases (show m = 0 ∨ m = 1 ∨ m = 2 ∨ m = 3 by omega) with rfl | rfl | rfl | rfl
            · exact t0
            · exact t1
            · exact t2
            · exact t3
          clear hZd hrd q15 t0 t1 t2 t3 ok0 ok1 ok2 ok3 hv0 hv1 hv2 hv3 ea0 ea1 ea2 ea3 ka ku kn ks ke ko hG hall p0 p1 p2 p3 p4 pf o0 o1 o2 o3 o4 hT hb g0 g1 ha3 pb
          go_upto_region 22 with fail
          have gn := sp_new (Below.refl _ wz) (.cells #[.int .i64 (s 0 + s 1), .int .i64 (s 0 - s 1), .int .i64 (-s 0), .int .i64 (s 1 * a 3)] 2)
          have q16 := World.alloc_heap_new wz (.cells #[.int .i64 (s 0 + s 1), .int .i64 (s 0 - s 1), .int .i64 (-s 0), .int .i64 (s 1 * a 3)] 2)
          obtain ⟨X, hX⟩ : ∃ X, wz.alloc (.cells #[.int .i64 (s 0 + s 1), .int .i64 (s 0 - s 1), .int .i64 (-s 0), .int .i64 (s 1 * a 3)] 2) = X := ⟨_, rfl⟩
          obtain ⟨b16, h16⟩ : ∃ b, wz.heap.size = b := ⟨_, rfl⟩
          rw [hX] at gn q16
          rw [h16] at q16
          rw [hX]
          (try rw [h16])
          replace q16 : Hid (X.heap[b16]? = some (.cells #[.int .i64 (y 0), .int .i64 (y 1), .int .i64 (y 2), .int .i64 (y 3)] 2 (0, 0))) := by rw [← hyd]; exact q16
          replace hR : Hid _ := hR.on gn
          replace hV : Hid _ := hV.on gn
          have bX : Hid _ := sp_call bW gn
          clear hX h16 hyd gn bW y0 y1 wq0 wq1 wq2 wq3
          obtain ⟨pv, nv, rfl⟩ := hV.out.r.len
          go_upto_region 23 with fail
          go_loopw [17, 18, 19, 20] (fun iv _ _ _ wr => ∃ (m : Nat) (V : World), iv = .int .i64 m ∧ V = wr ∧ m ≤ 4 ∧ Hid (Below X.heap.size X V)) (fun iv _ _ _ _ => 4 - (intOf iv).toNat)
          case atStart => exact ⟨0, X, rfl, rfl, by omega, Below.refl _ _⟩
          case round =>
            obtain ⟨m, V, rfl, e, hm4, cc⟩ := hrel
            subst e
            by_cases m4 : m < 4
            · have m4' : (m : Int) < 4 := by omega
              have hRm := hR.out.on cc.out
              have hVm := hV.out.on cc.out
              obtain ⟨p0, p1, p2, p3, p4⟩ := hRm.at m4
              obtain ⟨okm, vlm, bdm⟩ := hZ.out m m4
              have sy : Sm (y m) := by show _ < _; omega
              have er : evaP (ofZ (Z m)) (ptl a 3) = (pt (y m), true) := by
                have := eva_pt okm (by omega) (by omega) (a 0) (a 1) (a 2) 32768 140737488355328 (ha 0) (ha 1) (ha 2) (by omega) (by omega) (by omega)
                rw [vlm] at this
                exact this
              have kev := tf_eval okm (by omega) (by omega) (ptl a 3) (fun r hr => by
                obtain ⟨j, _, rfl⟩ := List.mem_map.1 hr
                exact pt_wd (sa j)) (y m) er
              have ix1 := ix15 b15 m m4
              have ix2 := ix16 b16 m m4
              have kx := ls_exact (y m) sy
              have ko := ls_of (y m) sy
              clear vlm bdm er okm
              have ht := hRm.t m m4
              have hr3 := hVm.r
              have bc2 := cc.out
              clear cc hRm hVm
              go_upto_region 26 with (first
                | (go_at_call 35; (with_reducible refine (kev _ _ _ ht hr3).mono ?_); rintro e v2 ⟨rfl, g⟩; replace bc2 := sp_call bc2 g; clear g)
                | fail)
              have gA := sp_new (Below.refl _ v2) (.cells #[.bool false, .int .u64 (mI (y m)), .int .u64 (mI (y m))] 24)
              have q18 := World.alloc_heap_new v2 (.cells #[.bool false, .int .u64 (mI (y m)), .int .u64 (mI (y m))] 24)
              have qy := lw_on bc2 q16.out
              replace qy := lw_old qy (.cells #[.bool false, .int .u64 (mI (y m)), .int .u64 (mI (y m))] 24)
              replace bc2 := sp_call bc2 gA
              obtain ⟨VA, hVA⟩ : ∃ X, v2.alloc (.cells #[.bool false, .int .u64 (mI (y m)), .int .u64 (mI (y m))] 24) = X := ⟨_, rfl⟩
              obtain ⟨b18, h18⟩ : ∃ b, v2.heap.size = b := ⟨_, rfl⟩
              rw [hVA] at q18 bc2 qy
              rw [h18] at q18
              rw [hVA]
              (try rw [h18])
              clear hVA h18 gA p0 p1 p2 p3 p4 kev ht hr3 ix1
              have y0 := four_at qy m4
              clear qy
              go_upto_region 27 with (first
                | (go_at_call 43; (with_reducible refine (kx _).mono ?_); rintro e v3 ⟨rfl, g⟩; replace bc2 := sp_call bc2 g; replace q18 := lw_on g q18; clear g)
                | fail)
              clear y0 ix2 kx
              obtain ⟨t0, t1, t2, _⟩ := lj_cells3 q18
              have cc : Below v3.heap.size v3 v3 := Below.refl _ _
              have hall : ∀ X9, Below v3.heap.size v3 X9 → (X9.cell? ⟨b18, 0, none⟩ = some (.bool false) ∧ X9.cell? ⟨b18, 1, none⟩ = some (.int .u64 (mI (y m))) ∧ X9.cell? ⟨b18, 2, none⟩ = some (.int .u64 (mI (y m)))) := fun X9 cc => ⟨sO cc t0, sO cc t1, sO cc t2⟩
              go_region_held3 (fun w' => w'.cell? ⟨b18, 0, none⟩ = some (.bool false) ∧ w'.cell? ⟨b18, 1, none⟩ = some (.int .u64 (mI (y m))) ∧ w'.cell? ⟨b18, 2, none⟩ = some (.int .u64 (mI (y m)))) (exact hall _ (by first | with_reducible exact cc | with_reducible exact cc.drew))
                (first
                  | (go_at_call 42; (with_reducible refine (ko _).mono ?_); rintro e v4 ⟨rfl, g⟩; replace cc := sp_call (show Below v3.heap.size v3 _ by first | with_reducible exact cc | with_reducible exact cc.drew) g; clear g)
                  | fail)
              all_goals go_wp2_with fail
              all_goals exact ⟨⟨m + 1, _, by go_num, rfl, by omega, sp_call bc2 (by first | with_reducible exact cc | with_reducible exact cc.drew)⟩, by simp [intOf]; omega⟩
            · obtain rfl : m = 4 := by omega
              go_wp2_with (first
                | (go_at_call 17; (with_reducible refine (lilive_any _).mono ?_); rintro e v9 ⟨rfl, g⟩)
                | fail)
              go_ret
              exact ⟨rfl, sp_call (sp_call bX.out cc.out) g⟩
end Go.Proofs.YteafnkimcidkhaaGreat


namespace Go.Proofs.YteafnkimcidkhaaGreat
open Go.ChangeShapes Go.WideShapes Go.ChangeAt Go.RowKit Go.Joins Go.Deep
set_option linter.unusedVariables false
set_option linter.unusedSimpArgs false
theorem bounds_s {x : Int} (h : (Lit.int .i16 x).wf = true) : x.natAbs ≤ 32768 := by
  simp [Lit.wf, IntKind.min, IntKind.max, IntKind.signed, IntKind.bits] at h
  omega
set_option maxRecDepth 100000 in
theorem open_row2 {H : Type} {enc : TypeId × Value → H} {W : World} {base m n : Nat} {t e e1 : TypeId} {K : IntKind} {v : Value} {d : DataW H} {p : List MemPlace} (ht : Tryz.prog.underlying t = some (.array m e)) (he : Tryz.prog.underlying e = some (.array n e1)) (he1 : Tryz.prog.underlying e1 = some (.int K)) (hc1 : Tryz.prog.cellsOf e1 = 1) (hce : Tryz.prog.cellsOf e = n) (hct : Tryz.prog.cellsOf t = m * n)
    (hv : Value.okWide Tryz.prog W .any base t v) (h : DataW.Trod enc Tryz.prog W 0 (fun _ => true) true t v d p) :
    ∃ (A : Array Value) (z : Nat → Int), v = .agg A ∧ A.size = m * n ∧ (∀ i j, i < m → j < n → (Lit.int K (z (i * n + j))).wf = true ∧ A[i * n + j]? = some (.int K (z (i * n + j)))) ∧ ∀ x ∈ p, x.block < W.heap.size := by
  obtain ⟨cs, rfl, hsz⟩ := sp_okarr ht hv
  rw [hct] at hsz
  obtain ⟨fuel, hf⟩ := h
  simp only [Value.cells] at hf
  obtain ⟨xs, k, rfl, hx, hlen, hxl, hall⟩ := DataW.trod_array ht hf
  have each : ∀ i, i < m → (∀ j, j < n → ∃ t : Int, (Lit.int K t).wf = true ∧ cs[i * n + j]? = some (.int K t)) ∧ ∀ y, xs[i]? = some y → y.2 = [] := by
    intro i hi
    obtain ⟨y, hy⟩ : ∃ y, xs[i]? = some y := ⟨_, List.getElem?_eq_getElem (by omega)⟩
    have h1 := hall i hi
    rw [hce, hy] at h1
    obtain ⟨ys, k', hk', hy2, hlen', hyl, hall'⟩ := DataW.trod_array he h1
    have hin : i * n + n ≤ cs.size := by
      rw [hsz]
      have : (i + 1) * n ≤ m * n := Nat.mul_le_mul_right n hi
      rw [Nat.succ_mul] at this
      exact this
    have one : ∀ j, j < n → ∃ t : Int, ((Lit.int K t).wf = true ∧ cs[i * n + j]? = some (.int K t)) ∧ ∀ u, ys[j]? = some u → u.2 = [] := by
      intro j hj
      obtain ⟨u, hu⟩ : ∃ u, ys[j]? = some u := ⟨_, List.getElem?_eq_getElem (by omega)⟩
      have h2 := hall' j hj
      rw [hc1, hu, Nat.mul_one] at h2
      obtain ⟨c, hc⟩ : ∃ c, cs[i * n + j]? = some c := ⟨_, Array.getElem?_eq_getElem (by omega)⟩
      have hd : (((cs.toList.drop (i * n)).take n).drop j).take 1 = [c] := by
        rw [List.drop_take, List.take_take, List.drop_drop, Nat.min_eq_left (by omega)]
        have hi' : i * n + j < cs.toList.length := by simp; omega
        rw [List.drop_eq_getElem_cons hi', List.take_succ_cons, List.take_zero]
        have : cs.toList[i * n + j]? = some c := by simpa using hc
        rw [List.getElem?_eq_getElem hi'] at this
        simpa using this
      rw [hd] at h2
      obtain ⟨x, ex, rfl, wx⟩ := DataW.trod_int he1 h2
      simp at ex
      subst ex
      exact ⟨x, ⟨wx, hc⟩, fun u' hu' => by rw [hu] at hu'; cases hu'; rfl⟩
    refine ⟨fun j hj => by obtain ⟨t, h3, _⟩ := one j hj; exact ⟨t, h3⟩, fun y' hy' => ?_⟩
    rw [hy] at hy'
    cases hy'
    rw [hy2]
    simp only
    apply List.eq_nil_iff_forall_not_mem.2
    intro a ha
    obtain ⟨u, hu, hau⟩ := List.mem_flatMap.1 ha
    obtain ⟨j, hj, rfl⟩ := List.getElem_of_mem hu
    obtain ⟨t, _, h4⟩ := one j (by omega)
    rw [h4 _ (List.getElem?_eq_getElem hj)] at hau
    simp at hau
  obtain ⟨q, hq⟩ := pick_lt (m := m) (P := fun i (f : Nat → Int) => ∀ j, j < n → (Lit.int K (f j)).wf = true ∧ cs[i * n + j]? = some (.int K (f j))) (fun i hi => by
    obtain ⟨f, hf⟩ := pick_lt (m := n) (P := fun j (t : Int) => (Lit.int K t).wf = true ∧ cs[i * n + j]? = some (.int K t)) (each i hi).1
    exact ⟨f, hf⟩)
  simp only [Prod.mk.injEq] at hx
  refine ⟨cs, fun x => q (x / n) (x % n), rfl, hsz, fun i j hi hj => ?_, fun x hxp => ?_⟩
  · have hn : 0 < n := by omega
    have e1 : (i * n + j) / n = i := by rw [Nat.mul_comm, Nat.mul_add_div hn, Nat.div_eq_of_lt hj, Nat.add_zero]
    have e2 : (i * n + j) % n = j := by rw [Nat.mul_comm, Nat.mul_add_mod, Nat.mod_eq_of_lt hj]
    show (Lit.int K (q ((i * n + j) / n) ((i * n + j) % n))).wf = true ∧ cs[i * n + j]? = some (Value.int K (q ((i * n + j) / n) ((i * n + j) % n)))
    rw [e1, e2]
    exact hq i hi j hj
  · rw [hx.2] at hxp
    obtain ⟨y, hy, hxy⟩ := List.mem_flatMap.1 hxp
    obtain ⟨i, hi, rfl⟩ := List.getElem_of_mem hy
    rw [(each i (by omega)).2 _ (List.getElem?_eq_getElem hi)] at hxy
    simp at hxy
set_option maxRecDepth 100000 in
theorem open_c2 {H : Type} {enc : TypeId × Value → H} {W : World} {base : Nat} {v : Value} {d : DataW H} {p : List MemPlace} (hv : Value.okWide Tryz.prog W .any base 62 v) (h : DataW.Trod enc Tryz.prog W 0 (fun _ => true) true 62 v d p) :
    ∃ z : Nat → Int, v = .agg #[.int .i16 (z 0), .int .i16 (z 1)] ∧ (∀ j, (z j).natAbs ≤ 32768) ∧ ∀ x ∈ p, x.block < W.heap.size := by
  have hv0 := hv
  obtain ⟨A, z, rfl, hz, hp⟩ := open_row Tryz.underlying62 Tryz.underlying61 (by kernel_rfl) (by kernel_rfl) hv h
  obtain ⟨cs, hcs, hsz⟩ := sp_okarr Tryz.underlying62 hv0
  cases hcs
  rw [show Tryz.prog.cellsOf 62 = 2 by kernel_rfl] at hsz
  obtain ⟨a, b, rfl⟩ : ∃ a b, A = #[a, b] := by
    obtain ⟨l⟩ := A
    match l, hsz with
    | [a, b], _ => exact ⟨a, b, rfl⟩
  have q0 := (hz 0 (by omega)).2
  have q1 := (hz 1 (by omega)).2
  simp at q0 q1
  subst q0 q1
  refine ⟨fun j => if j < 2 then z j else 0, rfl, fun j => ?_, hp⟩
  show (if j < 2 then z j else 0).natAbs ≤ 32768
  split
  · rename_i hj
    exact bounds_s (hz j hj).1
  · decide
set_option maxRecDepth 100000 in
theorem open_c4 {H : Type} {enc : TypeId × Value → H} {W : World} {base : Nat} {v : Value} {d : DataW H} {p : List MemPlace} (hv : Value.okWide Tryz.prog W .any base 65 v) (h : DataW.Trod enc Tryz.prog W 0 (fun _ => true) true 65 v d p) :
    ∃ z : Nat → Int, v = .agg #[.int .i16 (z 0), .int .i16 (z 1), .int .i16 (z 2), .int .i16 (z 3)] ∧ (∀ j, (z j).natAbs ≤ 32768) ∧ ∀ x ∈ p, x.block < W.heap.size := by
  have hv0 := hv
  obtain ⟨A, z, rfl, hz, hp⟩ := open_row Tryz.underlying65 Tryz.underlying61 (by kernel_rfl) (by kernel_rfl) hv h
  obtain ⟨cs, hcs, hsz⟩ := sp_okarr Tryz.underlying65 hv0
  cases hcs
  rw [show Tryz.prog.cellsOf 65 = 4 by kernel_rfl] at hsz
  obtain ⟨a, b, c, e, rfl⟩ : ∃ a b c e, A = #[a, b, c, e] := by
    obtain ⟨l⟩ := A
    match l, hsz with
    | [a, b, c, e], _ => exact ⟨a, b, c, e, rfl⟩
  have q0 := (hz 0 (by omega)).2
  have q1 := (hz 1 (by omega)).2
  have q2 := (hz 2 (by omega)).2
  have q3 := (hz 3 (by omega)).2
  simp at q0 q1 q2 q3
  subst q0 q1 q2 q3
  refine ⟨fun j => if j < 4 then z j else 0, rfl, fun j => ?_, hp⟩
  show (if j < 4 then z j else 0).natAbs ≤ 32768
  split
  · rename_i hj
    exact bounds_s (hz j hj).1
  · decide
set_option maxRecDepth 100000 in
theorem open_c23 {H : Type} {enc : TypeId × Value → H} {W : World} {base : Nat} {v : Value} {d : DataW H} {p : List MemPlace} (hv : Value.okWide Tryz.prog W .any base 64 v) (h : DataW.Trod enc Tryz.prog W 0 (fun _ => true) true 64 v d p) :
    ∃ z : Nat → Int, v = .agg #[.int .i16 (z 0), .int .i16 (z 1), .int .i16 (z 2), .int .i16 (z 3), .int .i16 (z 4), .int .i16 (z 5)] ∧ (∀ j, (z j).natAbs ≤ 32768) ∧ ∀ x ∈ p, x.block < W.heap.size := by
  obtain ⟨A, z, rfl, hsz, hz, hp⟩ := open_row2 (n := 3) Tryz.underlying64 Tryz.underlying63 Tryz.underlying61 (by kernel_rfl) (by kernel_rfl) (by kernel_rfl) hv h
  obtain ⟨a, b, c, e, f, g, rfl⟩ : ∃ a b c e f g, A = #[a, b, c, e, f, g] := by
    obtain ⟨l⟩ := A
    match l, hsz with
    | [a, b, c, e, f, g], _ => exact ⟨a, b, c, e, f, g, rfl⟩
  have q0 := (hz 0 0 (by omega) (by omega)).2
  have q1 := (hz 0 1 (by omega) (by omega)).2
  have q2 := (hz 0 2 (by omega) (by omega)).2
  have q3 := (hz 1 0 (by omega) (by omega)).2
  have q4 := (hz 1 1 (by omega) (by omega)).2
  have q5 := (hz 1 2 (by omega) (by omega)).2
  simp at q0 q1 q2 q3 q4 q5
  subst q0 q1 q2 q3 q4 q5
  refine ⟨fun j => if j < 6 then z j else 0, rfl, fun j => ?_, hp⟩
  show (if j < 6 then z j else 0).natAbs ≤ 32768
  split
  · rename_i hj
    have := (hz (j / 3) (j % 3) (by omega) (by omega)).1
    rw [show j / 3 * 3 + j % 3 = j by omega] at this
    exact bounds_s this
  · decide
end Go.Proofs.YteafnkimcidkhaaGreat


