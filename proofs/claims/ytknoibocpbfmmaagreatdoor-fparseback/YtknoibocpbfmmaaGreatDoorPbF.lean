/- A ruler: bound. -/
import Derived.Test.YtknoibocpbfmmaaGreatDoorPbE
namespace Go.Proofs.YtknoibocpbfmmaaGreatDoor
open Go.RowKit
set_option linter.unusedVariables false
set_option linter.unusedSimpArgs false
/-- All texts of an expression are such as may be. -/
def Ex.szs (e : Ex) : Prop := e.tx.size ≤ 9223372036854775807 ∧ e.ks.szs
theorem pex (e : Ex) (h : e.szs) : SpEx e := pex_any e h.1 h.2
theorem ruE_neg {e : Ex} {deep x y : Nat} (h : ruE deep e x = some y) (h4 : e.op = 4) : e.ks.len = 1 := by
  rw [ruE_eq] at h
  split at h
  · rename_i g
    simp only [Bool.and_eq_true, decide_eq_true_eq] at g
    have := g.2.2
    unfold exOk at this
    rw [h4, if_neg (by decide), if_neg (by decide), if_neg (by decide), if_neg (by decide), if_pos (by decide)] at this
    simp only [Bool.and_eq_true, decide_eq_true_eq] at this
    exact this.2.2
  · cases h
theorem ex_box {V : World} {b : Nat} {t : TypeId} {x0 x1 x2 x3 : Value} (q : V.heap[b]? = some (.cells #[x0, x1, x2, x3] t (0, 0))) (y0 y1 y2 y3 : Value) : ((((V.setCell ⟨b, 0, none⟩ y0).setCell ⟨b, 1, none⟩ y1).setCell ⟨b, 2, none⟩ y2).setCell ⟨b, 3, none⟩ y3).heap[b]? = some (.cells #[y0, y1, y2, y3] t (0, 0)) := by
  have := at_set (at_set (at_set (at_set q 0 y0) 1 y1) 2 y2) 3 y3
  simpa using this
set_option maxRecDepth 100000 in
set_option maxHeartbeats 1600000 in
theorem prbound (e : Ex) (hz : e.szs) (p x : Nat) (S : Nat → Prop) (pp : Option Addr) (qq b : Nat) (w : World) (hO : OpsAt w) (hG : b ≠ 0) (hSb : ¬ S b) (hT : SlF w S (.slice pp e.ks.len qq) e.ks) (hR : RuAt w b (p, x)) :
    Calls Tryz.prog 103 #[.pointer (some ⟨b, 0, none⟩), .agg #[.int .i64 e.op, .string e.tx, .int .i64 e.ty, .slice pp e.ks.len qq]] w fun e' w' => RuR ((ruB e x).map fun y => (p, y)) b w e' w' := by
  have kE := fun Y h1 h3 h4 => pex e hz 1 p x (fun k => S k ∧ k < w.heap.size) pp qq b Y (by decide) h1 hG (fun a => hSb a.1) h3 h4
  obtain ⟨R, hQ⟩ : ∃ R, (ruB e x).map (fun y => (p, y)) = R := ⟨_, rfl⟩
  rw [hQ]
  unfold ruB at hQ
  have lb := hR.lt
  have hT' := hT.lt
  have ng := @ruE_neg e 1 x
  obtain ⟨B, hB⟩ : ∃ B, w.heap.size = B := ⟨_, rfl⟩
  have gA := pb_new (Below.refl w.heap.size w) (.cells #[.int .i64 e.op, .string e.tx, .int .i64 e.ty, .slice pp e.ks.len qq] 85)
  have kE2 := kE _ (hO.bel gA) (hT'.kp (Below.kp gA _)) (hR.bel gA)
  have qB := World.alloc_heap_new w (.cells #[.int .i64 e.op, .string e.tx, .int .i64 e.ty, .slice pp e.ks.len qq] 85)
  have hTA := hT'.kp (Below.kp gA _)
  have onA := (Onl.refl b w).below gA
  have sz := gA.size
  clear kE hO hT hT' hR gA
  obtain ⟨isb, hisb⟩ : ∃ i, isBd e = i := ⟨_, rfl⟩
  rw [hisb] at hQ
  unfold isBd at hisb
  obtain ⟨X, hX⟩ : ∃ X, w.alloc (.cells #[.int .i64 e.op, .string e.tx, .int .i64 e.ty, .slice pp e.ks.len qq] 85) = X := ⟨_, rfl⟩
  rw [hX] at qB hTA onA kE2 sz
  rw [hB] at qB hTA
  obtain ⟨f0, f1, f2, f3, ff⟩ := ex_cells qB
  have hX' : Hid (w.alloc (.cells #[.int .i64 e.op, .string e.tx, .int .i64 e.ty, .slice pp e.ks.len qq] 85) = X) := hX
  have hB' : Hid (w.heap.size = B) := hB
  have bB : b ≠ B := by omega
  have Bb : B ≠ b := Ne.symm bB
  clear hX hB
  cases hr : ruE 1 e x with
  | none =>
    obtain rfl : R = none := by rw [← hQ, hr]; rfl
    rw [hr] at kE2
    clear hQ hr ng hisb
    go_enter Tryz.func103, Tryz.ntmps103
    go_upto_region 1 with fail
    rw [hX'.out]
    (try rw [hB'.out])
    go_wp2_with (first
      | (go_at_call 102; (refine kE2.mono ?_); rintro e v1 ⟨on1, rfl⟩; replace on1 := onA.trans on1)
      | fail)
    exact ⟨rfl, on1, rfl⟩
  | some y =>
    rw [hr] at kE2 hQ
    have hQ' : Hid ((if isb = true then some (p, y) else none) = R) := by
      show _ = _
      rw [← hQ]; cases isb <;> rfl
    have ng' := fun h4 => ng hr h4
    clear hQ hr ng
    by_cases h4 : e.op = 4
    · have hl := ng' h4
      rw [if_pos h4] at hisb
      obtain ⟨p2, q2, e2, hT⟩ := hTA
      obtain ⟨rfl, e4, rfl⟩ := Value.slice.inj e2
      clear e2 e4 ng'
      rcases hT with hT | ⟨c, u, rfl, hT⟩
      · rw [hT] at hl; cases hl
      obtain ⟨op2, tx2, ty2, ks2, r2, hks⟩ : ∃ a t y k r, e.ks = .cons a t y k r := by
        cases hk : e.ks with
        | nil => rw [hk] at hl; cases hl
        | cons a t y k r => exact ⟨a, t, y, k, r, rfl⟩
      rw [hks] at hT hisb
      obtain ⟨⟨k0, k1, k2, s3, k3, p3, q3, rfl, _⟩, _, lc, lw⟩ := hT.head
      have cb : c ≠ b := fun e => hSb (e ▸ lc)
      have cB : c ≠ B := by have := hB'.out; omega
      have Bc : B ≠ c := Ne.symm cB
      have e1 : (op2 == 1) = isb := by
        rw [← hisb]
        show _ = decide (op2 = 1)
        by_cases h : op2 = 1 <;> simp [h]
      have ix := ex_ix c u 1 qq 0 (by decide)
      rw [Nat.zero_mul, Nat.add_zero] at ix
      rw [hl] at kE2 f3 hX' qB
      rw [h4] at kE2 f0 hX' qB
      rw [h4, hl]
      clear hisb hT hks hl h4
      cases isb
      all_goals
        obtain rfl := hQ'.out
        clear hQ'
        go_enter Tryz.func103, Tryz.ntmps103
        go_upto_region 1 with fail
        rw [hX'.out]
        (try rw [hB'.out])
        clear hX'
        go_wp2_with (first
          | (go_at_call 102; (refine kE2.mono ?_); rintro e v1 ⟨on1, rfl, h1⟩; replace k0 := on1.cell cb k0; replace k1 := on1.cell cb k1; replace k2 := on1.cell cb k2; replace k3 := on1.cell cb k3; replace f0 := on1.cell Bb f0; replace f1 := on1.cell Bb f1; replace f2 := on1.cell Bb f2; replace f3 := on1.cell Bb f3; replace ff := (fun k => (frozen_of_heap (on1.block B (lt_of qB) Bb)).trans (ff k)); replace qB := (on1.block B (lt_of qB) Bb).trans qB; clear kE2)
          | (go_at_call 68; (with_reducible refine (pmust_yes _).mono ?_); rintro e v1 ⟨rfl, rfl⟩)
          | (go_at_call 68; (with_reducible refine (pmust_no _).mono ?_); rintro e v1 ⟨rfl, rfl⟩)
          | fail)
        have wB : w.heap.size ≤ B := Nat.le_of_eq hB'.out
        have on2 := ((((onA.trans on1).setNew wB (j := 0) (.int .i64 op2)).setNew wB (j := 1) (.string tx2)).setNew wB (j := 2) (.int .i64 ty2)).setNew wB (j := 3) (.slice p3 ks2.len q3)
        have R2 : RuAt ((((v1.setCell ⟨B, 0, none⟩ (.int .i64 op2)).setCell ⟨B, 1, none⟩ (.string tx2)).setCell ⟨B, 2, none⟩ (.int .i64 ty2)).setCell ⟨B, 3, none⟩ (.slice p3 ks2.len q3)) b (p, y) := h1.on (((Below.heap_setCell _ _ _ b bB).trans (Below.heap_setCell _ _ _ b bB)).trans ((Below.heap_setCell _ _ _ b bB).trans (Below.heap_setCell _ _ _ b bB)))
        first
          | exact bodyPost_end (v := .tuple #[]) (by simp [results, Tryz.results103, go_sem]) rfl ⟨on2, rfl, R2⟩
          | exact ⟨rfl, on2, rfl⟩
    · rw [if_neg h4] at hisb
      have e1 : (e.op == 1) = isb := by
        rw [← hisb]
        by_cases h : e.op = 1 <;> simp [h]
      have e4 : (e.op == 4) = false := by rw [beq_eq_false_iff_ne]; exact h4
      clear hisb ng' hTA
      generalize e.op = op at *
      generalize e.ks.len = m at *
      cases isb
      all_goals
        obtain rfl := hQ'.out
        clear hQ'
        go_enter Tryz.func103, Tryz.ntmps103
        go_upto_region 1 with fail
        rw [hX'.out]
        (try rw [hB'.out])
        clear hX'
        go_wp2_with (first
          | (go_at_call 102; (refine kE2.mono ?_); rintro e v1 ⟨on1, rfl, h1⟩; replace f0 := on1.cell Bb f0; clear kE2)
          | (go_at_call 68; (with_reducible refine (pmust_yes _).mono ?_); rintro e v1 ⟨rfl, rfl⟩)
          | (go_at_call 68; (with_reducible refine (pmust_no _).mono ?_); rintro e v1 ⟨rfl, rfl⟩)
          | fail)
        first
          | exact bodyPost_end (v := .tuple #[]) (by simp [results, Tryz.results103, go_sem]) rfl ⟨onA.trans on1, rfl, h1⟩
          | exact ⟨rfl, onA.trans on1, rfl⟩
end Go.Proofs.YtknoibocpbfmmaaGreatDoor

