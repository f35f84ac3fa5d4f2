/- Texts of the proof, put together. -/
import Derived.Test.YtknoibocpbfmmaaGreatDoorWG5
import Derived.Laws.Externs
import Derived.Laws.EntriesVeiled
import Derived.Laws.Cells
import Derived.Laws.Slices
import Derived.Laws.AppendOwn
import Derived.Deep.DeepCutAuto
import Derived.Deep.DeepMust
import Derived.Deep.Cut
import Derived.ScopeJumps
import Derived.Shelf.Abstract
import Derived.BigQuiet
import Derived.LoopN
import Derived.LoopTactic
import Derived.Handy
import Derived.WideShapes
import Derived.Recover
import Derived.WalkSmall
import Derived.WalkLawsBesides
import Derived.Defers
import Derived.Maps.AppendAt
import Derived.RangeFuncRecord
namespace Go.Proofs.YtknoibocpbfmmaaGreatDoor
open Go.RowKit
set_option linter.unusedVariables false
set_option linter.unusedSimpArgs false
set_option maxRecDepth 100000 in
theorem lx0 (B f n q : Nat) (h : 0 < n) (w : World) : (Instr.indexAt 40 (.slice (some ⟨B, f, none⟩) n q) (.int .i64 0)).run Tryz.prog w = .ok (.pointer (some ⟨B, f, none⟩)) w := by
 have e2 : ∀ w, (sizeOf (Tryz.prog.elem 40)).run Tryz.prog w = .ok 3 w := fun w => by kernel_rfl
 rw [run_indexAt_slice (h := by first | exact Tryz.underlying40 | rfl), if_pos ⟨by omega, by omega⟩, e2]
 simp [go_sem]
theorem lxf0 (a c : Int) (b : ByteArray) (w : World) : (Instr.field 45 (.agg #[.int .i64 a, .string b, .int .i64 c]) 0).run Tryz.prog w = .ok (.int .i64 a) w := by kernel_rfl
theorem lxf1 (a c : Int) (b : ByteArray) (w : World) : (Instr.field 45 (.agg #[.int .i64 a, .string b, .int .i64 c]) 1).run Tryz.prog w = .ok (.string b) w := by kernel_rfl
theorem lxf2 (a c : Int) (b : ByteArray) (w : World) : (Instr.field 45 (.agg #[.int .i64 a, .string b, .int .i64 c]) 2).run Tryz.prog w = .ok (.int .i64 c) w := by kernel_rfl
theorem pb_new {w W : World} (h : Below w.heap.size w W) (o : Obj) : Below w.heap.size w (W.alloc o) := h.alloc h.size o
theorem pb_set {n : Nat} {w W : World} (h : Below n w W) {c j : Nat} (hc : n ≤ c) (v : Value) : Below n w (W.setCell ⟨c, j, none⟩ v) := h.setCell (p := ⟨c, j, none⟩) hc v
theorem pb_call {w W V : World} (h : Below w.heap.size w W) (k : Below W.heap.size W V) : Below w.heap.size w V := h.trans (k.mono h.size)
theorem PAt.bel {W V : World} {b B : Nat} {ts : List Tk} {o d : Int} (h : PAt W b B ts o d) (hts : ts ≠ []) (k : Below W.heap.size W V) : PAt V b B ts o d := h.on (k.block _ h.lt) (k.block _ (h.ltB hts))
set_option maxRecDepth 100000 in
set_option maxHeartbeats 1600000 in
theorem pnext (b B : Nat) (t : Tk) (ts : List Tk) (o d : Int) (w : World) (h : PAt w b B (t :: ts) o d) :
  Calls Tryz.prog 60 #[.pointer (some ⟨b, 0, none⟩)] w fun e w' => e = .returned (.agg #[.int .i64 t.1, .string t.2.1, .int .i64 t.2.2]) ∧ Below w.heap.size w w' := by
 have hlt := h.lt
 have hltB := h.ltB (by simp)
 obtain ⟨f, q, c0, cq, k1, k2, k3, _⟩ := h.tk
 obtain ⟨n, hn⟩ : ∃ n, (t :: ts).length = n := ⟨_, rfl⟩
 have n0 : 0 < n := by rw [← hn]; simp
 rw [hn] at c0
 have ix := lx0 B f n q n0
 clear hn
 generalize t.1 = t1 at *
 generalize t.2.1 = t2 at *
 generalize t.2.2 = t3 at *
 have lf0 := lxf0
 have lf1 := lxf1
 have lf2 := lxf2
 go_enter Tryz.func60, Tryz.ntmps60
 go_wp2_with fail
 exact bodyPost_ret (v := .agg #[.int .i64 t1, .string t2, .int .i64 t3]) (by simp [results, Tryz.results60, go_sem]) rfl ⟨rfl, pb_new (Below.refl _ _) _⟩
set_option maxRecDepth 100000 in
set_option maxHeartbeats 1600000 in
theorem pended (b B : Nat) (t : Tk) (ts : List Tk) (o d : Int) (w : World) (h : PAt w b B (t :: ts) o d) :
  Calls Tryz.prog 62 #[.pointer (some ⟨b, 0, none⟩)] w fun e w' => e = .returned (.bool ((t.1 : Int) == 0)) ∧ Below w.heap.size w w' := by
 have kn := pnext b B t ts o d
 generalize t.2.1 = t2 at *
 generalize t.2.2 = t3 at *
 have lf0 := lxf0
 have lf1 := lxf1
 have lf2 := lxf2
 go_enter Tryz.func62, Tryz.ntmps62
 go_wp2_with (first | (go_at_call 60; refine (kn _ h).mono ?_; rintro e w1 ⟨rfl, g⟩) | fail)
 go_ret
 exact ⟨rfl, g⟩
theorem txt_no {a b : ByteArray} (h : a ≠ b) : (a.toList == b.toList) = false := by
 rw [beq_eq_false_iff_ne]
 intro e
 apply h
 have : a.data.toList = b.data.toList := by rw [← ByteArray.toList_eq, ← ByteArray.toList_eq]; exact e
 cases a; cases b; simp_all
set_option maxRecDepth 100000 in
set_option maxHeartbeats 1600000 in
theorem pskip_no (b B : Nat) (t : Tk) (ts : List Tk) (o d : Int) (s : ByteArray) (hs : t.2.1 ≠ s) (w : World) (h : PAt w b B (t :: ts) o d) :
  Calls Tryz.prog 78 #[.pointer (some ⟨b, 0, none⟩), .string s] w fun e w' => e = .returned (.bool false) ∧ Below w.heap.size w w' := by
 have kn := pnext b B t ts o d
 have ht := txt_no hs
 clear hs
 generalize t.2.1 = t2 at *
 generalize t.2.2 = t3 at *
 have lf0 := lxf0
 have lf1 := lxf1
 have lf2 := lxf2
 go_enter Tryz.func78, Tryz.ntmps78
 go_wp2_with (first | (go_at_call 60; refine (kn _ h).mono ?_; rintro e w1 ⟨rfl, g⟩) | fail)
 go_ret
 exact ⟨rfl, g⟩
theorem PAt.step {W : World} {b B : Nat} {t : Tk} {ts : List Tk} {o d : Int} (h : PAt W b B (t :: ts) o d) {f q : Nat} (c0 : W.cell? ⟨b, 0, none⟩ = some (.slice (some ⟨B, f, none⟩) (t :: ts).length q)) (cq : (t :: ts).length ≤ q) (k4 : TkAt W B ts (f + 3)) :
  PAt (W.setCell ⟨b, 0, none⟩ (.slice (some ⟨B, f + 3, none⟩) ts.length (q - 1))) b B ts o d := by
 refine ⟨h.ne, ⟨f + 3, q - 1, by simp [go_sem, c0], by simp at cq; omega, k4.on fun o v k => ?_⟩, ?_, ?_, fun k => ?_⟩
 ·have := h.ne
  rw [World.cell?_setCell_other _ _ _ _ (by simp [this])]
  exact k
 ·rw [World.cell?_setCell_other _ _ _ _ (by simp)]; exact h.op
 ·rw [World.cell?_setCell_other _ _ _ _ (by simp)]; exact h.dp
 ·have := h.fz k
  simpa [go_sem] using this
set_option maxRecDepth 100000 in
set_option maxHeartbeats 1600000 in
theorem pskip_yes (b B : Nat) (t : Tk) (ts : List Tk) (o d : Int) (h0 : ts ≠ []) (w : World) (h : PAt w b B (t :: ts) o d) :
  Calls Tryz.prog 78 #[.pointer (some ⟨b, 0, none⟩), .string t.2.1] w fun e w' => e = .returned (.bool true) ∧ PAt w' b B ts o d ∧ Onl b w w' := by
 have kn := pnext b B t ts o d
 have ht : (t.2.1.toList == t.2.1.toList) = true := by simp
 generalize t.2.1 = t2 at *
 generalize t.2.2 = t3 at *
 have lf0 := lxf0
 have lf1 := lxf1
 have lf2 := lxf2
 go_enter Tryz.func78, Tryz.ntmps78
 go_upto_region 3 with (first | (go_at_call 60; refine (kn _ h).mono ?_; rintro e w1 ⟨rfl, g⟩) | fail)
 have h1 := h.bel (by simp) g
 obtain ⟨f, q, c0, cq, k1, k2, k3, k4⟩ := h1.tk
 have fz := h1.fz 0
 have q1 : ¬ q = 1 := by
  have : ts.length ≠ 0 := fun e => h0 (List.length_eq_zero_iff.1 e)
  simp at cq; omega
 go_wp2_with fail
 go_ret
 exact ⟨rfl, h1.step c0 cq k4, (((Onl.refl b w).below g).set _)⟩
/-- What is given up with. -/
def fltV (e a : Int) : Value := .iface 48 (.agg #[.int .i64 e, .int .i64 a])
def Fault (e a : Int) (x : Ending) : Prop := x = .panicked [{ v := fltV e a, recovered := false }]
set_option maxRecDepth 100000 in
set_option maxHeartbeats 1600000 in
theorem pgive (b B : Nat) (t : Tk) (ts : List Tk) (o d : Int) (w : World) (h : PAt w b B (t :: ts) o d) :
  Calls Tryz.prog 95 #[.pointer (some ⟨b, 0, none⟩)] w fun e w' => Fault 4 t.2.2 e ∧ Below w.heap.size w w' := by
 have kn := pnext b B t ts o d
 have lf0 := lxf0
 have lf1 := lxf1
 have lf2 := lxf2
 unfold Fault fltV
 generalize t.2.1 = t2 at *
 generalize t.2.2 = t3 at *
 go_enter Tryz.func95, Tryz.ntmps95
 go_wp2_with (first | (go_at_call 60; refine (kn _ h).mono ?_; rintro e w1 ⟨rfl, g⟩) | fail)
 exact ⟨rfl, rfl, g⟩
set_option maxRecDepth 100000 in
set_option maxHeartbeats 1600000 in
theorem pwant_yes (b B : Nat) (t : Tk) (ts : List Tk) (o d : Int) (h0 : ts ≠ []) (w : World) (h : PAt w b B (t :: ts) o d) :
  Calls Tryz.prog 80 #[.pointer (some ⟨b, 0, none⟩), .string t.2.1] w fun e w' => e = .returned (.tuple #[]) ∧ PAt w' b B ts o d ∧ Onl b w w' := by
 have kn := pskip_yes b B t ts o d h0
 generalize t.2.1 = t2 at *
 go_enter Tryz.func80, Tryz.ntmps80
 go_wp2_with (first | (go_at_call 78; refine (kn _ h).mono ?_; rintro e w1 ⟨rfl, g1, g⟩) | fail)
 exact bodyPost_end (v := .tuple #[]) (by simp [results, Tryz.results80, go_sem]) rfl ⟨rfl, g1, g⟩
set_option maxRecDepth 100000 in
set_option maxHeartbeats 1600000 in
theorem pwant_no (b B : Nat) (t : Tk) (ts : List Tk) (o d : Int) (s : ByteArray) (hs : t.2.1 ≠ s) (w : World) (h : PAt w b B (t :: ts) o d) :
  Calls Tryz.prog 80 #[.pointer (some ⟨b, 0, none⟩), .string s] w fun e w' => Fault 4 t.2.2 e ∧ Below w.heap.size w w' := by
 have kn := pskip_no b B t ts o d s hs
 have kg := pgive b B t ts o d
 unfold Fault fltV at *
 go_enter Tryz.func80, Tryz.ntmps80
 go_wp2_with (first | (go_at_call 78; refine (kn _ h).mono ?_; rintro e w1 ⟨rfl, g⟩; have h1 := h.bel (by simp) g) | (go_at_call 95; refine (kg _ h1).mono ?_; rintro e w2 ⟨rfl, g2⟩) | fail)
 exact ⟨rfl, rfl, pb_call g g2⟩
set_option maxRecDepth 100000 in
theorem kx (c n q j : Nat) (h : j < n) (w : World) : (Instr.indexAt 135 (.slice (some ⟨c, 0, none⟩) n q) (.int .i64 j)).run Tryz.prog w = .ok (.pointer (some ⟨c, j, none⟩)) w := by
 have e2 : ∀ w, (sizeOf (Tryz.prog.elem 135)).run Tryz.prog w = .ok 1 w := fun w => by kernel_rfl
 rw [run_indexAt_slice (h := by first | exact Tryz.underlying135 | rfl), if_pos ⟨by omega, by omega⟩, e2]
 simp [go_sem]
/-- Kinds in a block. -/
def KsAt (W : World) (c : Nat) (ks : List Nat) : Prop := ∀ j k, ks[j]? = some k → W.cell? ⟨c, j, none⟩ = some (.int .i64 (k : Nat))
set_option maxRecDepth 100000 in
set_option maxHeartbeats 1600000 in
theorem ptake_yes (b B c m q : Nat) (t : Tk) (ts : List Tk) (o d : Int) (h0 : ts ≠ []) (ks : List Nat) (hm : ks.length = m) (m2 : m ≤ 2) (hy : t.1 ∈ ks) (w : World) (hk : KsAt w c ks) (h : PAt w b B (t :: ts) o d) :
  Calls Tryz.prog 77 #[.pointer (some ⟨b, 0, none⟩), .slice (some ⟨c, 0, none⟩) m q] w fun e w' => e = .returned (.string t.2.1) ∧ PAt w' b B ts o d ∧ Onl b w w' := by
 have kn := pnext b B t ts o d
 obtain ⟨kd, hkd⟩ : ∃ k, t.1 = k := ⟨_, rfl⟩
 rw [hkd] at kn hy
 obtain ⟨t2, ht2⟩ : ∃ k, t.2.1 = k := ⟨_, rfl⟩
 rw [ht2] at kn ⊢
 obtain ⟨t3, ht3⟩ : ∃ k, t.2.2 = k := ⟨_, rfl⟩
 rw [ht3] at kn
 clear hkd ht2 ht3
 have lf0 := lxf0
 have lf1 := lxf1
 have lf2 := lxf2
 go_enter Tryz.func77, Tryz.ntmps77
 go_upto_region 2 with (first | (go_at_call 60; refine (kn _ h).mono ?_; rintro e w1 ⟨rfl, g⟩) | fail)
 obtain ⟨W, hW⟩ : ∃ W, w1.alloc (.cells #[.int .i64 kd, .string t2, .int .i64 t3] 45) = W := ⟨_, rfl⟩
 have gW : Below w.heap.size w W := by rw [← hW]; exact pb_new g _
 obtain ⟨p, hp⟩ : ∃ p, w1.heap.size = p := ⟨_, rfl⟩
 have x0 : W.cell? ⟨p, 0, none⟩ = some (.int .i64 kd) := by rw [← hW, ← hp]; simp [go_sem]
 have x1 : W.cell? ⟨p, 1, none⟩ = some (.string t2) := by rw [← hW, ← hp]; simp [go_sem]
 have pb : p ≠ b := by have := h.lt; have := g.size; omega
 have h1 := h.bel (by simp) gW
 have hk1 : Hid (KsAt W c ks) := fun j k e => by
  have := hk j k e
  exact (gW.cell (World.block_lt_of_cell? w _ this)).trans this
 rw [hW]
 (try rw [hp])
 clear hW hp kn h g hk
 obtain ⟨f, q', c0, cq, k1, k2, k3, k4⟩ := h1.tk
 have fz := h1.fz 0
 have q1 : ¬ q' = 1 := by
  have : ts.length ≠ 0 := fun e => h0 (List.length_eq_zero_iff.1 e)
  simp at cq; omega
 have hm' : Hid (ks.length = m) := hm
 clear hm
 go_upto_region 3 with fail
 go_loopw [12] (fun i wr => ∃ j : Nat, i = .int .i64 j ∧ j < m ∧ Hid (∃ j' : Nat, j ≤ j' ∧ ks[j']? = some kd) ∧ W = wr) (fun i _ => m - (intOf i).toNat)
 case atStart =>
  obtain ⟨j', hj', e⟩ := List.getElem_of_mem hy
  exact ⟨0, rfl, by have := hm'.out; omega, ⟨j', by omega, by rw [← e]; exact List.getElem?_eq_getElem hj'⟩, rfl⟩
 case round =>
  obtain ⟨j, rfl, hj, hx, e⟩ := hrel
  subst e
  obtain ⟨k, hkj⟩ : ∃ k, ks[j]? = some k := ⟨_, List.getElem?_eq_getElem (by have := hm'.out; omega)⟩
  have ck := hk1.out j k hkj
  have ix := kx c m q j hj
  have cj : (j : Int) < (m : Int) := by omega
  by_cases ek : kd = k
  ·subst ek
   clear hx hk1 hkj
   go_wp2_with fail
   go_ret
   exact ⟨rfl, h1.step c0 cq k4, (Onl.refl b w).below gW |>.set _⟩
  ·have ek' : ((kd : Int) == (k : Int)) = false := by rw [beq_eq_false_iff_ne]; omega
   have hx2 : Hid (∃ j' : Nat, j + 1 ≤ j' ∧ ks[j']? = some kd) := by
    obtain ⟨j', h1, h2⟩ := hx.out
    rcases (show j' = j ∨ j + 1 ≤ j' by omega) with e | e
    ·subst e; rw [hkj] at h2; exact absurd (Option.some.inj h2).symm ek
    ·exact ⟨j', e, h2⟩
   have hj2 : j + 1 < m := by
    obtain ⟨j', h1, h2⟩ := hx2.out
    have := (List.getElem?_eq_some_iff.1 h2).1
    have := hm'.out
    omega
   have wj : IntKind.i64.wrap ((j : Int) + 1) = ((j + 1 : Nat) : Int) := by rw [IntKind.wrap_i64]; omega
   clear hx hk1 hkj ek
   go_wp2_with fail
   exact ⟨⟨j + 1, by go_num, hj2, hx2, trivial⟩, by simp [intOf]; omega⟩
set_option maxRecDepth 100000 in
set_option maxHeartbeats 1600000 in
theorem ptake_no (b B c m q : Nat) (t : Tk) (ts : List Tk) (o d : Int) (ks : List Nat) (hm : ks.length = m) (m2 : m ≤ 2) (hy : t.1 ∉ ks) (w : World) (hk : KsAt w c ks) (h : PAt w b B (t :: ts) o d) :
  Calls Tryz.prog 77 #[.pointer (some ⟨b, 0, none⟩), .slice (some ⟨c, 0, none⟩) m q] w fun e w' => Fault 4 t.2.2 e ∧ Below w.heap.size w w' := by
 have kn := pnext b B t ts o d
 have kg := pgive b B t ts o d
 unfold Fault fltV at *
 obtain ⟨kd, hkd⟩ : ∃ k, t.1 = k := ⟨_, rfl⟩
 rw [hkd] at kn hy
 obtain ⟨t2, ht2⟩ : ∃ k, t.2.1 = k := ⟨_, rfl⟩
 rw [ht2] at kn
 obtain ⟨t3, ht3⟩ : ∃ k, t.2.2 = k := ⟨_, rfl⟩
 rw [ht3] at kn kg ⊢
 clear hkd ht2 ht3
 have lf0 := lxf0
 have lf1 := lxf1
 have lf2 := lxf2
 go_enter Tryz.func77, Tryz.ntmps77
 go_upto_region 2 with (first | (go_at_call 60; refine (kn _ h).mono ?_; rintro e w1 ⟨rfl, g⟩) | fail)
 obtain ⟨W, hW⟩ : ∃ W, w1.alloc (.cells #[.int .i64 kd, .string t2, .int .i64 t3] 45) = W := ⟨_, rfl⟩
 have gW : Below w.heap.size w W := by rw [← hW]; exact pb_new g _
 obtain ⟨p, hp⟩ : ∃ p, w1.heap.size = p := ⟨_, rfl⟩
 have x0 : W.cell? ⟨p, 0, none⟩ = some (.int .i64 kd) := by rw [← hW, ← hp]; simp [go_sem]
 have x1 : W.cell? ⟨p, 1, none⟩ = some (.string t2) := by rw [← hW, ← hp]; simp [go_sem]
 have pb : p ≠ b := by have := h.lt; have := g.size; omega
 have h1 := h.bel (by simp) gW
 have hk1 : Hid (KsAt W c ks) := fun j k e => by
  have := hk j k e
  exact (gW.cell (World.block_lt_of_cell? w _ this)).trans this
 rw [hW]
 (try rw [hp])
 clear hW hp kn h g hk
 have hm' : Hid (ks.length = m) := hm
 clear hm
 go_upto_region 3 with fail
 go_loopw [12] (fun i wr => ∃ j : Nat, i = .int .i64 j ∧ j ≤ m ∧ W = wr) (fun i _ => m - (intOf i).toNat)
 case atStart => exact ⟨0, rfl, by omega, rfl⟩
 case round =>
  obtain ⟨j, rfl, hj, e⟩ := hrel
  subst e
  by_cases cj : j < m
  ·obtain ⟨k, hkj⟩ : ∃ k, ks[j]? = some k := ⟨_, List.getElem?_eq_getElem (by have := hm'.out; omega)⟩
   have ck := hk1.out j k hkj
   have ix := kx c m q j cj
   have cj' : (j : Int) < (m : Int) := by omega
   have ek : ¬ kd = k := by
    rintro rfl
    exact hy (List.mem_of_getElem? hkj)
   have ek' : ((kd : Int) == (k : Int)) = false := by rw [beq_eq_false_iff_ne]; omega
   have wj : IntKind.i64.wrap ((j : Int) + 1) = ((j + 1 : Nat) : Int) := by rw [IntKind.wrap_i64]; omega
   clear hk1 hkj ek hy
   go_wp2_with fail
   exact ⟨⟨j + 1, by go_num, by omega, trivial⟩, by simp [intOf]; omega⟩
  ·obtain rfl : j = m := by omega
   clear hy hk1
   go_wp2_with (first | (go_at_call 95; refine (kg _ h1).mono ?_; rintro e w2 ⟨rfl, g2⟩) | fail)
   exact ⟨rfl, rfl, pb_call gW g2⟩
end Go.Proofs.YtknoibocpbfmmaaGreatDoor


namespace Go.Proofs.YtknoibocpbfmmaaGreatDoor
open Go.RowKit
set_option linter.unusedVariables false
set_option linter.unusedSimpArgs false
def wdOf (t : Int) : ByteArray := if t = 1 then ⟨#[105, 110, 116]⟩ else if t = 2 then ⟨#[102, 108, 111, 97, 116]⟩ else if t = 3 then ⟨#[100, 111, 117, 98, 108, 101]⟩ else tx0
set_option maxRecDepth 100000 in
set_option maxHeartbeats 1600000 in
theorem pword (t : Int) (w : World) : Calls Tryz.prog 33 #[.int .i64 t] w fun e w' => e = .returned (.string (wdOf t)) ∧ w' = w := by
 by_cases h1 : t = 1
 ·subst h1
  go_enter Tryz.func33, Tryz.ntmps33
  go_wp2_with fail
  go_ret
  exact ⟨rfl, rfl⟩
 by_cases h2 : t = 2
 ·subst h2
  go_enter Tryz.func33, Tryz.ntmps33
  go_wp2_with fail
  go_ret
  exact ⟨rfl, rfl⟩
 by_cases h3 : t = 3
 ·subst h3
  go_enter Tryz.func33, Tryz.ntmps33
  go_wp2_with fail
  go_ret
  exact ⟨rfl, rfl⟩
 have e : wdOf t = tx0 := by unfold wdOf; rw [if_neg h1, if_neg h2, if_neg h3]
 rw [e]
 have k1 : (t == 1) = false := by rw [beq_eq_false_iff_ne]; exact h1
 have k2 : (t == 2) = false := by rw [beq_eq_false_iff_ne]; exact h2
 have k3 : (t == 3) = false := by rw [beq_eq_false_iff_ne]; exact h3
 go_enter Tryz.func33, Tryz.ntmps33
 go_wp2_with fail
 go_ret
 exact ⟨rfl, rfl⟩
theorem ty_yes (j : Nat) (h1 : 1 ≤ j) (h3 : j ≤ 3) : tyOf (wdOf j) = j := by
 rcases (show j = 1 ∨ j = 2 ∨ j = 3 by omega) with rfl | rfl | rfl <;> decide
theorem ty_no {s : ByteArray} (h : ∀ j : Nat, 1 ≤ j → j ≤ 3 → wdOf j ≠ s) : tyOf s = 0 := by
 unfold tyOf
 rw [if_neg (fun e => h 1 (by decide) (by decide) e.symm), if_neg (fun e => h 2 (by decide) (by decide) e.symm), if_neg (fun e => h 3 (by decide) (by decide) e.symm)]
set_option maxRecDepth 100000 in
set_option maxHeartbeats 1600000 in
theorem ptype (s : ByteArray) (w : World) : Calls Tryz.prog 59 #[.string s] w fun e w' => e = .returned (.int .i64 (tyOf s)) ∧ w' = w := by
 have kw := pword
 have tn := @ty_no s
 have ty := ty_yes
 obtain ⟨R, hR⟩ : ∃ R, tyOf s = R := ⟨_, rfl⟩
 rw [hR]
 rw [hR] at tn
 go_enter Tryz.func59, Tryz.ntmps59
 go_upto_region 2 with fail
 have hR' : Hid (tyOf s = R) := hR
 clear hR
 go_loopw [3] (fun i wr => ∃ j : Nat, i = .int .i64 j ∧ 1 ≤ j ∧ j ≤ 4 ∧ Hid (∀ k : Nat, 1 ≤ k → k < j → wdOf k ≠ s) ∧ w = wr) (fun i _ => 4 - (intOf i).toNat)
 case atStart => exact ⟨1, rfl, by omega, by omega, fun k a b => by omega, rfl⟩
 case round =>
  obtain ⟨j, rfl, j1, j4, hx, e⟩ := hrel
  subst e
  by_cases cj : j ≤ 3
  ·have cj' : (j : Int) ≤ 3 := by omega
   have wj : IntKind.i64.wrap ((j : Int) + 1) = ((j + 1 : Nat) : Int) := by rw [IntKind.wrap_i64]; omega
   obtain ⟨x, hxj⟩ : ∃ x, wdOf j = x := ⟨_, rfl⟩
   by_cases ex : x = s
   ·have eR : Hid ((j : Int) = R) := by have h9 := ty j j1 cj; have h8 := hR'.out; rw [← ex, ← hxj, h9] at h8; exact h8
    subst ex
    have ht : (x.toList == x.toList) = true := by simp
    clear hx tn ty hR'
    go_wp2_with (first | (go_at_call 33; refine (kw _ _).mono ?_; rintro e w1 ⟨rfl, rfl⟩; (try rw [hxj])) | fail)
    go_ret
    exact ⟨by rw [← eR.out]; rfl, rfl⟩
   ·have ht := txt_no ex
    have hx2 : Hid (∀ k : Nat, 1 ≤ k → k < j + 1 → wdOf k ≠ s) := fun k a b => by
     rcases (show k < j ∨ k = j by omega) with h | h
     ·exact hx.out k a h
     ·rw [h, hxj]; exact ex
    clear hx tn ty ex
    go_wp2_with (first | (go_at_call 33; refine (kw _ _).mono ?_; rintro e w1 ⟨rfl, rfl⟩; (try rw [hxj])) | fail)
    exact ⟨⟨j + 1, by go_num, by omega, by omega, hx2, trivial⟩, by simp [intOf]; omega⟩
  ·obtain rfl : j = 4 := by omega
   have e0 : R = 0 := by exact tn (fun k a b => hx.out k a (by omega))
   subst e0
   clear tn ty hx
   go_wp2_with fail
   go_ret
   exact ⟨rfl, rfl⟩
/-- The operators as the table has them. -/
def opT : List (Int × ByteArray × Int) := [(19, ⟨#[124, 124]⟩, 0), (18, ⟨#[38, 38]⟩, 1), (12, ⟨#[60]⟩, 2), (13, ⟨#[60, 61]⟩, 2), (14, ⟨#[62]⟩, 2), (15, ⟨#[62, 61]⟩, 2), (16, ⟨#[61, 61]⟩, 2), (17, ⟨#[33, 61]⟩, 2), (8, ⟨#[43]⟩, 3), (9, ⟨#[45]⟩, 3), (10, ⟨#[42]⟩, 4), (11, ⟨#[47]⟩, 4)]
def opC : List (Int × ByteArray × Int) → List Value
 | [] => []
 | x :: r => .int .i64 x.1 :: .string x.2.1 :: .int .i64 x.2.2 :: opC r
/-- The table in memory. -/
def OpsAt (W : World) : Prop := ∀ j v, (opC opT)[j]? = some v → W.cell? ⟨0, j, none⟩ = some v
theorem op_yes {j : Nat} {a l : Int} {t : ByteArray} (h : opT[j]? = some (a, t, l)) : opOf t = (a, l) := by
 have hj := (List.getElem?_eq_some_iff.1 h).1
 have hl : opT.length = 12 := rfl
 rcases (show j = 0 ∨ j = 1 ∨ j = 2 ∨ j = 3 ∨ j = 4 ∨ j = 5 ∨ j = 6 ∨ j = 7 ∨ j = 8 ∨ j = 9 ∨ j = 10 ∨ j = 11 by omega) with rfl | rfl | rfl | rfl | rfl | rfl | rfl | rfl | rfl | rfl | rfl | rfl <;> (simp [opT] at h; obtain ⟨rfl, rfl, rfl⟩ := h; decide)
theorem op_no {s : ByteArray} (h : ∀ (j : Nat) x, opT[j]? = some x → x.2.1 ≠ s) : opOf s = (0, 0) := by
 have g : ∀ (j : Nat) x, opT[j]? = some x → ¬ s = x.2.1 := fun j x e k => h j x e k.symm
 unfold opOf
 rw [if_neg (g 0 _ rfl), if_neg (g 1 _ rfl), if_neg (g 2 _ rfl), if_neg (g 3 _ rfl), if_neg (g 4 _ rfl), if_neg (g 5 _ rfl), if_neg (g 6 _ rfl), if_neg (g 7 _ rfl), if_neg (g 8 _ rfl), if_neg (g 9 _ rfl), if_neg (g 10 _ rfl), if_neg (g 11 _ rfl)]
/-- An element of the table as a value. -/
theorem op_index (j : Nat) (a l : Int) (t : ByteArray) (h : opT[j]? = some (a, t, l)) (w : World) : (Instr.index 146 (.agg (opC opT).toArray) (.int .i64 j)).run Tryz.prog w = .ok (.agg #[.int .i64 a, .string t, .int .i64 l]) w := by
 have hj := (List.getElem?_eq_some_iff.1 h).1
 have hl : opT.length = 12 := rfl
 rcases (show j = 0 ∨ j = 1 ∨ j = 2 ∨ j = 3 ∨ j = 4 ∨ j = 5 ∨ j = 6 ∨ j = 7 ∨ j = 8 ∨ j = 9 ∨ j = 10 ∨ j = 11 by omega) with rfl | rfl | rfl | rfl | rfl | rfl | rfl | rfl | rfl | rfl | rfl | rfl <;> (simp [opT] at h; obtain ⟨rfl, rfl, rfl⟩ := h; show _ = _; kernel_rfl)
end Go.Proofs.YtknoibocpbfmmaaGreatDoor


namespace Go.Proofs.YtknoibocpbfmmaaGreatDoor
open Go.RowKit
set_option linter.unusedVariables false
set_option linter.unusedSimpArgs false
theorem OpsAt.bel {W V : World} (h : OpsAt W) (k : Below W.heap.size W V) : OpsAt V := fun j v e => (k.cell (World.block_lt_of_cell? W _ (h j v e))).trans (h j v e)
theorem OpsAt.onl {W V : World} {b : Nat} (h : OpsAt W) (hb : b ≠ 0) (k : Onl b W V) : OpsAt V := fun j v e => k.cell (fun e => hb e.symm) (h j v e)
set_option maxRecDepth 100000 in
theorem op_load (V : World) (h : OpsAt V) : (Instr.loadAt 146 (.pointer (some ⟨0, 0, none⟩))).run Tryz.prog V = .ok (Value.agg (opC opT).toArray) V := by
 have hl : (loadCells ⟨0, 0, none⟩ 36).run Tryz.prog V = .ok (opC opT).toArray V := by
  have := run_loadCells_list (P := Tryz.prog) V ⟨0, 0, none⟩ (opC opT) (fun j v hv => by
   have := h j v hv
   rw [Go.WideShapes.add_plain, Nat.zero_add]
   exact this)
  exact this
 have ha : (isAgg 146).run Tryz.prog V = .ok true V := by kernel_rfl
 have hz : (sizeOf 146).run Tryz.prog V = .ok 36 V := by kernel_rfl
 simp only [Instr.loadAt, Instr.sureAddr, loadVar, Sem.run_bind, Sem.run_pure, Result.andThen, ha, hz, hl, if_true]
theorem wp_load_by {o : Oper} {a : Act} {w : World} {K : Act → World → Prop} {Q : Exit → Act → World → Prop} (ty : TypeId) (x : Operand) (ho : o.op = .load ty x) (p v : Value) (hx : a.eval x = p) (hr : (Instr.loadAt ty p).run Tryz.prog w = .ok v w) (h : K (a.put o.dst v) w) : o.wp Tryz.prog a w K Q := by
 unfold Oper.wp execOp
 simp only [ho, hx, Sem.run_bind, hr, Result.andThen_ok]
 exact h
theorem op_len {j : Nat} {x : Int × ByteArray × Int} (h : opT[j]? = some x) : j < 12 := (List.getElem?_eq_some_iff.1 h).1
set_option maxRecDepth 100000 in
set_option maxHeartbeats 1600000 in
theorem popOf (s : ByteArray) (w : World) (hO : OpsAt w) : Calls Tryz.prog 114 #[.string s] w fun e w' => (∃ x, e = .returned (.agg #[.int .i64 (opOf s).1, .string x, .int .i64 (opOf s).2]) ∧ ((opOf s).1 ≠ 0 → x = s)) ∧ Below w.heap.size w w' := by
 have on := @op_no s
 have oy := @op_yes
 obtain ⟨R1, hR1⟩ : ∃ R, (opOf s).1 = R := ⟨_, rfl⟩
 obtain ⟨R2, hR2⟩ : ∃ R, (opOf s).2 = R := ⟨_, rfl⟩
 rw [hR1, hR2]
 have on' : Hid ((∀ (j : Nat) x, opT[j]? = some x → x.2.1 ≠ s) → R1 = 0 ∧ R2 = 0) := fun h => by have := on h; rw [← hR1, ← hR2, this]; exact ⟨rfl, rfl⟩
 have oy' : Hid (∀ (j : Nat) (a l : Int), opT[j]? = some (a, s, l) → a = R1 ∧ l = R2) := fun j a l h => by have := oy h; rw [← hR1, ← hR2, this]; exact ⟨rfl, rfl⟩
 clear on oy hR1 hR2
 go_enter Tryz.func114, Tryz.ntmps114
 go_upto_region 1 with fail
 obtain ⟨W, hW⟩ : ∃ W, w.alloc (.cells #[.int .i64 0, .string ⟨#[]⟩, .int .i64 0] 133) = W := ⟨_, rfl⟩
 obtain ⟨p, hp⟩ : ∃ p, w.heap.size = p := ⟨_, rfl⟩
 have gW : Below w.heap.size w W := by rw [← hW]; exact pb_new (Below.refl _ _) _
 have x0 : W.heap[p]? = some (.cells #[.int .i64 0, .string ⟨#[]⟩, .int .i64 0] 133 (0, 0)) := by
  rw [← hW, ← hp]; exact World.alloc_heap_new w _
 have hO1 := hO.bel gW
 have ld := op_load W hO1
 rw [hW]
 (try rw [hp])
 clear hW hO1
 have ixs := op_index
 generalize Value.agg (opC opT).toArray = A at *
 refine wp_region_list ?_
 refine Eq.mpr (if_pos (by rfl)) (Or.inl ?_)
 refine wp_load_by 146 (.global 0) rfl _ _ rfl ld ?_
 go_upto_region 2 with fail
 clear ld
 go_loopw [6] (fun i wr => ∃ (j : Nat) (V : World), i = .int .i64 j ∧ j ≤ 12 ∧ Hid (∀ (k : Nat) x, k < j → opT[k]? = some x → x.2.1 ≠ s) ∧ V = wr ∧ V.heap[p]? = some (.cells #[.int .i64 0, .string ⟨#[]⟩, .int .i64 0] 133 (0, 0)) ∧ Below w.heap.size w V) (fun i _ => 12 - (intOf i).toNat)
 case atStart => exact ⟨0, W, rfl, by omega, fun k x h => by omega, rfl, x0, gW⟩
 case round =>
  clear x0 gW
  obtain ⟨j, V, rfl, hj, hx, e, x0, gV⟩ := hrel
  subst e
  have f0 : V.cell? ⟨p, 0, none⟩ = some (.int .i64 0) := by simp [World.cell?, x0]
  have f1 : V.cell? ⟨p, 1, none⟩ = some (.string ⟨#[]⟩) := by simp [World.cell?, x0]
  have f2 : V.cell? ⟨p, 2, none⟩ = some (.int .i64 0) := by simp [World.cell?, x0]
  have ff : ∀ k, V.frozen? ⟨p, k, none⟩ = false := fun k => by simp [World.frozen?, x0]
  have pV : p < V.heap.size := (Array.getElem?_eq_some_iff.1 x0).1
  have zp : p ≠ V.heap.size := by omega
  have zq : V.heap.size ≠ p := by omega
  by_cases cj : j < 12
  ·have cj' : (j : Int) < 12 := by omega
   have wj : IntKind.i64.wrap ((j : Int) + 1) = ((j + 1 : Nat) : Int) := by rw [IntKind.wrap_i64]; omega
   obtain ⟨⟨a, t, l⟩, hxj⟩ : ∃ x, opT[j]? = some x := ⟨_, List.getElem?_eq_getElem (show j < opT.length from cj)⟩
   have ix := ixs j a l t hxj
   clear ixs
   by_cases ex : t = s
   ·subst ex
    have ht : (t.toList == t.toList) = true := by simp
    obtain ⟨eR1, eR2⟩ := oy'.out j a l hxj
    have eR : Hid (a = R1 ∧ l = R2) := ⟨eR1, eR2⟩
    clear eR1 eR2 hx hxj on' oy'
    go_wp2_with fail
    obtain ⟨rfl, rfl⟩ := eR.out
    exact bodyPost_ret (v := .agg #[.int .i64 a, .string t, .int .i64 l]) (by simp [results, Tryz.results114, go_sem, zp, zq, pV, Nat.ne_of_lt pV, f0, f1, f2, ff]) rfl ⟨⟨t, rfl, fun _ => rfl⟩, by rw [← hp] at *; exact pb_new (pb_set (pb_set (pb_set gV (Nat.le_refl _) _) (Nat.le_refl _) _) (Nat.le_refl _) _) _⟩
   ·have ht := txt_no ex
    have hx2 : Hid (∀ (k : Nat) x, k < j + 1 → opT[k]? = some x → x.2.1 ≠ s) := fun k x h e => by
     rcases (show k < j ∨ k = j by omega) with h | h
     ·exact hx.out k x h e
     ·rw [h, hxj] at e; cases e; exact ex
    have x02 := (Below.heap_alloc V (.cells #[.int .i64 a, .string t, .int .i64 l] 133) p pV).trans x0
    clear hx hxj ex on' oy'
    go_wp2_with fail
    exact ⟨⟨j + 1, _, by go_num, by omega, hx2, rfl, x02, by rw [← hp] at *; exact pb_new gV _⟩, by simp [intOf]; omega⟩
  ·obtain rfl : j = 12 := by omega
   obtain ⟨rfl, rfl⟩ := on'.out fun k x e => hx.out k x (op_len e) e
   clear hx on' oy'
   go_wp2_with fail
   exact bodyPost_ret (v := .agg #[.int .i64 0, .string ⟨#[]⟩, .int .i64 0]) (by simp [results, Tryz.results114, go_sem, f0, f1, f2]) rfl ⟨⟨_, rfl, fun h => absurd rfl h⟩, by rw [← hp] at *; first | exact gV | exact pb_set (pb_set (pb_set gV (Nat.le_refl _) _) (Nat.le_refl _) _) (Nat.le_refl _) _⟩
end Go.Proofs.YtknoibocpbfmmaaGreatDoor


