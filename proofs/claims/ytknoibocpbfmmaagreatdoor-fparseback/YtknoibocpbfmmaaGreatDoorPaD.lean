/- Tokens: next, skip, want, take, and what gives up. -/
import Derived.Test.YtknoibocpbfmmaaGreatDoorPaC
import Derived.Laws.Externs
import Derived.Laws.EntriesVeiled
import Derived.Laws.Cells
import Derived.Laws.Slices
import Derived.Laws.AppendOwn
import Derived.Deep.DeepCutAuto
import Derived.Deep.DeepMust
import Derived.Deep.Cut
import Derived.ScopeJumps
import Derived.Shelf.Abstract
import Derived.BigQuiet
import Derived.LoopN
import Derived.LoopTactic
import Derived.Handy
import Derived.WideShapes
import Derived.Recover
import Derived.WalkSmall
import Derived.WalkLawsBesides
import Derived.Defers
import Derived.Maps.AppendAt
namespace Go.Proofs.YtknoibocpbfmmaaGreatDoor
open Go.RowKit
set_option linter.unusedVariables false
set_option linter.unusedSimpArgs false
set_option maxRecDepth 100000 in
theorem lx0 (B f n q : Nat) (h : 0 < n) (w : World) : (Instr.indexAt 40 (.slice (some ⟨B, f, none⟩) n q) (.int .i64 0)).run Tryz.prog w = .ok (.pointer (some ⟨B, f, none⟩)) w := by
  have e2 : ∀ w, (sizeOf (Tryz.prog.elem 40)).run Tryz.prog w = .ok 3 w := fun w => by kernel_rfl
  rw [run_indexAt_slice (h := by first | exact Tryz.underlying40 | rfl), if_pos ⟨by omega, by omega⟩, e2]
  simp [go_sem]
theorem lxf0 (a c : Int) (b : ByteArray) (w : World) : (Instr.field 45 (.agg #[.int .i64 a, .string b, .int .i64 c]) 0).run Tryz.prog w = .ok (.int .i64 a) w := by kernel_rfl
theorem lxf1 (a c : Int) (b : ByteArray) (w : World) : (Instr.field 45 (.agg #[.int .i64 a, .string b, .int .i64 c]) 1).run Tryz.prog w = .ok (.string b) w := by kernel_rfl
theorem lxf2 (a c : Int) (b : ByteArray) (w : World) : (Instr.field 45 (.agg #[.int .i64 a, .string b, .int .i64 c]) 2).run Tryz.prog w = .ok (.int .i64 c) w := by kernel_rfl
theorem pb_new {w W : World} (h : Below w.heap.size w W) (o : Obj) : Below w.heap.size w (W.alloc o) := h.alloc h.size o
theorem pb_set {n : Nat} {w W : World} (h : Below n w W) {c j : Nat} (hc : n ≤ c) (v : Value) : Below n w (W.setCell ⟨c, j, none⟩ v) := h.setCell (p := ⟨c, j, none⟩) hc v
theorem pb_call {w W V : World} (h : Below w.heap.size w W) (k : Below W.heap.size W V) : Below w.heap.size w V := h.trans (k.mono h.size)
theorem PAt.bel {W V : World} {b B : Nat} {ts : List Tk} {o d : Int} (h : PAt W b B ts o d) (hts : ts ≠ []) (k : Below W.heap.size W V) : PAt V b B ts o d := h.on (k.block _ h.lt) (k.block _ (h.ltB hts))
set_option maxRecDepth 100000 in
set_option maxHeartbeats 1600000 in
theorem pnext (b B : Nat) (t : Tk) (ts : List Tk) (o d : Int) (w : World) (h : PAt w b B (t :: ts) o d) :
    Calls Tryz.prog 60 #[.pointer (some ⟨b, 0, none⟩)] w fun e w' => e = .returned (.agg #[.int .i64 t.1, .string t.2.1, .int .i64 t.2.2]) ∧ Below w.heap.size w w' := by
  have hlt := h.lt
  have hltB := h.ltB (by simp)
  obtain ⟨f, q, c0, cq, k1, k2, k3, _⟩ := h.tk
  obtain ⟨n, hn⟩ : ∃ n, (t :: ts).length = n := ⟨_, rfl⟩
  have n0 : 0 < n := by rw [← hn]; simp
  rw [hn] at c0
  have ix := lx0 B f n q n0
  clear hn
  generalize t.1 = t1 at *
  generalize t.2.1 = t2 at *
  generalize t.2.2 = t3 at *
  have lf0 := lxf0
  have lf1 := lxf1
  have lf2 := lxf2
  go_enter Tryz.func60, Tryz.ntmps60
  go_wp2_with fail
  exact bodyPost_ret (v := .agg #[.int .i64 t1, .string t2, .int .i64 t3]) (by simp [results, Tryz.results60, go_sem]) rfl ⟨rfl, pb_new (Below.refl _ _) _⟩
set_option maxRecDepth 100000 in
set_option maxHeartbeats 1600000 in
theorem pended (b B : Nat) (t : Tk) (ts : List Tk) (o d : Int) (w : World) (h : PAt w b B (t :: ts) o d) :
    Calls Tryz.prog 62 #[.pointer (some ⟨b, 0, none⟩)] w fun e w' => e = .returned (.bool ((t.1 : Int) == 0)) ∧ Below w.heap.size w w' := by
  have kn := pnext b B t ts o d
  generalize t.2.1 = t2 at *
  generalize t.2.2 = t3 at *
  have lf0 := lxf0
  have lf1 := lxf1
  have lf2 := lxf2
  go_enter Tryz.func62, Tryz.ntmps62
  go_wp2_with (first | (go_at_call 60; refine (kn _ h).mono ?_; rintro e w1 ⟨rfl, g⟩) | fail)
  go_ret
  exact ⟨rfl, g⟩
theorem txt_no {a b : ByteArray} (h : a ≠ b) : (a.toList == b.toList) = false := by
  rw [beq_eq_false_iff_ne]
  intro e
  apply h
  have : a.data.toList = b.data.toList := by rw [← ByteArray.toList_eq, ← ByteArray.toList_eq]; exact e
  cases a; cases b; simp_all
/-- Whether the next token is of a text; then it is taken. -/
def skT (s : ByteArray) (ts : List Tk) : List Tk := if isTx ts s then ts.tail else ts
theorem PAt.tailTk {W : World} {b B : Nat} {t : Tk} {ts : List Tk} {o d : Int} (h : PAt W b B (t :: ts) o d) {V : World} (hs : ts ≠ []) (hV : ∃ f q, V.cell? ⟨b, 0, none⟩ = some (.slice (some ⟨B, f, none⟩) ts.length q) ∧ ts.length ≤ q ∧ TkAt V B ts f) (h1 : V.cell? ⟨b, 1, none⟩ = some (.int .i64 o)) (h2 : V.cell? ⟨b, 2, none⟩ = some (.int .i64 d)) (hf : ∀ k, V.frozen? ⟨b, k, none⟩ = false) : PAt V b B ts o d := ⟨h.ne, hV, h1, h2, hf⟩
set_option maxRecDepth 100000 in
set_option maxHeartbeats 1600000 in
theorem pskip_no (b B : Nat) (t : Tk) (ts : List Tk) (o d : Int) (s : ByteArray) (hs : t.2.1 ≠ s) (w : World) (h : PAt w b B (t :: ts) o d) :
    Calls Tryz.prog 78 #[.pointer (some ⟨b, 0, none⟩), .string s] w fun e w' => e = .returned (.bool false) ∧ Below w.heap.size w w' := by
  have kn := pnext b B t ts o d
  have ht := txt_no hs
  clear hs
  generalize t.2.1 = t2 at *
  generalize t.2.2 = t3 at *
  have lf0 := lxf0
  have lf1 := lxf1
  have lf2 := lxf2
  go_enter Tryz.func78, Tryz.ntmps78
  go_wp2_with (first | (go_at_call 60; refine (kn _ h).mono ?_; rintro e w1 ⟨rfl, g⟩) | fail)
  go_ret
  exact ⟨rfl, g⟩
theorem PAt.step {W : World} {b B : Nat} {t : Tk} {ts : List Tk} {o d : Int} (h : PAt W b B (t :: ts) o d) {f q : Nat} (c0 : W.cell? ⟨b, 0, none⟩ = some (.slice (some ⟨B, f, none⟩) (t :: ts).length q)) (cq : (t :: ts).length ≤ q) (k4 : TkAt W B ts (f + 3)) :
    PAt (W.setCell ⟨b, 0, none⟩ (.slice (some ⟨B, f + 3, none⟩) ts.length (q - 1))) b B ts o d := by
  refine ⟨h.ne, ⟨f + 3, q - 1, by simp [go_sem, c0], by simp at cq; omega, k4.on fun o v k => ?_⟩, ?_, ?_, fun k => ?_⟩
  · have := h.ne
    rw [World.cell?_setCell_other _ _ _ _ (by simp [this])]
    exact k
  · rw [World.cell?_setCell_other _ _ _ _ (by simp)]; exact h.op
  · rw [World.cell?_setCell_other _ _ _ _ (by simp)]; exact h.dp
  · have := h.fz k
    simpa [go_sem] using this
set_option maxRecDepth 100000 in
set_option maxHeartbeats 1600000 in
theorem pskip_yes (b B : Nat) (t : Tk) (ts : List Tk) (o d : Int) (h0 : ts ≠ []) (w : World) (h : PAt w b B (t :: ts) o d) :
    Calls Tryz.prog 78 #[.pointer (some ⟨b, 0, none⟩), .string t.2.1] w fun e w' => e = .returned (.bool true) ∧ PAt w' b B ts o d ∧ Onl b w w' := by
  have kn := pnext b B t ts o d
  have ht : (t.2.1.toList == t.2.1.toList) = true := by simp
  generalize t.2.1 = t2 at *
  generalize t.2.2 = t3 at *
  have lf0 := lxf0
  have lf1 := lxf1
  have lf2 := lxf2
  go_enter Tryz.func78, Tryz.ntmps78
  go_upto_region 3 with (first | (go_at_call 60; refine (kn _ h).mono ?_; rintro e w1 ⟨rfl, g⟩) | fail)
  have h1 := h.bel (by simp) g
  obtain ⟨f, q, c0, cq, k1, k2, k3, k4⟩ := h1.tk
  have fz := h1.fz 0
  have q1 : ¬ q = 1 := by
    have : ts.length ≠ 0 := fun e => h0 (List.length_eq_zero_iff.1 e)
    simp at cq; omega
  go_wp2_with fail
  go_ret
  exact ⟨rfl, h1.step c0 cq k4, (((Onl.refl b w).below g).set _)⟩
/-- What is given up with. -/
def fltV (e a : Int) : Value := .iface 48 (.agg #[.int .i64 e, .int .i64 a])
def Fault (e a : Int) (x : Ending) : Prop := x = .panicked [{ v := fltV e a, recovered := false }]
set_option maxRecDepth 100000 in
set_option maxHeartbeats 1600000 in
theorem pgive (b B : Nat) (t : Tk) (ts : List Tk) (o d : Int) (w : World) (h : PAt w b B (t :: ts) o d) :
    Calls Tryz.prog 95 #[.pointer (some ⟨b, 0, none⟩)] w fun e w' => Fault 4 t.2.2 e ∧ Below w.heap.size w w' := by
  have kn := pnext b B t ts o d
  have lf0 := lxf0
  have lf1 := lxf1
  have lf2 := lxf2
  unfold Fault fltV
  generalize t.2.1 = t2 at *
  generalize t.2.2 = t3 at *
  go_enter Tryz.func95, Tryz.ntmps95
  go_wp2_with (first | (go_at_call 60; refine (kn _ h).mono ?_; rintro e w1 ⟨rfl, g⟩) | fail)
  exact ⟨rfl, rfl, g⟩
/-- What a part of the parser comes to: what is told, or what it is given up with. -/
def want1 (s : ByteArray) (ts : List Tk) : Rs Unit := want s ts fun us => .ok () us 0
set_option maxRecDepth 100000 in
set_option maxHeartbeats 1600000 in
theorem pwant_yes (b B : Nat) (t : Tk) (ts : List Tk) (o d : Int) (h0 : ts ≠ []) (w : World) (h : PAt w b B (t :: ts) o d) :
    Calls Tryz.prog 80 #[.pointer (some ⟨b, 0, none⟩), .string t.2.1] w fun e w' => e = .returned (.tuple #[]) ∧ PAt w' b B ts o d ∧ Onl b w w' := by
  have kn := pskip_yes b B t ts o d h0
  generalize t.2.1 = t2 at *
  go_enter Tryz.func80, Tryz.ntmps80
  go_wp2_with (first | (go_at_call 78; refine (kn _ h).mono ?_; rintro e w1 ⟨rfl, g1, g⟩) | fail)
  exact bodyPost_end (v := .tuple #[]) (by simp [results, Tryz.results80, go_sem]) rfl ⟨rfl, g1, g⟩
set_option maxRecDepth 100000 in
set_option maxHeartbeats 1600000 in
theorem pwant_no (b B : Nat) (t : Tk) (ts : List Tk) (o d : Int) (s : ByteArray) (hs : t.2.1 ≠ s) (w : World) (h : PAt w b B (t :: ts) o d) :
    Calls Tryz.prog 80 #[.pointer (some ⟨b, 0, none⟩), .string s] w fun e w' => Fault 4 t.2.2 e ∧ Below w.heap.size w w' := by
  have kn := pskip_no b B t ts o d s hs
  have kg := pgive b B t ts o d
  unfold Fault fltV at *
  go_enter Tryz.func80, Tryz.ntmps80
  go_wp2_with (first | (go_at_call 78; refine (kn _ h).mono ?_; rintro e w1 ⟨rfl, g⟩; have h1 := h.bel (by simp) g) | (go_at_call 95; refine (kg _ h1).mono ?_; rintro e w2 ⟨rfl, g2⟩) | fail)
  exact ⟨rfl, rfl, pb_call g g2⟩
set_option maxRecDepth 100000 in
theorem kx (c n q j : Nat) (h : j < n) (w : World) : (Instr.indexAt 135 (.slice (some ⟨c, 0, none⟩) n q) (.int .i64 j)).run Tryz.prog w = .ok (.pointer (some ⟨c, j, none⟩)) w := by
  have e2 : ∀ w, (sizeOf (Tryz.prog.elem 135)).run Tryz.prog w = .ok 1 w := fun w => by kernel_rfl
  rw [run_indexAt_slice (h := by first | exact Tryz.underlying135 | rfl), if_pos ⟨by omega, by omega⟩, e2]
  simp [go_sem]
/-- Kinds in a block. -/
def KsAt (W : World) (c : Nat) (ks : List Nat) : Prop := ∀ j k, ks[j]? = some k → W.cell? ⟨c, j, none⟩ = some (.int .i64 (k : Nat))
set_option maxRecDepth 100000 in
set_option maxHeartbeats 1600000 in
theorem ptake_yes (b B c m q : Nat) (t : Tk) (ts : List Tk) (o d : Int) (h0 : ts ≠ []) (ks : List Nat) (hm : ks.length = m) (m2 : m ≤ 2) (hy : t.1 ∈ ks) (w : World) (hk : KsAt w c ks) (h : PAt w b B (t :: ts) o d) :
    Calls Tryz.prog 77 #[.pointer (some ⟨b, 0, none⟩), .slice (some ⟨c, 0, none⟩) m q] w fun e w' => e = .returned (.string t.2.1) ∧ PAt w' b B ts o d ∧ Onl b w w' := by
  have kn := pnext b B t ts o d
  obtain ⟨kd, hkd⟩ : ∃ k, t.1 = k := ⟨_, rfl⟩
  rw [hkd] at kn hy
  obtain ⟨t2, ht2⟩ : ∃ k, t.2.1 = k := ⟨_, rfl⟩
  rw [ht2] at kn ⊢
  obtain ⟨t3, ht3⟩ : ∃ k, t.2.2 = k := ⟨_, rfl⟩
  rw [ht3] at kn
  clear hkd ht2 ht3
  have lf0 := lxf0
  have lf1 := lxf1
  have lf2 := lxf2
  go_enter Tryz.func77, Tryz.ntmps77
  go_upto_region 2 with (first | (go_at_call 60; refine (kn _ h).mono ?_; rintro e w1 ⟨rfl, g⟩) | fail)
  obtain ⟨W, hW⟩ : ∃ W, w1.alloc (.cells #[.int .i64 kd, .string t2, .int .i64 t3] 45) = W := ⟨_, rfl⟩
  have gW : Below w.heap.size w W := by rw [← hW]; exact pb_new g _
  obtain ⟨p, hp⟩ : ∃ p, w1.heap.size = p := ⟨_, rfl⟩
  have x0 : W.cell? ⟨p, 0, none⟩ = some (.int .i64 kd) := by rw [← hW, ← hp]; simp [go_sem]
  have x1 : W.cell? ⟨p, 1, none⟩ = some (.string t2) := by rw [← hW, ← hp]; simp [go_sem]
  have pb : p ≠ b := by have := h.lt; have := g.size; omega
  have h1 := h.bel (by simp) gW
  have hk1 : Hid (KsAt W c ks) := fun j k e => by
    have := hk j k e
    exact (gW.cell (World.block_lt_of_cell? w _ this)).trans this
  rw [hW]
  (try rw [hp])
  clear hW hp kn h g hk
  obtain ⟨f, q', c0, cq, k1, k2, k3, k4⟩ := h1.tk
  have fz := h1.fz 0
  have q1 : ¬ q' = 1 := by
    have : ts.length ≠ 0 := fun e => h0 (List.length_eq_zero_iff.1 e)
    simp at cq; omega
  have hm' : Hid (ks.length = m) := hm
  clear hm
  go_upto_region 3 with fail
  go_loopw [12] (fun i wr => ∃ j : Nat, i = .int .i64 j ∧ j < m ∧ Hid (∃ j' : Nat, j ≤ j' ∧ ks[j']? = some kd) ∧ W = wr) (fun i _ => m - (intOf i).toNat)
  case atStart =>
    obtain ⟨j', hj', e⟩ := List.getElem_of_mem hy
    exact ⟨0, rfl, by have := hm'.out; omega, ⟨j', by omega, by rw [← e]; exact List.getElem?_eq_getElem hj'⟩, rfl⟩
  case round =>
    obtain ⟨j, rfl, hj, hx, e⟩ := hrel
    subst e
    obtain ⟨k, hkj⟩ : ∃ k, ks[j]? = some k := ⟨_, List.getElem?_eq_getElem (by have := hm'.out; omega)⟩
    have ck := hk1.out j k hkj
    have ix := kx c m q j hj
    have cj : (j : Int) < (m : Int) := by omega
    by_cases ek : kd = k
    · subst ek
      clear hx hk1 hkj
      go_wp2_with fail
      go_ret
      exact ⟨rfl, h1.step c0 cq k4, (Onl.refl b w).below gW |>.set _⟩
    · have ek' : ((kd : Int) == (k : Int)) = false := by rw [beq_eq_false_iff_ne]; omega
      have hx2 : Hid (∃ j' : Nat, j + 1 ≤ j' ∧ ks[j']? = some kd) := by
        obtain ⟨j', h1, h2⟩ := hx.out
        rcases (show j' = j ∨ j + 1 ≤ j' by omega) with e | e
        · subst e; rw [hkj] at h2; exact absurd (Option.some.inj h2).symm ek
        · exact ⟨j', e, h2⟩
      have hj2 : j + 1 < m := by
        obtain ⟨j', h1, h2⟩ := hx2.out
        have := (List.getElem?_eq_some_iff.1 h2).1
        have := hm'.out
        omega
      have wj : IntKind.i64.wrap ((j : Int) + 1) = ((j + 1 : Nat) : Int) := by rw [IntKind.wrap_i64]; omega
      clear hx hk1 hkj ek
      go_wp2_with fail
      exact ⟨⟨j + 1, by go_num, hj2, hx2, trivial⟩, by simp [intOf]; omega⟩
set_option maxRecDepth 100000 in
set_option maxHeartbeats 1600000 in
theorem ptake_no (b B c m q : Nat) (t : Tk) (ts : List Tk) (o d : Int) (ks : List Nat) (hm : ks.length = m) (m2 : m ≤ 2) (hy : t.1 ∉ ks) (w : World) (hk : KsAt w c ks) (h : PAt w b B (t :: ts) o d) :
    Calls Tryz.prog 77 #[.pointer (some ⟨b, 0, none⟩), .slice (some ⟨c, 0, none⟩) m q] w fun e w' => Fault 4 t.2.2 e ∧ Below w.heap.size w w' := by
  have kn := pnext b B t ts o d
  have kg := pgive b B t ts o d
  unfold Fault fltV at *
  obtain ⟨kd, hkd⟩ : ∃ k, t.1 = k := ⟨_, rfl⟩
  rw [hkd] at kn hy
  obtain ⟨t2, ht2⟩ : ∃ k, t.2.1 = k := ⟨_, rfl⟩
  rw [ht2] at kn
  obtain ⟨t3, ht3⟩ : ∃ k, t.2.2 = k := ⟨_, rfl⟩
  rw [ht3] at kn kg ⊢
  clear hkd ht2 ht3
  have lf0 := lxf0
  have lf1 := lxf1
  have lf2 := lxf2
  go_enter Tryz.func77, Tryz.ntmps77
  go_upto_region 2 with (first | (go_at_call 60; refine (kn _ h).mono ?_; rintro e w1 ⟨rfl, g⟩) | fail)
  obtain ⟨W, hW⟩ : ∃ W, w1.alloc (.cells #[.int .i64 kd, .string t2, .int .i64 t3] 45) = W := ⟨_, rfl⟩
  have gW : Below w.heap.size w W := by rw [← hW]; exact pb_new g _
  obtain ⟨p, hp⟩ : ∃ p, w1.heap.size = p := ⟨_, rfl⟩
  have x0 : W.cell? ⟨p, 0, none⟩ = some (.int .i64 kd) := by rw [← hW, ← hp]; simp [go_sem]
  have x1 : W.cell? ⟨p, 1, none⟩ = some (.string t2) := by rw [← hW, ← hp]; simp [go_sem]
  have pb : p ≠ b := by have := h.lt; have := g.size; omega
  have h1 := h.bel (by simp) gW
  have hk1 : Hid (KsAt W c ks) := fun j k e => by
    have := hk j k e
    exact (gW.cell (World.block_lt_of_cell? w _ this)).trans this
  rw [hW]
  (try rw [hp])
  clear hW hp kn h g hk
  have hm' : Hid (ks.length = m) := hm
  clear hm
  go_upto_region 3 with fail
  go_loopw [12] (fun i wr => ∃ j : Nat, i = .int .i64 j ∧ j ≤ m ∧ W = wr) (fun i _ => m - (intOf i).toNat)
  case atStart => exact ⟨0, rfl, by omega, rfl⟩
  case round =>
    obtain ⟨j, rfl, hj, e⟩ := hrel
    subst e
    by_cases cj : j < m
    · obtain ⟨k, hkj⟩ : ∃ k, ks[j]? = some k := ⟨_, List.getElem?_eq_getElem (by have := hm'.out; omega)⟩
      have ck := hk1.out j k hkj
      have ix := kx c m q j cj
      have cj' : (j : Int) < (m : Int) := by omega
      have ek : ¬ kd = k := by
        rintro rfl
        exact hy (List.mem_of_getElem? hkj)
      have ek' : ((kd : Int) == (k : Int)) = false := by rw [beq_eq_false_iff_ne]; omega
      have wj : IntKind.i64.wrap ((j : Int) + 1) = ((j + 1 : Nat) : Int) := by rw [IntKind.wrap_i64]; omega
      clear hk1 hkj ek hy
      go_wp2_with fail
      exact ⟨⟨j + 1, by go_num, by omega, trivial⟩, by simp [intOf]; omega⟩
    · obtain rfl : j = m := by omega
      clear hy hk1
      go_wp2_with (first | (go_at_call 95; refine (kg _ h1).mono ?_; rintro e w2 ⟨rfl, g2⟩) | fail)
      exact ⟨rfl, rfl, pb_call gW g2⟩
end Go.Proofs.YtknoibocpbfmmaaGreatDoor
