/- inner. -/
import Derived.Test.YtknoibocpbfmmaaGreatDoorPaH
namespace Go.Proofs.YtknoibocpbfmmaaGreatDoor
open Go.RowKit
set_option linter.unusedVariables false
set_option linter.unusedSimpArgs false
theorem PAt.setO {W : World} {b B : Nat} {ts : List Tk} {o d : Int} (h : PAt W b B ts o d) (o' : Int) : PAt (W.setCell ⟨b, 1, none⟩ (.int .i64 o')) b B ts o' d := by
  obtain ⟨ne, ⟨f, q, h1, h2, h3⟩, h4, h5, h6⟩ := h
  refine ⟨ne, ⟨f, q, ?_, h2, h3.on fun o v k => ?_⟩, ?_, ?_, fun k => ?_⟩
  · rw [World.cell?_setCell_other _ _ _ _ (by simp)]; exact h1
  · rw [World.cell?_setCell_other _ _ _ _ (by simp [ne])]; exact k
  · simp [go_sem, h4]
  · rw [World.cell?_setCell_other _ _ _ _ (by simp)]; exact h5
  · simpa [go_sem] using h6 k
theorem PAt.setD {W : World} {b B : Nat} {ts : List Tk} {o d : Int} (h : PAt W b B ts o d) (d' : Int) : PAt (W.setCell ⟨b, 2, none⟩ (.int .i64 d')) b B ts o d' := by
  obtain ⟨ne, ⟨f, q, h1, h2, h3⟩, h4, h5, h6⟩ := h
  refine ⟨ne, ⟨f, q, ?_, h2, h3.on fun o v k => ?_⟩, ?_, ?_, fun k => ?_⟩
  · rw [World.cell?_setCell_other _ _ _ _ (by simp)]; exact h1
  · rw [World.cell?_setCell_other _ _ _ _ (by simp [ne])]; exact k
  · rw [World.cell?_setCell_other _ _ _ _ (by simp)]; exact h4
  · simp [go_sem, h5]
  · simpa [go_sem] using h6 k
theorem Sit.setO {b B p : Nat} {w V : World} {ts : List Tk} {o d : Int} (h : Sit b B p w V ts o d) (o' : Int) : Sit b B p w (V.setCell ⟨b, 1, none⟩ (.int .i64 o')) ts o' d := h.onl (Onl.set (Onl.refl b V) _) (h.P.setO o')
theorem Sit.setD {b B p : Nat} {w V : World} {ts : List Tk} {o d : Int} (h : Sit b B p w V ts o d) (d' : Int) : Sit b B p w (V.setCell ⟨b, 2, none⟩ (.int .i64 d')) ts o d' := h.onl (Onl.set (Onl.refl b V) _) (h.P.setD d')
theorem Sit.drew {b B p : Nat} {w V : World} {ts : List Tk} {o d : Int} (h : Sit b B p w V ts o d) : Sit b B p w V.drew ts o d := h.onl (Onl.drew (Onl.refl b V)) (h.P.on rfl rfl)
set_option maxRecDepth 100000 in
set_option maxHeartbeats 1600000 in
theorem step_I (n : Nat) (ihC : SpC n) : SpI (n + 1) := by
  intro o ts d z o0 oM nm b B w hO0 hG h
  have hne := z.ne
  obtain ⟨R, hR⟩ : ∃ R, iP (n + 1) o ts d = R := ⟨_, rfl⟩
  rw [hR]
  rw [hR] at nm
  rw [iP] at hR
  have kC := ihC (o + 1) ts (max d (o + 1)) z (by omega) (by omega) (by rw [hR]; exact nm) b B
  have w1 : IntKind.i64.wrap (o + 1) = o + 1 := by rw [IntKind.wrap_i64]; omega
  have w2 : IntKind.i64.wrap (o + 1 - 1) = o := by rw [IntKind.wrap_i64]; omega
  have zR : ∀ x us d', R = .ok x us d' → us ≠ [] := fun x us d' e => by
    have := cP_sat n (o + 1) ts (max d (o + 1)) z
    rw [hR, e] at this
    exact this.1.ne
  have mx : (if d < o + 1 then o + 1 else d) = max d (o + 1) := by split <;> omega
  rw [hR] at kC
  clear hR z ihC
  have hlt := h.lt
  have hltB := h.ltB hne
  go_enter Tryz.func133, Tryz.ntmps133
  go_upto_region 1 with fail
  obtain ⟨W, hW⟩ : ∃ W, w.alloc (.cells #[.int .i64 0, .string ⟨#[]⟩, .int .i64 0, .slice none 0 0] 85) = W := ⟨_, rfl⟩
  obtain ⟨p, hp⟩ : ∃ p, w.heap.size = p := ⟨_, rfl⟩
  have hS : Sit b B p w W ts o d := by
    have gW : Below w.heap.size w W := by rw [← hW]; exact pb_new (Below.refl _ _) _
    refine ⟨(Onl.refl b w).below gW, ?_, h.bel hne gW, hO0.bel gW, Nat.le_of_eq hp, by omega, by omega, hG, hlt⟩
    rw [← hW, ← hp]; exact World.alloc_heap_new w _
  rw [hW]
  (try rw [hp])
  clear hW h hO0 hp hlt hltB
  have c1 := hS.P.op
  have c2 := hS.P.dp
  have cf := hS.P.fz
  go_upto_region 2 with fail
  go_region
  replace hS := ((hS.setO (o + 1)).setD (if d < o + 1 then o + 1 else d)).drew
  rw [mx] at hS
  (try rw [mx])
  generalize ((W.setCell ⟨b, 1, none⟩ (.int .i64 (o + 1))).setCell ⟨b, 2, none⟩ (.int .i64 (max d (o + 1)))).drew = V at *
  clear c1 c2 cf mx
  cases R with
  | more => exact absurd rfl nm
  | bad pl =>
    clear nm zR
    go_wp2_with (first
      | (go_at_call 83; (refine (kC _ hS.O hS.hG hS.P).mono ?_); rintro e v2 ⟨on2, rfl⟩; replace hS := hS.on.trans on2)
      | fail)
    refine ⟨rfl, ?_⟩
    exact ⟨hS, rfl⟩
  | ok x1 us1 d1 =>
    have ne1 := zR x1 us1 d1 rfl
    clear nm zR
    go_upto_region 4 with (first
      | (go_at_call 83; (refine (kC _ hS.O hS.hG hS.P).mono ?_); rintro e v2 ⟨on2, pp2, qq2, rfl, k2, hP2⟩; replace k2 := k2.lo (lo' := (fun k => w.heap.size ≤ k ∧ k ≠ p)) (hS.fr); replace hS := hS.onl on2 hP2)
      | fail)
    obtain ⟨V3, hV3⟩ : ∃ V, v2.alloc (.cells #[.int .i64 x1.op, .string x1.tx, .int .i64 x1.ty, .slice pp2 x1.ks.len qq2] 85) = V := ⟨_, rfl⟩
    obtain ⟨c3, hc3⟩ : ∃ c, v2.heap.size = c := ⟨_, rfl⟩
    have qc3 : V3.heap[c3]? = some (.cells #[.int .i64 x1.op, .string x1.tx, .int .i64 x1.ty, .slice pp2 x1.ks.len qq2] 85 (0, 0)) := by rw [← hV3, ← hc3]; exact World.alloc_heap_new _ _
    have lc3 : p < c3 := by rw [← hc3]; exact hS.pl
    have bc3 : c3 ≠ b := by have := hS.P.lt; omega
    have Bc3 : c3 ≠ B := by have := hS.P.ltB ne1; omega
    replace hS := hS.new ne1 (.cells #[.int .i64 x1.op, .string x1.tx, .int .i64 x1.ty, .slice pp2 x1.ks.len qq2] 85)
    replace k2 := k2.kp (Below.kp (pb_new (Below.refl v2.heap.size v2) (.cells #[.int .i64 x1.op, .string x1.tx, .int .i64 x1.ty, .slice pp2 x1.ks.len qq2] 85)) _)
    rw [hV3] at hS k2
    rw [hV3]
    (try rw [hc3])
    have ec3 : Hid (v2.heap.size = c3) := hc3
    clear hV3 hc3
    have c3' := hS.P.op
    have zpb := hS.pb
    have zbp := Ne.symm hS.pb
    have cf := hS.P.fz
    obtain ⟨f0, f1, f2, f3, ff⟩ := ex_cells hS.q
    obtain ⟨e0_, e1_, e2_, e3_, _⟩ := ex_cells qc3
    go_wp2_with fail
    have hS5 := hS.setO o
    have k5 := k2.away (Onl.set (Onl.refl b V3) (j := 1) (.int .i64 o)) hS.nb
    exact bodyPost_ret (v := .agg #[.int .i64 x1.op, .string x1.tx, .int .i64 x1.ty, .slice pp2 x1.ks.len qq2]) (by simp [results, Tryz.results133, go_sem, f0, f1, f2, f3, zpb, zbp]) rfl (ex_done hS5 (x := x1) rfl k5 (fun k a => a.1) (fun a => a.2 rfl) rfl rfl _ _ _ _)
end Go.Proofs.YtknoibocpbfmmaaGreatDoor
