/- Texts of the proof, put together. -/
import Derived.Test.YteafnkimcidkhaaGreatRG4
import Derived.Test.YteafnkimcidkhaaGreatRows
import Derived.ProofKit
import Derived.OpenShut
import Derived.ChangeOld
import Derived.Lib.SmallJoins
import Derived.Deep.Strs
import Derived.Test.YteafnkimcidkhaaGreatRG3
import Derived.Test.YteafnkimcidkhaaGreatRMB1
import Derived.Deep.Slices
import Derived.Carry
import Derived.Test.YteafnkimcidkhaaGreatRG6
import Derived.Test.YteafnkimcidkhaaGreatRLiO
namespace Go.Proofs.YteafnkimcidkhaaGreat
open Go.RowKit
set_option linter.unusedVariables false
set_option linter.unusedSimpArgs false
end Go.Proofs.YteafnkimcidkhaaGreat


namespace Go.Proofs.YteafnkimcidkhaaGreat
open Go.ChangeShapes Go.WideShapes Go.ChangeAt Go.RowKit Go.Joins Go.Deep
set_option linter.unusedVariables false
set_option linter.unusedSimpArgs false
set_option maxRecDepth 100000 in
theorem sc4 : Tryz.prog.cellsOf 4 = 1 := by kernel_rfl
set_option maxRecDepth 100000 in
theorem sc24 : Tryz.prog.cellsOf 24 = 3 := by kernel_rfl
set_option maxRecDepth 100000 in
theorem sc22 : Tryz.prog.cellsOf 22 = 1 := by kernel_rfl
theorem sp_array3 {α : Type} {cs : Array α} (h : cs.size = 3) : ∃ c0 c1 c2, cs = #[c0, c1, c2] := by
 obtain ⟨l⟩ := cs
 match l, h with
 | [c0, c1, c2], _ => exact ⟨c0, c1, c2, rfl⟩
section
variable {H : Type} {enc : TypeId × Value → H} {w : World} {base : Nat} {spare : Nat → Bool} {held : Bool}
set_option maxRecDepth 100000 in
theorem sp_bool {n : Nat} {c : Value} {y : DataW H × List MemPlace} (h : DataW.trod enc Tryz.prog w base spare held n 4 [c] = some y) : ∃ b : Bool, c = .bool b ∧ y = (.lit (.bool b), []) := by
 cases n with
 | zero => simp [DataW.trod] at h
 | succ n =>
  unfold DataW.trod at h
  rw [Tryz.underlying4] at h
  cases c <;> simp at h
  exact ⟨_, rfl, h.symm⟩
theorem sp_up {t : TypeId} {n m : Nat} {cs : List Value} {x : DataW H × List MemPlace} (h : DataW.trod enc Tryz.prog w base spare held n t cs = some x) (le : n ≤ m) : DataW.trod enc Tryz.prog w base spare held m t cs = some x := DataW.trod_le le h
set_option maxRecDepth 100000 in
theorem open_fr {r : Reach} {b0 : Nat} {v : Value} {d : DataW H} {p : List MemPlace} (hv : Value.okWide Tryz.prog w r b0 24 v) (h : DataW.Trod enc Tryz.prog w base spare held 24 v d p) :
  ∃ (b1 : Bool) (x2 : Int) (x3 : Int), v = .agg #[.bool b1, .int .u64 x2, .int .u64 x3] ∧ d = .agg [.lit (.bool b1), .lit (.int .u64 x2), .lit (.int .u64 x3)] ∧ p = [] ∧ (Lit.int .u64 x2).wf = true ∧ (Lit.int .u64 x3).wf = true := by
 obtain ⟨cs, rfl, hsz⟩ := okWide_struct Tryz.underlying24 hv
 obtain ⟨c0, c1, c2, rfl⟩ := sp_array3 (hsz.trans sc24)
 obtain ⟨fuel, hf⟩ := h
 obtain ⟨y0_0, y0_1, y0_2, n0, hx, _, h0_0, h0_1, h0_2⟩ := trod_struct3 Tryz.underlying24 hf
 simp only [Value.cells, sc4, sc22] at h0_0 h0_1 h0_2
 obtain ⟨b1, rfl, rfl⟩ := sp_bool h0_0
 obtain ⟨x2, ex2, rfl, wx2⟩ := DataW.trod_int Tryz.underlying22 h0_1
 simp at ex2
 subst ex2
 obtain ⟨x3, ex3, rfl, wx3⟩ := DataW.trod_int Tryz.underlying22 h0_2
 simp at ex3
 subst ex3
 simp only [Prod.mk.injEq, List.append_nil] at hx
 exact ⟨b1, x2, x3, rfl, hx.1, hx.2, wx2, wx3⟩
set_option maxRecDepth 100000 in
theorem shut_fr (b1 : Bool) {x2 x3 : Int} (wx2 : (Lit.int .u64 x2).wf = true) (wx3 : (Lit.int .u64 x3).wf = true) :
  DataW.Trod enc Tryz.prog w base spare held 24 (.agg #[.bool b1, .int .u64 x2, .int .u64 x3]) (.agg [.lit (.bool b1), .lit (.int .u64 x2), .lit (.int .u64 x3)]) [] := by
 have t0 : DataW.trod enc Tryz.prog w base spare held 2 24 [.bool b1, .int .u64 x2, .int .u64 x3] = some (.agg [.lit (.bool b1), .lit (.int .u64 x2), .lit (.int .u64 x3)], []) := by
  have := trod_struct3_mk (enc := enc) (w := w) (base := base) (spare := spare) (held := held) (n := 1) (cs := [.bool b1, .int .u64 x2, .int .u64 x3]) (y0 := (.lit (.bool b1), [])) (y1 := (.lit (.int .u64 x2), [])) (y2 := (.lit (.int .u64 x3), [])) Tryz.underlying24 (by simp [sc24]) (by simpa [sc4] using (sp_up (by simp [DataW.trod, Tryz.underlying4] : DataW.trod enc Tryz.prog w base spare held 1 4 [.bool b1] = some (.lit (.bool b1), [])) (by decide))) (by simpa [sc22] using (sp_up (by simp [DataW.trod, Tryz.underlying22, wx2] : DataW.trod enc Tryz.prog w base spare held 1 22 [.int .u64 x2] = some (.lit (.int .u64 x2), [])) (by decide))) (by simpa [sc22] using (sp_up (by simp [DataW.trod, Tryz.underlying22, wx3] : DataW.trod enc Tryz.prog w base spare held 1 22 [.int .u64 x3] = some (.lit (.int .u64 x3), [])) (by decide)))
  simpa using this
 exact ⟨2, by simpa [Value.cells] using t0⟩
end
end Go.Proofs.YteafnkimcidkhaaGreat



namespace Go.Proofs.YteafnkimcidkhaaGreat
open Go.ChangeShapes Go.WideShapes Go.ChangeAt Go.RowKit Go.Joins Go.Deep
set_option linter.unusedVariables false
set_option linter.unusedSimpArgs false
set_option maxRecDepth 100000 in
theorem lsc1 : Tryz.prog.cellsOf 31 = 5 := by kernel_rfl
set_option maxRecDepth 100000 in
theorem lsc2 : Tryz.prog.cellsOf 99 = 4 := by kernel_rfl
set_option maxRecDepth 100000 in
theorem lsc3 : Tryz.prog.cellsOf 29 = 1 := by kernel_rfl
set_option maxRecDepth 100000 in
theorem lsc4 : Tryz.prog.cellsOf 3 = 1 := by kernel_rfl
set_option maxRecDepth 100000 in
theorem lct : Tryz.prog.cellTypes Tryz.prog.depth 31 = some [4, 4, 22, 22, 29] := by kernel_rfl
theorem li_word {x : Int} (h : (Lit.int .u64 x).wf = true) : Word x := by
 simp [Lit.wf, IntKind.min, IntKind.max, IntKind.signed, IntKind.bits] at h
 exact ⟨by omega, by omega⟩
theorem li_int {x : Int} (h : (Lit.int .i64 x).wf = true) : -9223372036854775808 ≤ x ∧ x ≤ 9223372036854775807 := by
 simp [Lit.wf, IntKind.min, IntKind.max, IntKind.signed, IntKind.bits] at h
 exact ⟨by omega, by omega⟩
theorem sp_array5 {α : Type} {cs : Array α} (h : cs.size = 5) : ∃ c0 c1 c2 c3 c4, cs = #[c0, c1, c2, c3, c4] := by
 obtain ⟨l⟩ := cs
 match l, h with
 | [c0, c1, c2, c3, c4], _ => exact ⟨c0, c1, c2, c3, c4, rfl⟩
def RAt (W : World) (v : Value) (rs : List (Bool × Int × Int)) : Prop := (v = .slice none 0 0 ∧ rs = []) ∨ ∃ (b o cap : Nat), v = .slice (some ⟨b, o, none⟩) rs.length cap ∧ rs.length ≤ cap ∧ ∀ (j : Nat) r, rs[j]? = some r → W.cell? ⟨b, o + j * 3, none⟩ = some (.bool r.1) ∧ W.cell? ⟨b, o + j * 3 + 1, none⟩ = some (.int .u64 r.2.1) ∧ W.cell? ⟨b, o + j * 3 + 2, none⟩ = some (.int .u64 r.2.2)
theorem RAt.on {W V : World} {v : Value} {rs : List (Bool × Int × Int)} (h : RAt W v rs) (g : Below W.heap.size W V) : RAt V v rs := by
 rcases h with h | ⟨b, o, cap, rfl, hc, h⟩
 ·exact Or.inl h
 ·exact Or.inr ⟨b, o, cap, rfl, hc, fun j t hj => by
  obtain ⟨h0, h1, h2⟩ := h j t hj
  exact ⟨sO g h0, sO g h1, sO g h2⟩⟩
theorem RAt.len {W : World} {v : Value} {rs : List (Bool × Int × Int)} (h : RAt W v rs) : ∃ (p : Option Addr) (cap : Nat), v = .slice p rs.length cap := by
 rcases h with ⟨rfl, rfl⟩ | ⟨b, o, cap, rfl, hc, h⟩
 ·exact ⟨none, 0, rfl⟩
 ·exact ⟨_, cap, rfl⟩
section
variable {H : Type} {enc : TypeId × Value → H} {W : World}
set_option maxRecDepth 100000 in
theorem tr_fr {base : Nat} {sp : Nat → Bool} {hd : Bool} {n : Nat} {cs : List Value} {y : DataW H × List MemPlace} (hl : cs.length = 3) (h : DataW.trod enc Tryz.prog W base sp hd n 24 cs = some y) : ∃ (e : Bool) (a b : Int), cs = [.bool e, .int .u64 a, .int .u64 b] ∧ y.2 = [] ∧ Word a ∧ Word b := by
 match cs, hl with
 | [c0, c1, c2], _ =>
  obtain ⟨y0, y1, y2, n0, hx, _, h0, h1, h2⟩ := trod_struct3 Tryz.underlying24 h
  simp only [sc4, sc22] at h0 h1 h2
  obtain ⟨b1, rfl, rfl⟩ := sp_bool h0
  obtain ⟨x2, ex2, rfl, wx2⟩ := DataW.trod_int Tryz.underlying22 h1
  simp at ex2
  subst ex2
  obtain ⟨x3, ex3, rfl, wx3⟩ := DataW.trod_int Tryz.underlying22 h2
  simp at ex3
  subst ex3
  refine ⟨b1, x2, x3, rfl, ?_, li_word wx2, li_word wx3⟩
  rw [hx]
  rfl
def tmW (t : Int × Bool × Int × Int) : Prop := -9223372036854775808 ≤ t.1 ∧ t.1 ≤ 9223372036854775807 ∧ Word t.2.2.1 ∧ Word t.2.2.2
set_option maxRecDepth 100000 in
theorem tr_term {base : Nat} {sp : Nat → Bool} {hd : Bool} {n : Nat} {cs : List Value} {y : DataW H × List MemPlace} (hl : cs.length = 4) (h : DataW.trod enc Tryz.prog W base sp hd n 99 cs = some y) : ∃ t : Int × Bool × Int × Int, cs = [.int .i64 t.1, .bool t.2.1, .int .u64 t.2.2.1, .int .u64 t.2.2.2] ∧ y.2 = [] ∧ tmW t := by
 match cs, hl with
 | [c0, c1, c2, c3], _ =>
  obtain ⟨y0, y1, n0, hx, _, h0, h1⟩ := trod_struct2 Tryz.underlying99 h
  simp only [lsc4, sc24] at h0 h1
  obtain ⟨x2, ex2, rfl, wx2⟩ := DataW.trod_int Tryz.underlying3 h0
  simp at ex2
  subst ex2
  obtain ⟨e, a, b, ec, hy, wa, wb⟩ := tr_fr (by simp) h1
  simp at ec
  obtain ⟨rfl, rfl, rfl⟩ := ec
  refine ⟨(x2, e, a, b), rfl, ?_, (li_int wx2).1, (li_int wx2).2, wa, wb⟩
  rw [hx]
  simp [hy]
set_option maxRecDepth 100000 in
theorem tr_terms {n : Nat} {v : Value} {y : DataW H × List MemPlace} (hs : ∀ a l c, v = .slice (some a) l c → a.spot = none) (h : DataW.trod enc Tryz.prog W 0 (fun _ => true) true n 29 [v] = some y) : ∃ ls, TAt W v ls ∧ (∀ t ∈ ls, tmW t) ∧ ∀ x ∈ y.2, x.block < W.heap.size := by
 rcases open_slice Tryz.underlying29 h with ⟨hc, hx⟩ | ⟨a, len, cap, m, k, D, Pl, hc, _, hl, hm, hmm, hx, he⟩
 ·simp at hc
  refine ⟨[], Or.inl ⟨hc, rfl⟩, by simp, ?_⟩
  rw [hx]
  simp
 ·simp only [List.cons.injEq, and_true] at hc
  subst hc
  have spn := hs a len cap rfl
  obtain ⟨bk, off, spot⟩ := a
  simp only at spn
  subst spn
  rw [if_pos rfl] at hmm
  subst hmm
  rw [lsc2] at he
  have each : ∀ i, i < m → ∃ t : Int × Bool × Int × Int, (W.cell? ⟨bk, off + i * 4, none⟩ = some (.int .i64 t.1) ∧ W.cell? ⟨bk, off + i * 4 + 1, none⟩ = some (.bool t.2.1) ∧ W.cell? ⟨bk, off + i * 4 + 2, none⟩ = some (.int .u64 t.2.2.1) ∧ W.cell? ⟨bk, off + i * 4 + 3, none⟩ = some (.int .u64 t.2.2.2)) ∧ tmW t ∧ Pl i = [] := by
   intro i hi
   obtain ⟨cs', h1, h2⟩ := he i hi
   obtain ⟨_, hlen, hcell⟩ := World.cells?_some h1
   obtain ⟨t, rfl, hp, ht⟩ := tr_term hlen h2
   have e0 := hcell 0 (by omega)
   have e1 := hcell 1 (by omega)
   have e2 := hcell 2 (by omega)
   have e3 := hcell 3 (by omega)
   rw [Go.Deep.add_add, Go.WideShapes.add_plain] at e0 e1 e2 e3
   exact ⟨t, ⟨by simpa using e0, by simpa [Nat.add_assoc] using e1, by simpa [Nat.add_assoc] using e2, by simpa [Nat.add_assoc] using e3⟩, ht, hp⟩
  obtain ⟨q, hq⟩ := choose_lt (α := Int × Bool × Int × Int) each
  refine ⟨(List.range len).map q, Or.inr ⟨bk, off, m, by simp, by simpa using hl, fun j t hj => ?_⟩, fun t ht => ?_, ?_⟩
  ·simp only [List.getElem?_map] at hj
   by_cases hjl : j < len
   ·rw [List.getElem?_range hjl] at hj
    simp at hj
    subst hj
    exact (hq j (by omega)).1
   ·rw [List.getElem?_eq_none (by simpa using hjl)] at hj
    simp at hj
  ·obtain ⟨i, hi, rfl⟩ := List.mem_map.1 ht
   exact (hq i (by have := List.mem_range.1 hi; omega)).2.1
  ·rw [hx]
   intro x hx'
   simp only [List.mem_append] at hx'
   rcases hx' with hx' | hx'
   ·obtain ⟨i, hi, rfl⟩ := MemPlace.mem_row.1 hx'
    rw [lsc2] at hi
    have hm0 : 0 < m := by omega
    have := World.block_lt_of_cell? W _ (hq 0 hm0).1.1
    exact this
   ·obtain ⟨i, hi, hx'⟩ := List.mem_flatMap.1 hx'
    rw [(hq i (List.mem_range.1 hi)).2.2] at hx'
    simp at hx'
set_option maxRecDepth 100000 in
theorem open_form {base : Nat} {v : Value} {d : DataW H} {p : List MemPlace} (hv : Value.okWide Tryz.prog W .any base 31 v) (h : DataW.Trod enc Tryz.prog W 0 (fun _ => true) true 31 v d p) :
  ∃ (wh e : Bool) (a b : Int) (s : Value) (ls : List (Int × Bool × Int × Int)), v = .agg #[.bool wh, .bool e, .int .u64 a, .int .u64 b, s] ∧ Word a ∧ Word b ∧ TAt W s ls ∧ (∀ t ∈ ls, tmW t) ∧ ∀ x ∈ p, x.block < W.heap.size := by
 have hv0 := hv
 simp only [Value.okWide, Tryz.underlying31] at hv0
 obtain ⟨cs, rfl, hsz, ts, hts, _, hrow⟩ := hv0
 rw [lct] at hts
 cases hts
 obtain ⟨c0, c1, c2, c3, c4, rfl⟩ := sp_array5 (hsz.trans lsc1)
 obtain ⟨fuel, hf⟩ := h
 obtain ⟨y0, y1, y2, n0, hx, _, h0, h1, h2⟩ := trod_struct3 Tryz.underlying31 hf
 simp only [Value.cells, sc4, sc24, lsc3] at h0 h1 h2
 obtain ⟨wh, rfl, rfl⟩ := sp_bool h0
 obtain ⟨e, a, b, ec, hy, wa, wb⟩ := tr_fr (by simp) h1
 simp at ec
 obtain ⟨rfl, rfl, rfl⟩ := ec
 have hs : ∀ a l c, c4 = .slice (some a) l c → a.spot = none := by
  intro a l c e4
  obtain ⟨u, hu, ho⟩ := hrow 4 c4 (by simp)
  simp at hu
  subst hu
  subst e4
  simp [Cell.okWide, Cell.ok, World.has, Tryz.underlying29] at ho
  exact ho.2.2.2.1
 obtain ⟨ls, hT, hw, hp⟩ := tr_terms hs (by simpa using h2)
 simp only [Prod.mk.injEq] at hx
 refine ⟨wh, e, a, b, c4, ls, rfl, wa, wb, hT, hw, fun x hxx => ?_⟩
 rw [hx.2, hy] at hxx
 simp at hxx
 exact hp x hxx
set_option maxRecDepth 100000 in
theorem open_slfr {base : Nat} {v : Value} {d : DataW H} {p : List MemPlace} (hv : Value.okWide Tryz.prog W .any base 51 v) (h : DataW.Trod enc Tryz.prog W 0 (fun _ => true) true 51 v d p) : ∃ rs, RAt W v rs ∧ (∀ r ∈ rs, Word r.2.1 ∧ Word r.2.2) ∧ rs.length ≤ 9223372036854775807 ∧ ∀ x ∈ p, x.block < W.heap.size := by
 have key : ∀ u, v.cells.toList = [u] → v = u := by
  intro u hu
  cases v <;> first | (simp [Value.cells] at hu; exact hu) | (exfalso; simp [Value.okWide, Cell.okWide, Cell.ok, Tryz.underlying51] at hv)
 obtain ⟨fuel, h⟩ := h
 rcases open_slice Tryz.underlying51 h with ⟨hc, hx⟩ | ⟨a, len, cap, m, k, D, Pl, hc, _, hl, hm, hmm, hx, he⟩
 ·refine ⟨[], Or.inl ⟨key _ hc, rfl⟩, by simp, by simp, ?_⟩
  simp only [Prod.mk.injEq] at hx
  rw [hx.2]
  simp
 ·have hv2 := key _ hc
  subst hv2
  have spn : a.spot = none := by
   simp [Value.okWide, Cell.okWide, Cell.ok, World.has, Tryz.underlying51] at hv
   exact hv.2.2.2.1
  obtain ⟨bk, off, spot⟩ := a
  simp only at spn
  subst spn
  rw [if_pos rfl] at hmm
  subst hmm
  rw [sc24] at he
  have each : ∀ i, i < m → ∃ t : Bool × Int × Int, (W.cell? ⟨bk, off + i * 3, none⟩ = some (.bool t.1) ∧ W.cell? ⟨bk, off + i * 3 + 1, none⟩ = some (.int .u64 t.2.1) ∧ W.cell? ⟨bk, off + i * 3 + 2, none⟩ = some (.int .u64 t.2.2)) ∧ (Word t.2.1 ∧ Word t.2.2) ∧ Pl i = [] := by
   intro i hi
   obtain ⟨cs', h1, h2⟩ := he i hi
   obtain ⟨_, hlen, hcell⟩ := World.cells?_some h1
   obtain ⟨e, a, b, rfl, hp, wa, wb⟩ := tr_fr hlen h2
   have e0 := hcell 0 (by omega)
   have e1 := hcell 1 (by omega)
   have e2 := hcell 2 (by omega)
   rw [Go.Deep.add_add, Go.WideShapes.add_plain] at e0 e1 e2
   exact ⟨(e, a, b), ⟨by simpa using e0, by simpa [Nat.add_assoc] using e1, by simpa [Nat.add_assoc] using e2⟩, ⟨wa, wb⟩, hp⟩
  obtain ⟨q, hq⟩ := choose_lt (α := Bool × Int × Int) each
  refine ⟨(List.range len).map q, Or.inr ⟨bk, off, m, by simp, by simpa using hl, fun j t hj => ?_⟩, fun t ht => ?_, by simp; unfold maxLen at hm; omega, ?_⟩
  ·simp only [List.getElem?_map] at hj
   by_cases hjl : j < len
   ·rw [List.getElem?_range hjl] at hj
    simp at hj
    subst hj
    exact (hq j (by omega)).1
   ·rw [List.getElem?_eq_none (by simpa using hjl)] at hj
    simp at hj
  ·obtain ⟨i, hi, rfl⟩ := List.mem_map.1 ht
   exact (hq i (by have := List.mem_range.1 hi; omega)).2.1
  ·simp only [Prod.mk.injEq] at hx
   rw [hx.2]
   intro x hx'
   simp only [List.mem_append] at hx'
   rcases hx' with hx' | hx'
   ·obtain ⟨i, hi, rfl⟩ := MemPlace.mem_row.1 hx'
    rw [sc24] at hi
    have hm0 : 0 < m := by omega
    exact World.block_lt_of_cell? W _ (hq 0 hm0).1.1
   ·obtain ⟨i, hi, hx'⟩ := List.mem_flatMap.1 hx'
    rw [(hq i (List.mem_range.1 hi)).2.2] at hx'
    simp at hx'
end
end Go.Proofs.YteafnkimcidkhaaGreat



namespace Go.Proofs.YteafnkimcidkhaaGreat
open Go.RowKit Go.Shelf
set_option linter.unusedVariables false
set_option linter.unusedSimpArgs false
set_option maxRecDepth 100000 in
theorem two_52 : rndQ false 0 false (nn 0 1) (clamp (-52)) false = 4372995238176751616 := by decide +kernel
set_option maxRecDepth 100000 in
theorem two_1074 : rndQ false 0 false (nn 0 1) (clamp (-1074)) false = 1 := by decide +kernel
set_option maxRecDepth 100000 in
theorem two_23 : rndQ false 0 false (nn 0 1) (clamp (-23)) false = 4503599627370496000 := by decide +kernel
set_option maxRecDepth 100000 in
theorem two_149 : rndQ false 0 false (nn 0 1) (clamp (-149)) false = 3936146074321813504 := by decide +kernel
theorem pow_any (e x : Int) (h : rndQ false 0 false (nn 0 1) (clamp e) false = x) (e1 : -9223372036854775808 ≤ e) (e2 : e ≤ 9223372036854775807) (w : World) : Calls Tryz.prog 63 #[.int .i64 e] w fun e w' => e = .returned (.int .u64 x) ∧ Below w.heap.size w w' :=
 lipow e _ (fun V => by
  have := round_any 0 0 false 0 1 e false word_0 ⟨by decide, by decide⟩ e1 e2 V
  rw [show ((0 : Int) == 1) = false from rfl, h] at this
  exact this) w
theorem absw_li (s : Bool) (a : Int) (h : Word a) : Word (absF s a) := by
 unfold absF
 split
 ·exact nan_word s
 ·exact zOf_word s a h
def placeP (f : Int) : Int := if f = 1 then 4503599627370496000 else 4372995238176751616
def leastP (f : Int) : Int := if f = 1 then 3936146074321813504 else 1
def slkP (f : Int) (r : Bool × Int × Int) : Int := addF false 1 (mulF false 1 (greP (absF false r.2.1) (absF false r.2.2)) (placeP f)) (leastP f)
def bluP (A : Frm) (f : Int) (r : Bool × Int × Int) : Frm := if liR r = false then whF else if r.1 = true then addP A zrF else addP A (ofP' (false, negF false (slkP f r), slkP f r))
theorem least_word (f : Int) : Word (leastP f) := by unfold leastP; split <;> exact ⟨by decide, by decide⟩
theorem slk_word (f : Int) (r : Bool × Int × Int) (hr : wdR r) : Word (slkP f r) := addF_word _ _ _ _ (mulF_word _ _ _ _) (least_word f)
theorem slack_any (f : Int) (r : Bool × Int × Int) (hr : wdR r) (w : World) : Calls Tryz.prog 78 #[.int .i64 f, .agg #[.bool r.1, .int .u64 r.2.1, .int .u64 r.2.2]] w fun e w' => e = .returned (.int .u64 (slkP f r)) ∧ Below w.heap.size w w' := by
 by_cases hf : f = 1
 ·have hp : placeP f = 4503599627370496000 := if_pos hf
  have hl : leastP f = 3936146074321813504 := if_pos hf
  have := lislacks f hf r.1 r.2.1 r.2.2 _ _ _ _ _ _ _ _ _ (pow_any (-52) _ two_52 (by decide) (by decide)) (pow_any (-1074) _ two_1074 (by decide) (by decide)) (pow_any (-23) _ two_23 (by decide) (by decide)) (pow_any (-149) _ two_149 (by decide) (by decide))
   (fun V => abs_fl 0 r.2.1 hr.1 V) (fun V => abs_fl 0 r.2.2 hr.2 V) (fun V => greater_any _ _ (absw_li _ _ hr.1) (absw_li _ _ hr.2) V) (fun V => mul_fl 0 1 _ _ (greP_word (absw_li _ _ hr.1) (absw_li _ _ hr.2)) ⟨by decide, by decide⟩ V) (fun V => add_fl 0 1 _ _ (mulF_word _ _ _ _) ⟨by decide, by decide⟩ V) w
  rw [slkP, hp, hl]
  exact this
 ·have hp : placeP f = 4372995238176751616 := if_neg hf
  have hl : leastP f = 1 := if_neg hf
  have := lislackd f hf r.1 r.2.1 r.2.2 _ _ _ _ _ _ _ (pow_any (-52) _ two_52 (by decide) (by decide)) (pow_any (-1074) _ two_1074 (by decide) (by decide))
   (fun V => abs_fl 0 r.2.1 hr.1 V) (fun V => abs_fl 0 r.2.2 hr.2 V) (fun V => greater_any _ _ (absw_li _ _ hr.1) (absw_li _ _ hr.2) V) (fun V => mul_fl 0 1 _ _ (greP_word (absw_li _ _ hr.1) (absw_li _ _ hr.2)) ⟨by decide, by decide⟩ V) (fun V => add_fl 0 1 _ _ (mulF_word _ _ _ _) ⟨by decide, by decide⟩ V) w
  rw [slkP, hp, hl]
  exact this
theorem form_blur (A : Frm) (hA : fOk A) (f : Int) (r : Bool × Int × Int) (hr : wdR r) (va : Value) (w : World) (ta : TAt w va A.2.2) :
  Calls Tryz.prog 39 #[.agg #[.bool A.1, .bool A.2.1.1, .int .u64 A.2.1.2.1, .int .u64 A.2.1.2.2, va], .int .i64 f, .agg #[.bool r.1, .int .u64 r.2.1, .int .u64 r.2.2]] w fun e w' => Told (bluP A f r) w.heap.size e w' ∧ Below w.heap.size w w' := by
 have hh := isrange_any r hr
 cases hR : liR r
 ·rw [hR] at hh
  refine (liblur_no A.1 A.2.1.1 A.2.1.2.1 A.2.1.2.2 va ta.sl f r.1 r.2.1 r.2.2 hh liwhole w).mono fun e w' q => ⟨?_, q.2⟩
  rw [bluP, if_pos hR, q.1]
  exact whole_told _ _
 ·rw [hR] at hh
  cases he : r.1
  ·have hb : bluP A f r = addP A (ofP' (false, negF false (slkP f r), slkP f r)) := by rw [bluP, if_neg (by rw [hR]; simp), if_neg (by rw [he]; simp)]
   have wo : wdR (false, negF false (slkP f r), slkP f r) := ⟨negF_word _ _ (slk_word f r hr), slk_word f r hr⟩
   have hs := slack_any f r hr
   rw [he] at hh hs
   rw [hb]
   exact (liblur_ok A.1 A.2.1.1 A.2.1.2.1 A.2.1.2.2 va ta.sl f false r.2.1 r.2.2 rfl _ _ _ _ _ _ (fun V => TAt V va A.2.2) (fun W V a b => a.on b) (TQ (addP A (ofP' (false, negF false (slkP f r), slkP f r)))) (fun _ _ _ _ ls => ls = (addP A (ofP' (false, negF false (slkP f r), slkP f r))).2.2) hh hs (fun V => neg_fl 0 _ (slk_word f r hr) V) (fun V => form_of (false, negF false (slkP f r), slkP f r) wo V)
    (fun V hV => (form_add A _ hA (ofP_ok' wo) va (.slice none 0 0) V hV (Or.inl ⟨rfl, by unfold ofP'; split <;> rfl⟩)).mono fun e w' q => ⟨q.1.to, q.2⟩) w ta).mono fun e w' q => ⟨.of q.1, q.2⟩
  ·have hb : bluP A f r = addP A zrF := by rw [bluP, if_neg (by rw [hR]; simp), if_pos he]
   rw [he] at hh
   rw [hb]
   exact (liblur_em A.1 A.2.1.1 A.2.1.2.1 A.2.1.2.2 va ta.sl f true r.2.1 r.2.2 rfl (fun V => TAt V va A.2.2) (fun W V a b => a.on b) (TQ (addP A zrF)) (fun _ _ _ _ ls => ls = (addP A zrF).2.2) hh
    (fun V hV => (form_add A zrF hA zrF_ok va (.slice none 0 0) V hV (Or.inl ⟨rfl, rfl⟩)).mono fun e w' q => ⟨q.1.to, q.2⟩) w ta).mono fun e w' q => ⟨.of q.1, q.2⟩
end Go.Proofs.YteafnkimcidkhaaGreat



namespace Go.Proofs.YteafnkimcidkhaaGreat
open Go.RowKit
set_option linter.unusedVariables false
set_option linter.unusedSimpArgs false
def Far (b : Nat) (v : Value) : Prop := ∀ bb o k c, v = .slice (some ⟨bb, o, none⟩) k c → k ≠ 0 → bb ≠ b
end Go.Proofs.YteafnkimcidkhaaGreat


