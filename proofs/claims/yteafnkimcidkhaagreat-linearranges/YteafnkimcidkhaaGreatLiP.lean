/- Forms and rows of ranges that come in, opened. -/
import Derived.Test.YteafnkimcidkhaaGreatSpAid
import Derived.Test.YteafnkimcidkhaaGreatLiC
import Derived.Test.YteafnkimcidkhaaGreatMB1
import Derived.Deep.Slices
import Derived.Carry
namespace Go.Proofs.YteafnkimcidkhaaGreat
open Go.ChangeShapes Go.WideShapes Go.ChangeAt Go.RowKit Go.Joins Go.Deep
set_option linter.unusedVariables false
set_option linter.unusedSimpArgs false
set_option maxRecDepth 100000 in
theorem lsc1 : Tryz.prog.cellsOf 31 = 5 := by kernel_rfl
set_option maxRecDepth 100000 in
theorem lsc2 : Tryz.prog.cellsOf 99 = 4 := by kernel_rfl
set_option maxRecDepth 100000 in
theorem lsc3 : Tryz.prog.cellsOf 29 = 1 := by kernel_rfl
set_option maxRecDepth 100000 in
theorem lsc4 : Tryz.prog.cellsOf 3 = 1 := by kernel_rfl
set_option maxRecDepth 100000 in
theorem lct : Tryz.prog.cellTypes Tryz.prog.depth 31 = some [4, 4, 22, 22, 29] := by kernel_rfl
theorem li_word {x : Int} (h : (Lit.int .u64 x).wf = true) : Word x := by
  simp [Lit.wf, IntKind.min, IntKind.max, IntKind.signed, IntKind.bits] at h
  exact ⟨by omega, by omega⟩
theorem li_int {x : Int} (h : (Lit.int .i64 x).wf = true) : -9223372036854775808 ≤ x ∧ x ≤ 9223372036854775807 := by
  simp [Lit.wf, IntKind.min, IntKind.max, IntKind.signed, IntKind.bits] at h
  exact ⟨by omega, by omega⟩
theorem sp_array5 {α : Type} {cs : Array α} (h : cs.size = 5) : ∃ c0 c1 c2 c3 c4, cs = #[c0, c1, c2, c3, c4] := by
  obtain ⟨l⟩ := cs
  match l, h with
  | [c0, c1, c2, c3, c4], _ => exact ⟨c0, c1, c2, c3, c4, rfl⟩
/-- Ranges lie in memory, in a row. -/
def RAt (W : World) (v : Value) (rs : List (Bool × Int × Int)) : Prop := (v = .slice none 0 0 ∧ rs = []) ∨ ∃ (b o cap : Nat), v = .slice (some ⟨b, o, none⟩) rs.length cap ∧ rs.length ≤ cap ∧ ∀ (j : Nat) r, rs[j]? = some r → W.cell? ⟨b, o + j * 3, none⟩ = some (.bool r.1) ∧ W.cell? ⟨b, o + j * 3 + 1, none⟩ = some (.int .u64 r.2.1) ∧ W.cell? ⟨b, o + j * 3 + 2, none⟩ = some (.int .u64 r.2.2)
theorem RAt.on {W V : World} {v : Value} {rs : List (Bool × Int × Int)} (h : RAt W v rs) (g : Below W.heap.size W V) : RAt V v rs := by
  rcases h with h | ⟨b, o, cap, rfl, hc, h⟩
  · exact Or.inl h
  · exact Or.inr ⟨b, o, cap, rfl, hc, fun j t hj => by
      obtain ⟨h0, h1, h2⟩ := h j t hj
      exact ⟨sp_cell_on g h0, sp_cell_on g h1, sp_cell_on g h2⟩⟩
theorem RAt.len {W : World} {v : Value} {rs : List (Bool × Int × Int)} (h : RAt W v rs) : ∃ (p : Option Addr) (cap : Nat), v = .slice p rs.length cap := by
  rcases h with ⟨rfl, rfl⟩ | ⟨b, o, cap, rfl, hc, h⟩
  · exact ⟨none, 0, rfl⟩
  · exact ⟨_, cap, rfl⟩
section
variable {H : Type} {enc : TypeId × Value → H} {W : World}
set_option maxRecDepth 100000 in
theorem tr_fr {base : Nat} {sp : Nat → Bool} {hd : Bool} {n : Nat} {cs : List Value} {y : DataW H × List MemPlace} (hl : cs.length = 3) (h : DataW.trod enc Tryz.prog W base sp hd n 24 cs = some y) : ∃ (e : Bool) (a b : Int), cs = [.bool e, .int .u64 a, .int .u64 b] ∧ y.2 = [] ∧ Word a ∧ Word b := by
  match cs, hl with
  | [c0, c1, c2], _ =>
    obtain ⟨y0, y1, y2, n0, hx, _, h0, h1, h2⟩ := trod_struct3 Tryz.underlying24 h
    simp only [sc4, sc22] at h0 h1 h2
    obtain ⟨b1, rfl, rfl⟩ := sp_bool h0
    obtain ⟨x2, ex2, rfl, wx2⟩ := DataW.trod_int Tryz.underlying22 h1
    simp at ex2
    subst ex2
    obtain ⟨x3, ex3, rfl, wx3⟩ := DataW.trod_int Tryz.underlying22 h2
    simp at ex3
    subst ex3
    refine ⟨b1, x2, x3, rfl, ?_, li_word wx2, li_word wx3⟩
    rw [hx]
    rfl
/-- A term that is read. -/
def tmW (t : Int × Bool × Int × Int) : Prop := -9223372036854775808 ≤ t.1 ∧ t.1 ≤ 9223372036854775807 ∧ Word t.2.2.1 ∧ Word t.2.2.2
set_option maxRecDepth 100000 in
theorem tr_term {base : Nat} {sp : Nat → Bool} {hd : Bool} {n : Nat} {cs : List Value} {y : DataW H × List MemPlace} (hl : cs.length = 4) (h : DataW.trod enc Tryz.prog W base sp hd n 99 cs = some y) : ∃ t : Int × Bool × Int × Int, cs = [.int .i64 t.1, .bool t.2.1, .int .u64 t.2.2.1, .int .u64 t.2.2.2] ∧ y.2 = [] ∧ tmW t := by
  match cs, hl with
  | [c0, c1, c2, c3], _ =>
    obtain ⟨y0, y1, n0, hx, _, h0, h1⟩ := trod_struct2 Tryz.underlying99 h
    simp only [lsc4, sc24] at h0 h1
    obtain ⟨x2, ex2, rfl, wx2⟩ := DataW.trod_int Tryz.underlying3 h0
    simp at ex2
    subst ex2
    obtain ⟨e, a, b, ec, hy, wa, wb⟩ := tr_fr (by simp) h1
    simp at ec
    obtain ⟨rfl, rfl, rfl⟩ := ec
    refine ⟨(x2, e, a, b), rfl, ?_, (li_int wx2).1, (li_int wx2).2, wa, wb⟩
    rw [hx]
    simp [hy]
set_option maxRecDepth 100000 in
theorem tr_terms {n : Nat} {v : Value} {y : DataW H × List MemPlace} (hs : ∀ a l c, v = .slice (some a) l c → a.spot = none) (h : DataW.trod enc Tryz.prog W 0 (fun _ => true) true n 29 [v] = some y) : ∃ ls, TAt W v ls ∧ (∀ t ∈ ls, tmW t) ∧ ∀ x ∈ y.2, x.block < W.heap.size := by
  rcases open_slice Tryz.underlying29 h with ⟨hc, hx⟩ | ⟨a, len, cap, m, k, D, Pl, hc, _, hl, hm, hmm, hx, he⟩
  · simp at hc
    refine ⟨[], Or.inl ⟨hc, rfl⟩, by simp, ?_⟩
    rw [hx]
    simp
  · simp only [List.cons.injEq, and_true] at hc
    subst hc
    have spn := hs a len cap rfl
    obtain ⟨bk, off, spot⟩ := a
    simp only at spn
    subst spn
    rw [if_pos rfl] at hmm
    subst hmm
    rw [lsc2] at he
    have each : ∀ i, i < m → ∃ t : Int × Bool × Int × Int, (W.cell? ⟨bk, off + i * 4, none⟩ = some (.int .i64 t.1) ∧ W.cell? ⟨bk, off + i * 4 + 1, none⟩ = some (.bool t.2.1) ∧ W.cell? ⟨bk, off + i * 4 + 2, none⟩ = some (.int .u64 t.2.2.1) ∧ W.cell? ⟨bk, off + i * 4 + 3, none⟩ = some (.int .u64 t.2.2.2)) ∧ tmW t ∧ Pl i = [] := by
      intro i hi
      obtain ⟨cs', h1, h2⟩ := he i hi
      obtain ⟨_, hlen, hcell⟩ := World.cells?_some h1
      obtain ⟨t, rfl, hp, ht⟩ := tr_term hlen h2
      have e0 := hcell 0 (by omega)
      have e1 := hcell 1 (by omega)
      have e2 := hcell 2 (by omega)
      have e3 := hcell 3 (by omega)
      rw [Go.Deep.add_add, Go.WideShapes.add_plain] at e0 e1 e2 e3
      exact ⟨t, ⟨by simpa using e0, by simpa [Nat.add_assoc] using e1, by simpa [Nat.add_assoc] using e2, by simpa [Nat.add_assoc] using e3⟩, ht, hp⟩
    obtain ⟨q, hq⟩ := choose_lt (α := Int × Bool × Int × Int) each
    refine ⟨(List.range len).map q, Or.inr ⟨bk, off, m, by simp, by simpa using hl, fun j t hj => ?_⟩, fun t ht => ?_, ?_⟩
    · simp only [List.getElem?_map] at hj
      by_cases hjl : j < len
      · rw [List.getElem?_range hjl] at hj
        simp at hj
        subst hj
        exact (hq j (by omega)).1
      · rw [List.getElem?_eq_none (by simpa using hjl)] at hj
        simp at hj
    · obtain ⟨i, hi, rfl⟩ := List.mem_map.1 ht
      exact (hq i (by have := List.mem_range.1 hi; omega)).2.1
    · rw [hx]
      intro x hx'
      simp only [List.mem_append] at hx'
      rcases hx' with hx' | hx'
      · obtain ⟨i, hi, rfl⟩ := MemPlace.mem_row.1 hx'
        rw [lsc2] at hi
        have hm0 : 0 < m := by omega
        have := World.block_lt_of_cell? W _ (hq 0 hm0).1.1
        exact this
      · obtain ⟨i, hi, hx'⟩ := List.mem_flatMap.1 hx'
        rw [(hq i (List.mem_range.1 hi)).2.2] at hx'
        simp at hx'
set_option maxRecDepth 100000 in
/-- A form that comes in. -/
theorem open_form {base : Nat} {v : Value} {d : DataW H} {p : List MemPlace} (hv : Value.okWide Tryz.prog W .any base 31 v) (h : DataW.Trod enc Tryz.prog W 0 (fun _ => true) true 31 v d p) :
    ∃ (wh e : Bool) (a b : Int) (s : Value) (ls : List (Int × Bool × Int × Int)), v = .agg #[.bool wh, .bool e, .int .u64 a, .int .u64 b, s] ∧ Word a ∧ Word b ∧ TAt W s ls ∧ (∀ t ∈ ls, tmW t) ∧ ∀ x ∈ p, x.block < W.heap.size := by
  have hv0 := hv
  simp only [Value.okWide, Tryz.underlying31] at hv0
  obtain ⟨cs, rfl, hsz, ts, hts, _, hrow⟩ := hv0
  rw [lct] at hts
  cases hts
  obtain ⟨c0, c1, c2, c3, c4, rfl⟩ := sp_array5 (hsz.trans lsc1)
  obtain ⟨fuel, hf⟩ := h
  obtain ⟨y0, y1, y2, n0, hx, _, h0, h1, h2⟩ := trod_struct3 Tryz.underlying31 hf
  simp only [Value.cells, sc4, sc24, lsc3] at h0 h1 h2
  obtain ⟨wh, rfl, rfl⟩ := sp_bool h0
  obtain ⟨e, a, b, ec, hy, wa, wb⟩ := tr_fr (by simp) h1
  simp at ec
  obtain ⟨rfl, rfl, rfl⟩ := ec
  have hs : ∀ a l c, c4 = .slice (some a) l c → a.spot = none := by
    intro a l c e4
    obtain ⟨u, hu, ho⟩ := hrow 4 c4 (by simp)
    simp at hu
    subst hu
    subst e4
    simp [Cell.okWide, Cell.ok, World.has, Tryz.underlying29] at ho
    exact ho.2.2.2.1
  obtain ⟨ls, hT, hw, hp⟩ := tr_terms hs (by simpa using h2)
  simp only [Prod.mk.injEq] at hx
  refine ⟨wh, e, a, b, c4, ls, rfl, wa, wb, hT, hw, fun x hxx => ?_⟩
  rw [hx.2, hy] at hxx
  simp at hxx
  exact hp x hxx
set_option maxRecDepth 100000 in
/-- A row of ranges that comes in. -/
theorem open_slfr {base : Nat} {v : Value} {d : DataW H} {p : List MemPlace} (hv : Value.okWide Tryz.prog W .any base 51 v) (h : DataW.Trod enc Tryz.prog W 0 (fun _ => true) true 51 v d p) : ∃ rs, RAt W v rs ∧ (∀ r ∈ rs, Word r.2.1 ∧ Word r.2.2) ∧ rs.length ≤ 9223372036854775807 ∧ ∀ x ∈ p, x.block < W.heap.size := by
  have key : ∀ u, v.cells.toList = [u] → v = u := by
    intro u hu
    cases v <;> first | (simp [Value.cells] at hu; exact hu) | (exfalso; simp [Value.okWide, Cell.okWide, Cell.ok, Tryz.underlying51] at hv)
  obtain ⟨fuel, h⟩ := h
  rcases open_slice Tryz.underlying51 h with ⟨hc, hx⟩ | ⟨a, len, cap, m, k, D, Pl, hc, _, hl, hm, hmm, hx, he⟩
  · refine ⟨[], Or.inl ⟨key _ hc, rfl⟩, by simp, by simp, ?_⟩
    simp only [Prod.mk.injEq] at hx
    rw [hx.2]
    simp
  · have hv2 := key _ hc
    subst hv2
    have spn : a.spot = none := by
      simp [Value.okWide, Cell.okWide, Cell.ok, World.has, Tryz.underlying51] at hv
      exact hv.2.2.2.1
    obtain ⟨bk, off, spot⟩ := a
    simp only at spn
    subst spn
    rw [if_pos rfl] at hmm
    subst hmm
    rw [sc24] at he
    have each : ∀ i, i < m → ∃ t : Bool × Int × Int, (W.cell? ⟨bk, off + i * 3, none⟩ = some (.bool t.1) ∧ W.cell? ⟨bk, off + i * 3 + 1, none⟩ = some (.int .u64 t.2.1) ∧ W.cell? ⟨bk, off + i * 3 + 2, none⟩ = some (.int .u64 t.2.2)) ∧ (Word t.2.1 ∧ Word t.2.2) ∧ Pl i = [] := by
      intro i hi
      obtain ⟨cs', h1, h2⟩ := he i hi
      obtain ⟨_, hlen, hcell⟩ := World.cells?_some h1
      obtain ⟨e, a, b, rfl, hp, wa, wb⟩ := tr_fr hlen h2
      have e0 := hcell 0 (by omega)
      have e1 := hcell 1 (by omega)
      have e2 := hcell 2 (by omega)
      rw [Go.Deep.add_add, Go.WideShapes.add_plain] at e0 e1 e2
      exact ⟨(e, a, b), ⟨by simpa using e0, by simpa [Nat.add_assoc] using e1, by simpa [Nat.add_assoc] using e2⟩, ⟨wa, wb⟩, hp⟩
    obtain ⟨q, hq⟩ := choose_lt (α := Bool × Int × Int) each
    refine ⟨(List.range len).map q, Or.inr ⟨bk, off, m, by simp, by simpa using hl, fun j t hj => ?_⟩, fun t ht => ?_, by simp; unfold maxLen at hm; omega, ?_⟩
    · simp only [List.getElem?_map] at hj
      by_cases hjl : j < len
      · rw [List.getElem?_range hjl] at hj
        simp at hj
        subst hj
        exact (hq j (by omega)).1
      · rw [List.getElem?_eq_none (by simpa using hjl)] at hj
        simp at hj
    · obtain ⟨i, hi, rfl⟩ := List.mem_map.1 ht
      exact (hq i (by have := List.mem_range.1 hi; omega)).2.1
    · simp only [Prod.mk.injEq] at hx
      rw [hx.2]
      intro x hx'
      simp only [List.mem_append] at hx'
      rcases hx' with hx' | hx'
      · obtain ⟨i, hi, rfl⟩ := MemPlace.mem_row.1 hx'
        rw [sc24] at hi
        have hm0 : 0 < m := by omega
        exact World.block_lt_of_cell? W _ (hq 0 hm0).1.1
      · obtain ⟨i, hi, hx'⟩ := List.mem_flatMap.1 hx'
        rw [(hq i (List.mem_range.1 hi)).2.2] at hx'
        simp at hx'
end
end Go.Proofs.YteafnkimcidkhaaGreat

