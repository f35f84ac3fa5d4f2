/- A program that comes in: its trees, out of what the row says of it. -/
import Derived.Test.YtknoibocpbfmmaaGreatDoorWG27
import Derived.ChangeOld
namespace Go.Proofs.YtknoibocpbfmmaaGreatDoor
open Go.RowKit Go.ChangeShapes Go.WideShapes Go.ChangeAt
set_option linter.unusedVariables false
set_option linter.unusedSimpArgs false
def foL : List Ex → Fo
 | [] => .nil
 | e :: l => e.row (foL l)
theorem foL_len : ∀ l : List Ex, (foL l).len = l.length
 | [] => rfl
 | e :: l => by show (foL l).len + 1 = l.length + 1; rw [foL_len l]
theorem foL_szs : ∀ l : List Ex, (∀ e ∈ l, e.szs) → (foL l).szs
 | [], _ => trivial
 | e :: l, h => ⟨(h e (by simp)).1, (h e (by simp)).2, foL_szs l (fun x hx => h x (by simp [hx]))⟩
def soL' : List St → So
 | [] => .nil
 | s :: l => s.row (soL' l)
theorem soL'_len : ∀ l : List St, (soL' l).len = l.length
 | [] => rfl
 | e :: l => by show (soL' l).len + 1 = l.length + 1; rw [soL'_len l]
theorem soL'_szs : ∀ l : List St, (∀ s ∈ l, s.szs) → (soL' l).szs
 | [], _ => trivial
 | s :: l, h => by
  obtain ⟨a, b, c, d, e, f, g⟩ := h s (by simp)
  exact ⟨a, b, c, d, e, f, g, soL'_szs l (fun x hx => h x (by simp [hx]))⟩
abbrev AllB : Nat → Prop := fun _ => True
theorem fo_build {W : World} {c : Nat} : ∀ (l : List Ex) (u : Nat), (∀ (j : Nat) e, l[j]? = some e → ExC W AllB c (u + j * 4) e) → FoAt W AllB (foL l) c u
 | [], u, h => trivial
 | e :: l, u, h => FoAt.row trivial (by have := h 0 e rfl; rwa [Nat.zero_mul, Nat.add_zero] at this) (fo_build l (u + 4) fun j e hj => by
  have := h (j + 1) e (by simpa using hj)
  rwa [show u + (j + 1) * 4 = u + 4 + j * 4 by omega] at this)
/-- A statement in 17 cells. -/
def StM (W : World) (c o : Nat) (s : St) : Prop := W.cell? ⟨c, o, none⟩ = some (.int .i64 s.dO) ∧ W.cell? ⟨c, o + 1, none⟩ = some (.string s.name) ∧ (∃ v, W.cell? ⟨c, o + 2, none⟩ = some v ∧ SlF W AllB v s.index) ∧
 ExC W AllB c (o + 3) s.value ∧ ExC W AllB c (o + 7) s.low ∧ ExC W AllB c (o + 11) s.high ∧ (∃ v, W.cell? ⟨c, o + 15, none⟩ = some v ∧ SlS W AllB v s.thn) ∧ (∃ v, W.cell? ⟨c, o + 16, none⟩ = some v ∧ SlS W AllB v s.els)
theorem so_build {W : World} {c : Nat} : ∀ (l : List St) (u : Nat), (∀ (j : Nat) s, l[j]? = some s → StM W c (u + j * 17) s) → SoAt W AllB (soL' l) c u
 | [], u, h => trivial
 | s :: l, u, h => by
  have h0 := h 0 s rfl
  rw [Nat.zero_mul, Nat.add_zero] at h0
  obtain ⟨a, b, d, e, f, g, ⟨v, hv, p, q, rfl, k⟩, ⟨v', hv', p', q', rfl, k'⟩⟩ := h0
  exact ⟨trivial, a, b, d, e, f, g, ⟨p, q, hv, k⟩, ⟨p', q', hv', k'⟩, so_build l (u + 17) fun j s hj => by
   have := h (j + 1) s (by simpa using hj)
   rwa [show u + (j + 1) * 17 = u + 17 + j * 17 by omega] at this⟩
theorem ex_fs : (match Tryz.prog.underlying 85 with | some (.struct fs) => some (fs.map (fun f => (f.type, f.offset))) | _ => none) = some #[(83, 0), (9, 1), (51, 2), (82, 3)] := by kernel_rfl
theorem st_fs : (match Tryz.prog.underlying 87 with | some (.struct fs) => some (fs.map (fun f => (f.type, f.offset))) | _ => none) = some #[(81, 0), (9, 1), (82, 2), (85, 3), (85, 7), (85, 11), (23, 15), (23, 16)] := by kernel_rfl
theorem dc_fs : (match Tryz.prog.underlying 53 with | some (.struct fs) => some (fs.map (fun f => (f.type, f.offset))) | _ => none) = some #[(9, 0), (51, 1), (3, 2)] := by kernel_rfl
theorem pg_fs : (match Tryz.prog.underlying 25 with | some (.struct fs) => some (fs.map (fun f => (f.type, f.offset))) | _ => none) = some #[(22, 0), (23, 1)] := by kernel_rfl
theorem ty_cells : Tryz.prog.cellsOf 85 = 4 ∧ Tryz.prog.cellsOf 87 = 17 ∧ Tryz.prog.cellsOf 53 = 3 ∧ Tryz.prog.cellsOf 25 = 2 ∧ Tryz.prog.cellsOf 82 = 1 ∧ Tryz.prog.cellsOf 23 = 1 ∧ Tryz.prog.cellsOf 22 = 1 ∧ Tryz.prog.cellsOf 51 = 1 ∧ Tryz.prog.cellsOf 81 = 1 :=
 ⟨by kernel_rfl, by kernel_rfl, by kernel_rfl, by kernel_rfl, by kernel_rfl, by kernel_rfl, by kernel_rfl, by kernel_rfl, by kernel_rfl⟩
theorem ty_ints : Tryz.prog.underlying 51 = some (.int .i64) ∧ Tryz.prog.underlying 81 = some (.int .i64) := ⟨by kernel_rfl, by kernel_rfl⟩
theorem ty_sls : Tryz.prog.underlying 82 = some (.slice 85) ∧ Tryz.prog.underlying 23 = some (.slice 87) ∧ Tryz.prog.underlying 22 = some (.slice 53) := ⟨by kernel_rfl, by kernel_rfl, by kernel_rfl⟩
theorem pick_b {α : Type} {m : Nat} {P : Nat → α → Prop} (h : ∀ i, i < m → ∃ t, P i t) : ∃ l : List α, l.length = m ∧ ∀ i t, l[i]? = some t → P i t := by
 induction m with
 | zero => exact ⟨[], rfl, fun i t h => by cases i <;> cases h⟩
 | succ m ih =>
  obtain ⟨l, hl, h1⟩ := ih fun i hi => h i (by omega)
  obtain ⟨t, ht⟩ := h m (by omega)
  refine ⟨l ++ [t], by simp [hl], fun i x hx => ?_⟩
  by_cases hi : i < m
  ·rw [List.getElem?_append_left (by omega)] at hx; exact h1 i x hx
  ·rw [List.getElem?_append_right (by omega)] at hx
   have hi2 : i = m := by
    have := (List.getElem?_eq_some_iff.1 hx).1
    simp at this; omega
   subst hi2
   rw [hl, Nat.sub_self] at hx
   cases hx
   exact ht
section
variable {H : Type} {enc : TypeId × Value → H} {w : World} {base : Nat} {sp : Nat → Bool} {held : Bool}
theorem td_fields {t : TypeId} {fuel : Nat} {cs : List Value} {y : DataW H × List MemPlace} {l : Array (Nat × Nat)} (hf : (match Tryz.prog.underlying t with | some (.struct fs) => some (fs.map (fun f => (f.type, f.offset))) | _ => none) = some l) (h : DataW.trod enc Tryz.prog w base sp held fuel t cs = some y) :
  cs.length = Tryz.prog.cellsOf t ∧ ∃ n, fuel = n + 1 ∧ ∀ (i t' o : Nat), l[i]? = some (t', o) → ∃ z, DataW.trod enc Tryz.prog w base sp held n t' ((cs.drop o).take (Tryz.prog.cellsOf t')) = some z := by
 split at hf
 ·rename_i fs e
  obtain ⟨xs, n, rfl, _, hl, hx, he⟩ := DataW.trod_struct e h
  refine ⟨hl, n, rfl, fun i t' o hi => ?_⟩
  obtain ⟨f, h1, rfl, rfl⟩ := op_fi (Option.some.inj hf) i t' o hi
  have h2 := he i f h1
  have hi2 : i < xs.length := by rw [hx]; exact (Array.getElem?_eq_some_iff.1 h1).1
  rw [List.getElem?_eq_getElem hi2] at h2
  exact ⟨_, h2⟩
 ·cases hf
/-- The elements of a slice that comes in. -/
theorem td_slice {t e : TypeId} {fuel : Nat} {v : Value} {y : DataW H × List MemPlace} (ht : Tryz.prog.underlying t = some (.slice e)) (hc : 0 < Tryz.prog.cellsOf e) (h : DataW.trod enc Tryz.prog w base sp held fuel t [v] = some y) :
  v = .slice none 0 0 ∨ ∃ (a : Addr) (len cap n : Nat), v = .slice (some a) len cap ∧ fuel = n + 1 ∧ (0 < len → a.spot = none) ∧
   ∀ i, i < len → ∃ cs z, cs.length = Tryz.prog.cellsOf e ∧ DataW.trod enc Tryz.prog w base sp held n e cs = some z ∧ ∀ k, k < cs.length → w.cell? ⟨a.block, a.off + i * Tryz.prog.cellsOf e + k, none⟩ = cs[k]? := by
 rcases DataW.trod_slice ht h with ⟨hc, _⟩ | ⟨a, len, cap, elems, rest, n, hn, hc, _, _, _, _, hlen, hel, _⟩
 ·simp at hc; exact Or.inl hc
 ·simp at hc
  have hsp : 0 < len → a.spot = none := by
   intro h0
   have h1 := hel 0 h0
   rw [List.getElem?_eq_getElem (by omega)] at h1
   simp only [Option.bind_eq_some_iff] at h1
   obtain ⟨cs, h1, _⟩ := h1
   obtain ⟨_, hl, hcl⟩ := World.cells?_some h1
   have h2 := hcl 0 (by omega)
   rw [List.getElem?_eq_getElem (by omega)] at h2
   have := World.cell?_spot h2
   simpa [Addr.add] using this
  refine Or.inr ⟨a, len, cap, n, hc, hn, hsp, ?_⟩
  intro i hi
  have h1 := hel i hi
  rw [List.getElem?_eq_getElem (by omega)] at h1
  simp only [Option.bind_eq_some_iff] at h1
  obtain ⟨cs, h1, h2⟩ := h1
  obtain ⟨_, hl, hcl⟩ := World.cells?_some h1
  refine ⟨cs, _, hl, h2, fun k hk => ?_⟩
  have h3 := hcl k (by omega)
  have h4 := hsp (by omega)
  obtain ⟨bk, off, spt⟩ := a
  simp only at h4
  subst h4
  rw [Go.WideShapes.add_plain, Go.WideShapes.add_plain] at h3
  exact h3
set_option maxRecDepth 100000 in
theorem tr_expr : ∀ n : Nat, (∀ (cs : List Value) y, DataW.trod enc Tryz.prog w base sp held n 85 cs = some y → ∃ (e : Ex) (s : Value), cs = [.int .i64 e.op, .string e.tx, .int .i64 e.ty, s] ∧ SlF w AllB s e.ks ∧ e.szs) ∧
  (∀ (v : Value) y, DataW.trod enc Tryz.prog w base sp held n 82 [v] = some y → ∃ f : Fo, SlF w AllB v f ∧ f.szs) := by
 intro n
 induction n using Nat.strongRecOn with
 | ind n ih =>
  refine ⟨fun cs y h => ?_, fun v y h => ?_⟩
  ·obtain ⟨hl, m, rfl, hf⟩ := td_fields ex_fs h
   rw [ty_cells.1] at hl
   match cs, hl with
   | [c0, c1, c2, c3], _ =>
    obtain ⟨z0, a0⟩ := hf 0 _ _ rfl
    obtain ⟨z1, a1⟩ := hf 1 _ _ rfl
    obtain ⟨z2, a2⟩ := hf 2 _ _ rfl
    obtain ⟨z3, a3⟩ := hf 3 _ _ rfl
    rw [op_i1.2] at a0
    rw [op_s.2] at a1
    rw [ty_cells.2.2.2.2.2.2.2.1] at a2
    rw [ty_cells.2.2.2.2.1] at a3
    obtain ⟨n0, e0, _, _⟩ := DataW.trod_int op_i1.1 a0
    obtain ⟨n1, e1, _, k1⟩ := DataW.trod_string op_s.1 a1
    obtain ⟨n2, e2, _, _⟩ := DataW.trod_int ty_ints.1 a2
    have u0 : c0 = .int .i64 n0 := by simpa using e0
    have u1 : c1 = .string n1 := by simpa using e1
    have u2 : c2 = .int .i64 n2 := by simpa using e2
    subst u0 u1 u2
    obtain ⟨f, hF, hz⟩ := (ih m (by omega)).2 c3 z3 (by simpa using a3)
    exact ⟨⟨n0, n1, n2, f⟩, c3, rfl, hF, k1, hz⟩
  ·rcases td_slice ty_sls.1 (by rw [ty_cells.1]; decide) h with rfl | ⟨a, len, cap, m, rfl, rfl, hsp, hel⟩
   ·exact ⟨.nil, SlF.nil w AllB, trivial⟩
   ·by_cases h0 : len = 0
    ·subst h0
     exact ⟨.nil, ⟨some a, cap, rfl, Or.inl rfl⟩, trivial⟩
    ·obtain ⟨bk, off, spt⟩ := a
     obtain rfl : spt = none := hsp (by omega)
     rw [ty_cells.1] at hel
     obtain ⟨l, hll, hl⟩ := pick_b (P := fun i (e : Ex) => ExC w AllB bk (off + i * 4) e ∧ e.szs) (m := len) (fun i hi => by
      obtain ⟨cs, z, hcl, hz, hk⟩ := hel i hi
      obtain ⟨e, s, rfl, hF, hs⟩ := (ih m (by omega)).1 cs z hz
      exact ⟨e, ⟨hk 0 (show (0 : Nat) < 4 by decide), hk 1 (show (1 : Nat) < 4 by decide), hk 2 (show (2 : Nat) < 4 by decide), s, hk 3 (show (3 : Nat) < 4 by decide), hF⟩, hs⟩)
     refine ⟨foL l, ⟨some ⟨bk, off, none⟩, cap, by rw [foL_len, hll], Or.inr ⟨bk, off, rfl, fo_build l off fun j e hj => (hl j e hj).1⟩⟩, foL_szs l fun e he => ?_⟩
     obtain ⟨j, hj⟩ := List.getElem?_of_mem he
     exact (hl j e hj).2
theorem tr_ex4 {n : Nat} {c0 c1 c2 c3 : Value} {y : DataW H × List MemPlace} (h : DataW.trod enc Tryz.prog w base sp held n 85 [c0, c1, c2, c3] = some y) : ∃ e : Ex, c0 = .int .i64 e.op ∧ c1 = .string e.tx ∧ c2 = .int .i64 e.ty ∧ SlF w AllB c3 e.ks ∧ e.szs := by
 obtain ⟨e, s, hc, hF, hz⟩ := (tr_expr n).1 _ _ h
 simp only [List.cons.injEq, and_true] at hc
 obtain ⟨a, b, c, rfl⟩ := hc
 exact ⟨e, a, b, c, hF, hz⟩
set_option maxRecDepth 100000 in
theorem tr_stmt : ∀ n : Nat, (∀ (cs : List Value) y, DataW.trod enc Tryz.prog w base sp held n 87 cs = some y → cs.length = 17 ∧ ∃ s : St, s.szs ∧ ∀ c o, (∀ k, k < cs.length → w.cell? ⟨c, o + k, none⟩ = cs[k]?) → StM w c o s) ∧
  (∀ (v : Value) y, DataW.trod enc Tryz.prog w base sp held n 23 [v] = some y → ∃ f : So, SlS w AllB v f ∧ f.szs) := by
 intro n
 induction n using Nat.strongRecOn with
 | ind n ih =>
  refine ⟨fun cs y h => ?_, fun v y h => ?_⟩
  ·obtain ⟨hl, m, rfl, hf⟩ := td_fields st_fs h
   rw [ty_cells.2.1] at hl
   match cs, hl with
   | [c0, c1, c2, c3, c4, c5, c6, c7, c8, c9, c10, c11, c12, c13, c14, c15, c16], _ =>
    obtain ⟨z0, a0⟩ := hf 0 _ _ rfl
    obtain ⟨z1, a1⟩ := hf 1 _ _ rfl
    obtain ⟨z2, a2⟩ := hf 2 _ _ rfl
    obtain ⟨z3, a3⟩ := hf 3 _ _ rfl
    obtain ⟨z4, a4⟩ := hf 4 _ _ rfl
    obtain ⟨z5, a5⟩ := hf 5 _ _ rfl
    obtain ⟨z6, a6⟩ := hf 6 _ _ rfl
    obtain ⟨z7, a7⟩ := hf 7 _ _ rfl
    rw [ty_cells.2.2.2.2.2.2.2.2] at a0
    rw [op_s.2] at a1
    rw [ty_cells.2.2.2.2.1] at a2
    rw [ty_cells.1] at a3 a4 a5
    rw [ty_cells.2.2.2.2.2.1] at a6 a7
    obtain ⟨n0, e0, _, _⟩ := DataW.trod_int ty_ints.2 a0
    obtain ⟨n1, e1, _, k1⟩ := DataW.trod_string op_s.1 a1
    have u0 : c0 = .int .i64 n0 := by simpa using e0
    have u1 : c1 = .string n1 := by simpa using e1
    subst u0 u1
    obtain ⟨ix, hF, hz⟩ := (tr_expr m).2 c2 z2 (by simpa using a2)
    obtain ⟨v, rfl, rfl, rfl, hv, vz⟩ := tr_ex4 (c0 := c3) (c1 := c4) (c2 := c5) (c3 := c6) a3
    obtain ⟨lo, rfl, rfl, rfl, hlo, lz⟩ := tr_ex4 (c0 := c7) (c1 := c8) (c2 := c9) (c3 := c10) a4
    obtain ⟨hi, rfl, rfl, rfl, hhi, hz'⟩ := tr_ex4 (c0 := c11) (c1 := c12) (c2 := c13) (c3 := c14) a5
    obtain ⟨t, hT, tz⟩ := (ih m (by omega)).2 c15 z6 (by simpa using a6)
    obtain ⟨e, hE, ez⟩ := (ih m (by omega)).2 c16 z7 (by simpa using a7)
    refine ⟨rfl, ⟨n0, n1, ix, v, lo, hi, t, e⟩, ⟨k1, hz, vz, lz, hz', tz, ez⟩, fun c o hk => ?_⟩
    exact ⟨hk 0 (show (0 : Nat) < 17 by decide), hk 1 (show (1 : Nat) < 17 by decide), ⟨_, hk 2 (show (2 : Nat) < 17 by decide), hF⟩, ⟨hk 3 (show (3 : Nat) < 17 by decide), hk 4 (show (4 : Nat) < 17 by decide), hk 5 (show (5 : Nat) < 17 by decide), _, hk 6 (show (6 : Nat) < 17 by decide), hv⟩, ⟨hk 7 (show (7 : Nat) < 17 by decide), hk 8 (show (8 : Nat) < 17 by decide), hk 9 (show (9 : Nat) < 17 by decide), _, hk 10 (show (10 : Nat) < 17 by decide), hlo⟩, ⟨hk 11 (show (11 : Nat) < 17 by decide), hk 12 (show (12 : Nat) < 17 by decide), hk 13 (show (13 : Nat) < 17 by decide), _, hk 14 (show (14 : Nat) < 17 by decide), hhi⟩, ⟨_, hk 15 (show (15 : Nat) < 17 by decide), hT⟩, ⟨_, hk 16 (show (16 : Nat) < 17 by decide), hE⟩⟩
  ·rcases td_slice ty_sls.2.1 (by rw [ty_cells.2.1]; decide) h with rfl | ⟨a, len, cap, m, rfl, rfl, hsp, hel⟩
   ·exact ⟨.nil, SlS.nil w AllB, trivial⟩
   ·by_cases h0 : len = 0
    ·subst h0
     exact ⟨.nil, ⟨some a, cap, rfl, Or.inl rfl⟩, trivial⟩
    ·obtain ⟨bk, off, spt⟩ := a
     obtain rfl : spt = none := hsp (by omega)
     rw [ty_cells.2.1] at hel
     obtain ⟨l, hll, hl⟩ := pick_b (P := fun i (s : St) => StM w bk (off + i * 17) s ∧ s.szs) (m := len) (fun i hi => by
      obtain ⟨cs, z, hcl, hz, hk⟩ := hel i hi
      obtain ⟨_, s, hs, hM⟩ := (ih m (by omega)).1 cs z hz
      exact ⟨s, hM _ _ hk, hs⟩)
     refine ⟨soL' l, ⟨some ⟨bk, off, none⟩, cap, by rw [soL'_len, hll], Or.inr ⟨bk, off, rfl, so_build l off fun j s hj => (hl j s hj).1⟩⟩, soL'_szs l fun s hs => ?_⟩
     obtain ⟨j, hj⟩ := List.getElem?_of_mem hs
     exact (hl j s hj).2
set_option maxRecDepth 100000 in
theorem tr_decls {n : Nat} {v : Value} {y : DataW H × List MemPlace} (h : DataW.trod enc Tryz.prog w base sp held n 22 [v] = some y) : ∃ ds : List Dc, SlDc w v ds ∧ ∀ d ∈ ds, d.1.size ≤ 9223372036854775807 := by
 rcases td_slice ty_sls.2.2 (by rw [ty_cells.2.2.1]; decide) h with rfl | ⟨a, len, cap, m, rfl, rfl, hsp, hel⟩
 ·exact ⟨[], ⟨none, 0, rfl, Or.inl rfl⟩, fun d h => by cases h⟩
 ·by_cases h0 : len = 0
  ·subst h0
   exact ⟨[], ⟨some a, cap, rfl, Or.inl rfl⟩, fun d h => by cases h⟩
  ·obtain ⟨bk, off, spt⟩ := a
   obtain rfl : spt = none := hsp (by omega)
   rw [ty_cells.2.2.1] at hel
   obtain ⟨l, hll, hl⟩ := pick_b (P := fun i (d : Dc) => (w.cell? ⟨bk, off + i * 3, none⟩ = some (.string d.1) ∧ w.cell? ⟨bk, off + i * 3 + 1, none⟩ = some (.int .i64 d.2.1) ∧ w.cell? ⟨bk, off + i * 3 + 2, none⟩ = some (.int .i64 d.2.2)) ∧ d.1.size ≤ 9223372036854775807) (m := len) (fun i hi => by
    obtain ⟨cs, z, hcl, hz, hk⟩ := hel i hi
    obtain ⟨_, n', _, hf⟩ := td_fields dc_fs hz
    match cs, hcl with
    | [c0, c1, c2], _ =>
     obtain ⟨z0, a0⟩ := hf 0 _ _ rfl
     obtain ⟨z1, a1⟩ := hf 1 _ _ rfl
     obtain ⟨z2, a2⟩ := hf 2 _ _ rfl
     rw [op_s.2] at a0
     rw [ty_cells.2.2.2.2.2.2.2.1] at a1
     rw [op_i2.2] at a2
     obtain ⟨n0, e0, _, k0⟩ := DataW.trod_string op_s.1 a0
     obtain ⟨n1, e1, _, _⟩ := DataW.trod_int ty_ints.1 a1
     obtain ⟨n2, e2, _, _⟩ := DataW.trod_int op_i2.1 a2
     have u0 : c0 = .string n0 := by simpa using e0
     have u1 : c1 = .int .i64 n1 := by simpa using e1
     have u2 : c2 = .int .i64 n2 := by simpa using e2
     subst u0 u1 u2
     exact ⟨(n0, n1, n2), ⟨hk 0 (show (0 : Nat) < 3 by decide), hk 1 (show (1 : Nat) < 3 by decide), hk 2 (show (2 : Nat) < 3 by decide)⟩, k0⟩)
   refine ⟨l, ⟨some ⟨bk, off, none⟩, cap, by rw [hll], Or.inr ⟨bk, off, rfl, fun j d hj => (hl j d hj).1⟩⟩, fun d hd => ?_⟩
   obtain ⟨j, hj⟩ := List.getElem?_of_mem hd
   exact (hl j d hj).2
end
theorem pg_rr : Tryz.prog.readableRec 25 = true := by kernel_rfl
theorem pg_sz : 25 < Tryz.prog.types.size := of_decide_eq_true (by kernel_rfl)
theorem pg_st : (match Tryz.prog.underlying 25 with | some (.struct _) => true | _ => false) = true := by kernel_rfl
set_option maxRecDepth 100000 in
/-- A program that comes in. -/
theorem open_prog {H : Type} {enc : TypeId × Value → H} {W : World} {base : Nat} {v : Value} {d : DataW H} {p : List MemPlace} (hv : Value.okWide Tryz.prog W .any base 25 v) (h : DataW.Trod enc Tryz.prog W 0 (fun _ => true) true 25 v d p) :
  ∃ (q : Pg) (wo xo : Option Addr) (wc xc : Nat), v = .agg #[.slice wo q.1.length wc, .slice xo q.2.len xc] ∧ SlDc W (.slice wo q.1.length wc) q.1 ∧ SlS W AllB (.slice xo q.2.len xc) q.2 ∧ (∀ d ∈ q.1, d.1.size ≤ 9223372036854775807) ∧ q.2.szs ∧ ∀ x ∈ p, x.block < W.heap.size := by
 have hs := pg_st
 split at hs
 ·rename_i fs e
  simp only [Value.okWide, e] at hv
  obtain ⟨cs, rfl, hcs, _⟩ := hv
  rw [ty_cells.2.2.2.1] at hcs
  obtain ⟨n, h⟩ := h
  have hlt := DataW.trod_lt _ _ _ _ h
  simp only [Value.cells] at h
  obtain ⟨_, m, rfl, hf⟩ := td_fields pg_fs h
  obtain ⟨l⟩ := cs
  match l, hcs with
  | [c0, c1], _ =>
   obtain ⟨z0, a0⟩ := hf 0 _ _ rfl
   obtain ⟨z1, a1⟩ := hf 1 _ _ rfl
   rw [ty_cells.2.2.2.2.2.2.1] at a0
   rw [ty_cells.2.2.2.2.2.1] at a1
   obtain ⟨ds, hD, hz⟩ := tr_decls (v := c0) (by simpa using a0)
   obtain ⟨f, hF, hzf⟩ := (tr_stmt m).2 c1 z1 (by simpa using a1)
   obtain ⟨p1, q1, rfl, hD'⟩ := hD
   obtain ⟨p2, q2, rfl, hF'⟩ := hF
   exact ⟨(ds, f), p1, p2, q1, q2, rfl, ⟨p1, q1, rfl, hD'⟩, ⟨p2, q2, rfl, hF'⟩, hz, hzf, hlt⟩
 ·cases hs
end Go.Proofs.YtknoibocpbfmmaaGreatDoor



