/- What package-level variables hold when a call begins, out of what the row lists: the table of operators, the range error. -/
import Derived.Test.YtknoibocpbfmmaaGreatDoorRows
import Derived.Test.YtknoibocpbfmmaaGreatDoorPeK
import Derived.ProofKit
import Derived.LaidMore
import Derived.LaidSub
import Derived.Lib.LaidTab
import Derived.OpenShut
import Derived.ChangeArms
import Derived.Stop.Joined
namespace Go.Proofs.YtknoibocpbfmmaaGreatDoor
open Go.RowKit Go.ChangeShapes Go.WideShapes Go.ChangeAt
set_option linter.unusedVariables false
theorem mapM_at {α β : Type} {f : α → Option β} : ∀ {l : List α} {xs : List β}, l.mapM f = some xs → ∀ (i : Nat) (a : α), l[i]? = some a → ∃ y, f a = some y ∧ xs[i]? = some y
  | [], xs, h, i, a, hi => by cases i <;> cases hi
  | b :: l, xs, h, i, a, hi => by
    rw [List.mapM_cons] at h
    simp only [Option.bind_eq_bind, Option.bind_eq_some_iff, Option.pure_def, Option.some.injEq] at h
    obtain ⟨y, h1, ys, h2, rfl⟩ := h
    cases i with
    | zero => cases hi; exact ⟨y, h1, rfl⟩
    | succ i => obtain ⟨z, h3, h4⟩ := mapM_at h2 i a (by simpa using hi); exact ⟨z, h3, by simpa using h4⟩
section
variable {H : Type} {enc : TypeId × Value → H} {w : World} {base : Nat} {sp : Nat → Bool} {held : Bool}
theorem td_array {t e : TypeId} {n fuel : Nat} {cs : List Value} {y : DataW H × List MemPlace} (ht : Tryz.prog.underlying t = some (.array n e)) (h : DataW.trod enc Tryz.prog w base sp held fuel t cs = some y) :
    cs.length = Tryz.prog.cellsOf t ∧ ∃ fuel' ds, y.1 = .agg ds ∧ ∀ i, i < n → ∃ z, DataW.trod enc Tryz.prog w base sp held fuel' e ((cs.drop (i * Tryz.prog.cellsOf e)).take (Tryz.prog.cellsOf e)) = some z ∧ ds[i]? = some z.1 := by
  cases fuel with
  | zero => simp [DataW.trod] at h
  | succ fuel =>
    simp only [DataW.trod, ht] at h
    split at h
    · rename_i hl
      simp only [Option.map_eq_some_iff] at h
      obtain ⟨xs, h1, rfl⟩ := h
      refine ⟨hl, fuel, xs.map (·.1), rfl, fun i hi => ?_⟩
      obtain ⟨z, h2, h3⟩ := mapM_at h1 i i (by simp [hi])
      exact ⟨z, h2, by simp [h3]⟩
    · cases h
theorem td_struct {t : TypeId} {fs : Array Go.Field} {fuel : Nat} {cs : List Value} {y : DataW H × List MemPlace} (ht : Tryz.prog.underlying t = some (.struct fs)) (h : DataW.trod enc Tryz.prog w base sp held fuel t cs = some y) :
    cs.length = Tryz.prog.cellsOf t ∧ ∃ fuel' ds, y.1 = .agg ds ∧ ∀ (i : Nat) (f : Go.Field), fs[i]? = some f → ∃ z, DataW.trod enc Tryz.prog w base sp held fuel' f.type ((cs.drop f.offset).take (Tryz.prog.cellsOf f.type)) = some z ∧ ds[i]? = some z.1 := by
  cases fuel with
  | zero => simp [DataW.trod] at h
  | succ fuel =>
    simp only [DataW.trod, ht] at h
    split at h
    · rename_i hl
      simp only [Option.map_eq_some_iff] at h
      obtain ⟨xs, h1, rfl⟩ := h
      refine ⟨hl, fuel, xs.map (·.1), rfl, fun i f hi => ?_⟩
      obtain ⟨z, h2, h3⟩ := mapM_at h1 i f (by rw [← hi]; simp)
      exact ⟨z, h2, by simp [h3]⟩
    · cases h
theorem td_iface {t : TypeId} {ms : Array (String × TypeId)} {fuel : Nat} {cs : List Value} {y : DataW H × List MemPlace} (ht : Tryz.prog.underlying t = some (.interface ms)) (h : DataW.trod enc Tryz.prog w base sp held fuel t cs = some y) : cs = [.nilIface] ∨ ∃ u v, cs = [.iface u v] := by
  cases fuel with
  | zero => simp [DataW.trod] at h
  | succ fuel =>
    unfold DataW.trod at h
    rw [ht] at h
    split at h
    all_goals first | (exact Or.inl rfl) | (exact Or.inr ⟨_, _, rfl⟩) | simp_all
end
theorem op_names : Tryz.prog.globalNamed "plumbline/fparse.operators" = some 0 := by kernel_rfl
theorem er_names : Tryz.prog.globalNamed "strconv.ErrRange" = some 3 := by kernel_rfl
theorem op_type : (Tryz.prog.globals[0]?).map (·.type) = some 146 := by kernel_rfl
theorem op_arr : Tryz.prog.underlying 146 = some (.array 12 133) := by kernel_rfl
theorem op_cells : Tryz.prog.cellsOf 146 = 36 := by kernel_rfl
theorem op_cell : Tryz.prog.cellsOf 133 = 3 := by kernel_rfl
theorem op_fs : (match Tryz.prog.underlying 133 with | some (.struct fs) => some (fs.map (fun f => (f.type, f.offset))) | _ => none) = some #[(83, 0), (9, 1), (3, 2)] := by kernel_rfl
theorem op_str : ∃ fs : Array Go.Field, Tryz.prog.underlying 133 = some (.struct fs) ∧ fs.map (fun f => (f.type, f.offset)) = #[(83, 0), (9, 1), (3, 2)] := by
  have h := op_fs
  split at h
  · rename_i fs e
    exact ⟨fs, e, Option.some.inj h⟩
  · cases h
theorem op_i1 : Tryz.prog.underlying 83 = some (.int .i64) ∧ Tryz.prog.cellsOf 83 = 1 := ⟨by kernel_rfl, by kernel_rfl⟩
theorem op_i2 : Tryz.prog.underlying 3 = some (.int .i64) ∧ Tryz.prog.cellsOf 3 = 1 := ⟨by kernel_rfl, by kernel_rfl⟩
theorem op_s : Tryz.prog.underlying 9 = some .string ∧ Tryz.prog.cellsOf 9 = 1 := ⟨by kernel_rfl, by kernel_rfl⟩
theorem op_fi {fs : Array Go.Field} {l : Array (Nat × Nat)} (hf : fs.map (fun f => (f.type, f.offset)) = l) (i : Nat) (t o : Nat) (h : l[i]? = some (t, o)) : ∃ f, fs[i]? = some f ∧ f.type = t ∧ f.offset = o := by
  rw [← hf, Array.getElem?_map] at h
  cases hf : fs[i]? with
  | none => rw [hf] at h; cases h
  | some f => rw [hf] at h; cases h; exact ⟨f, rfl, rfl, rfl⟩
def opD (x : Int × ByteArray × Int) : DataW Unit := .agg [.lit (.int .i64 x.1), .lit (.string x.2.1.data.toList), .lit (.int .i64 x.2.2)]
theorem op_laid : (Rows.laid_plumbline_fparse_operators : DataW Unit) = .agg (opT.map opD) := by kernel_rfl
theorem one_of {l : List Value} {k : Nat} {v : Value} (h : (l.drop k).take 1 = [v]) : l[k]? = some v := by
  cases hd : l.drop k with
  | nil => rw [hd] at h; cases h
  | cons x r =>
    rw [hd] at h
    have h' : [x] = [v] := h
    cases h'
    have := List.getElem?_drop (xs := l) (i := k) (j := 0)
    rw [hd] at this
    simpa using this.symm
theorem ba_of {s : ByteArray} {t : ByteArray} (h : s.data.toList = t.data.toList) : s = t := by
  apply ByteArray.ext
  exact Array.ext' h
theorem opC_at : ∀ (l : List (Int × ByteArray × Int)) (j : Nat) v, (opC l)[j]? = some v → ∃ i x, l[i]? = some x ∧ (j = i * 3 ∧ v = .int .i64 x.1 ∨ j = i * 3 + 1 ∧ v = .string x.2.1 ∨ j = i * 3 + 2 ∧ v = .int .i64 x.2.2)
  | [], j, v, h => by cases j <;> cases h
  | x :: l, 0, v, h => ⟨0, x, rfl, Or.inl ⟨rfl, by cases h; rfl⟩⟩
  | x :: l, 1, v, h => ⟨0, x, rfl, Or.inr (Or.inl ⟨rfl, by cases h; rfl⟩)⟩
  | x :: l, 2, v, h => ⟨0, x, rfl, Or.inr (Or.inr ⟨rfl, by cases h; rfl⟩)⟩
  | x :: l, j + 3, v, h => by
    obtain ⟨i, y, h1, h2⟩ := opC_at l j v h
    rcases h2 with ⟨rfl, rfl⟩ | ⟨rfl, rfl⟩ | ⟨rfl, rfl⟩
    · exact ⟨i + 1, y, h1, Or.inl ⟨by omega, rfl⟩⟩
    · exact ⟨i + 1, y, h1, Or.inr (Or.inl ⟨by omega, rfl⟩)⟩
    · exact ⟨i + 1, y, h1, Or.inr (Or.inr ⟨by omega, rfl⟩)⟩
/-- The table of operators, out of the list. -/
theorem ops_of {W : World} (h : laidMet Tryz.prog [("plumbline/fparse.operators", Rows.laid_plumbline_fparse_operators)] W) : OpsAt W := by
  obtain ⟨ps, ⟨g, t, cs, fuel, p, q, hg, ht, hvar, hd, _, _⟩, _⟩ := h
  obtain rfl := Option.some.inj (op_names.symm.trans hg)
  obtain rfl := Option.some.inj (op_type.symm.trans ht)
  obtain ⟨hl, f1, ds, e1, hA⟩ := td_array op_arr hd
  rw [op_laid] at e1
  cases e1
  rw [op_cell] at hA
  have key : ∀ (i : Nat) x, opT[i]? = some x → cs.toList[i * 3]? = some (.int .i64 x.1) ∧ cs.toList[i * 3 + 1]? = some (.string x.2.1) ∧ cs.toList[i * 3 + 2]? = some (.int .i64 x.2.2) := fun i x hx => by
    have hi : i < 12 := (List.getElem?_eq_some_iff.1 hx).1
    obtain ⟨z, h1, h2⟩ := hA i hi
    rw [List.getElem?_map, hx] at h2
    have e2 : z.1 = opD x := (Option.some.inj h2).symm
    obtain ⟨fs, es, ef⟩ := op_str
    obtain ⟨_, f2, ds2, e3, hS⟩ := td_struct es h1
    rw [e2] at e3
    unfold opD at e3
    cases e3
    have dd : ∀ k, k < 3 → (((cs.toList.drop (i * 3)).take 3).drop k).take 1 = (cs.toList.drop (i * 3 + k)).take 1 := fun k hk => by
      rw [List.drop_take, List.drop_drop, List.take_take, Nat.min_eq_left (by omega)]
    obtain ⟨g0, u0, t0, o0⟩ := op_fi ef 0 _ _ rfl
    obtain ⟨g1, u1, t1, o1⟩ := op_fi ef 1 _ _ rfl
    obtain ⟨g2, u2, t2, o2⟩ := op_fi ef 2 _ _ rfl
    obtain ⟨z0, a0, b0⟩ := hS 0 g0 u0
    obtain ⟨z1, a1, b1⟩ := hS 1 g1 u1
    obtain ⟨z2, a2, b2⟩ := hS 2 g2 u2
    rw [t0, o0, op_i1.2, dd 0 (by decide)] at a0
    rw [t1, o1, op_s.2, dd 1 (by decide)] at a1
    rw [t2, o2, op_i2.2, dd 2 (by decide)] at a2
    obtain ⟨n0, c0, rfl, _⟩ := DataW.trod_int op_i1.1 a0
    obtain ⟨n1, c1, rfl, _⟩ := DataW.trod_string op_s.1 a1
    obtain ⟨n2, c2, rfl, _⟩ := DataW.trod_int op_i2.1 a2
    have q0 := one_of c0
    have q1 := one_of c1
    have q2 := one_of c2
    simp at b0 b1 b2
    rw [Nat.add_zero] at q0
    refine ⟨by rw [q0, b0], ?_, by rw [q2, b2]⟩
    rw [q1]
    rw [ba_of (s := n1) (t := x.2.1) (by simpa using b1.symm)]
  intro j v hj
  have hc : cs.toList[j]? = some v := by
    obtain ⟨i, x, hx, h⟩ := opC_at _ _ _ hj
    obtain ⟨k0, k1, k2⟩ := key i x hx
    rcases h with ⟨rfl, rfl⟩ | ⟨rfl, rfl⟩ | ⟨rfl, rfl⟩ <;> assumption
  rw [var?_cell op_names hvar j, ← Array.getElem?_toList]
  exact hc
theorem er_type : (Tryz.prog.globals[3]?).map (·.type) = some 102 := by kernel_rfl
theorem er_if : (match Tryz.prog.underlying 102 with | some (.interface _) => true | _ => false) = true := by kernel_rfl
/-- The range error, out of the list. -/
theorem ev_of {W : World} {d : DataW Unit} (h : laidMet Tryz.prog [("strconv.ErrRange", d)] W) : EvAt W := by
  obtain ⟨ps, ⟨g, t, cs, fuel, p, q, hg, ht, hvar, hd, _, _⟩, _⟩ := h
  obtain rfl := Option.some.inj (er_names.symm.trans hg)
  obtain rfl := Option.some.inj (er_type.symm.trans ht)
  have hi := er_if
  split at hi
  · rename_i ms e
    have c := var?_cell er_names hvar 0
    rw [← Array.getElem?_toList] at c
    rcases td_iface e hd with h | ⟨u, v, h⟩
    · rw [h] at c
      exact ⟨_, c, Or.inl rfl⟩
    · rw [h] at c
      exact ⟨_, c, Or.inr ⟨u, v, rfl⟩⟩
  · cases hi
end Go.Proofs.YtknoibocpbfmmaaGreatDoor

