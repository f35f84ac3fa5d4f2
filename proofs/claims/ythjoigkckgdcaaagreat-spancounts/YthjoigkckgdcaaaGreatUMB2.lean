/- Texts of the proof, put together. -/
import Derived.Test.YthjoigkckgdcaaaGreatUMB1
import Derived.Deep.Draws
namespace Go.Proofs.YthjoigkckgdcaaaGreat
open Go.RowKit
set_option linter.unusedVariables false
set_option linter.unusedSimpArgs false
end Go.Proofs.YthjoigkckgdcaaaGreat
namespace Go.Proofs.YthjoigkckgdcaaaGreat
open Go.RowKit
set_option linter.unusedVariables false
set_option linter.unusedSimpArgs false
def fW (s : Bool) : Int := if s then 32 else 64
def fQ (s : Bool) : Int := if s then 23 else 52
theorem fmtV_eq (s : Bool) : fmtV s = .agg #[.int .i64 (fW s), .int .i64 (fQ s), .int .i64 (fL s), .int .u64 (fS s), .int .u64 (fI s)] := by cases s <;> rfl
theorem fmtO_eq (s : Bool) : fmtO s = .cells #[.int .i64 (fW s), .int .i64 (fQ s), .int .i64 (fL s), .int .u64 (fS s), .int .u64 (fI s)] 220 := by cases s <;> rfl
def FmtAt (w : World) (k : Nat) (s : Bool) : Prop := w.cell? ⟨k, 0, none⟩ = some (.int .i64 (fW s)) ∧ w.cell? ⟨k, 1, none⟩ = some (.int .i64 (fQ s)) ∧ w.cell? ⟨k, 2, none⟩ = some (.int .i64 (fL s)) ∧ w.cell? ⟨k, 3, none⟩ = some (.int .u64 (fS s)) ∧ w.cell? ⟨k, 4, none⟩ = some (.int .u64 (fI s))
theorem FmtAt.on {W w1 : World} {k : Nat} {s : Bool} (h : FmtAt W k s) (hb : Below W.heap.size W w1) : FmtAt w1 k s := by
  obtain ⟨a, b, c, d, e⟩ := h
  exact ⟨cell_on hb a, cell_on hb b, cell_on hb c, cell_on hb d, cell_on hb e⟩
theorem FmtAt.past {W : World} {k : Nat} {s : Bool} (h : FmtAt W k s) (o : Obj) : FmtAt (W.alloc o) k s := by
  obtain ⟨a, b, c, d, e⟩ := h
  exact ⟨cell_past a o, cell_past b o, cell_past c o, cell_past d o, cell_past e o⟩
theorem FmtAt.new (W : World) (s : Bool) : FmtAt (W.alloc (fmtO s)) W.heap.size s := by
  rw [fmtO_eq]
  unfold FmtAt
  simp [go_sem]
theorem FmtAt.drew {W : World} {k : Nat} {s : Bool} (h : FmtAt W k s) : FmtAt W.drew k s := h
theorem FmtAt.lt {W : World} {k : Nat} {s : Bool} (h : FmtAt W k s) : k < W.heap.size := lt_new h.1
end Go.Proofs.YthjoigkckgdcaaaGreat
namespace Go.Proofs.YthjoigkckgdcaaaGreat
open Go.RowKit
set_option linter.unusedVariables false
set_option linter.unusedSimpArgs false
def Fin (s : Bool) (u p : Int) : Prop := 0 ≤ u ∧ u < 2 ^ (fP s + 1) ∧ fL s ≤ p ∧ p ≤ 2000 ∧ (fL s < p → 2 ^ fP s ≤ u)
theorem Fin.word {s : Bool} {u p : Int} (h : Fin s u p) : Word u := by
  obtain ⟨a, b, _⟩ := h
  cases s
  · exact ⟨a, Int.lt_trans b (by decide)⟩
  · exact ⟨a, Int.lt_trans b (by decide)⟩
theorem Fin.low {s : Bool} {u p : Int} (h : Fin s u p) : -1074 ≤ p := by
  obtain ⟨_, _, c, _⟩ := h
  cases s
  · exact c
  · exact Int.le_trans (by decide) c
end Go.Proofs.YthjoigkckgdcaaaGreat
namespace Go.Proofs.YthjoigkckgdcaaaGreat
open Go.RowKit
set_option linter.unusedVariables false
set_option linter.unusedSimpArgs false
end Go.Proofs.YthjoigkckgdcaaaGreat
namespace Go.Proofs.YthjoigkckgdcaaaGreat
open Go.RowKit
set_option linter.unusedVariables false
set_option linter.unusedSimpArgs false
set_option maxHeartbeats 1600000 in
theorem splitx_d (a : Int) (h : Word a) (w : World) :
    Calls Tryz.prog 230 #[fmtV false, .int .u64 a] w fun e w' => e = .returned (prtV false a) ∧ ∃ o1 o2 o3 o4 n, w' = ((((w.alloc o1).alloc o2).alloc o3).alloc o4).drewN n := by
  obtain ⟨a0, a1⟩ := id h
  obtain ⟨z0, z1⟩ := zOf_word false a h
  have hz : ∃ z, zOf false a = z := ⟨_, rfl⟩
  obtain ⟨z, hz⟩ := hz
  have hk : ∃ k, cls false a = k := ⟨_, rfl⟩
  obtain ⟨k, hk⟩ := hk
  have hg : ∃ g, sgn false a = g := ⟨_, rfl⟩
  obtain ⟨g, hg⟩ := hg
  have hv : prtV false a = .agg #[.int .i64 k, .bool g, .int .u64 (if 0 < z / 4503599627370496 then a % 4503599627370496 + 4503599627370496 else a % 4503599627370496), .int .i64 (if 0 < z / 4503599627370496 then (-1074) + (z / 4503599627370496 - 1) else (-1074))] := by
    unfold prtV whl pwr; rw [hk, hg, hz]; rfl
  rw [hv]
  rw [hz] at z0 z1
  have n1 : bits BinOp.andNot IntKind.u64 a 9223372036854775808 = z := hz
  have n2 : (bits BinOp.and IntKind.u64 a 9223372036854775808 != 0) = g := hg
  have n3 := and_lowD a h
  have hc := class_any false a h
  rw [hk] at hc
  unfold fmtV at hc ⊢
  unfold fmtO at hc
  clear hk hg hv hz
  go_enter Tryz.func230, Tryz.ntmps230
  go_upto_region 1 with fail
  by_cases cx : 0 < z / 4503599627370496
  · have n4 := or_topD (a % 4503599627370496) (by omega) (by omega)
    go_region_held3 (fun w' => w'.cell? ⟨w.heap.size, 0, none⟩ = some (.int .i64 64) ∧ w'.cell? ⟨w.heap.size, 1, none⟩ = some (.int .i64 52) ∧ w'.cell? ⟨w.heap.size, 2, none⟩ = some (.int .i64 (-1074)) ∧ w'.cell? ⟨w.heap.size, 3, none⟩ = some (.int .u64 9223372036854775808) ∧ w'.cell? ⟨w.heap.size, 4, none⟩ = some (.int .u64 9218868437227405312))
      (simp [go_sem, World.cell?_alloc_past])
      ((go_at_call 276; refine (hc _).mono ?_; rintro e w1 ⟨rfl, rfl⟩))
    all_goals (go_wp2_with fail)
    all_goals (go_region)
    all_goals (go_wp2_with fail)
    all_goals (refine bodyPost_ret (v := .agg #[.int .i64 k, .bool g, .int .u64 (a % 4503599627370496 + 4503599627370496), .int .i64 ((-1074) + (z / 4503599627370496 - 1))]) (by simp [results, Tryz.results230, go_sem]) rfl ⟨rfl, ?_⟩)
    all_goals exact ⟨_, _, _, _, 2, rfl⟩
  · have cz : z / 4503599627370496 = 0 := by omega
    go_region_held3 (fun w' => w'.cell? ⟨w.heap.size, 0, none⟩ = some (.int .i64 64) ∧ w'.cell? ⟨w.heap.size, 1, none⟩ = some (.int .i64 52) ∧ w'.cell? ⟨w.heap.size, 2, none⟩ = some (.int .i64 (-1074)) ∧ w'.cell? ⟨w.heap.size, 3, none⟩ = some (.int .u64 9223372036854775808) ∧ w'.cell? ⟨w.heap.size, 4, none⟩ = some (.int .u64 9218868437227405312))
      (simp [go_sem, World.cell?_alloc_past])
      ((go_at_call 276; refine (hc _).mono ?_; rintro e w1 ⟨rfl, rfl⟩))
    all_goals (go_wp2_with fail)
    all_goals (refine bodyPost_ret (v := .agg #[.int .i64 k, .bool g, .int .u64 (a % 4503599627370496), .int .i64 ((-1074))]) (by simp [results, Tryz.results230, go_sem]) rfl ⟨rfl, ?_⟩)
    all_goals exact ⟨_, _, _, _, 1, rfl⟩

set_option maxHeartbeats 1600000 in
theorem splitx_s (a : Int) (h : Word a) (w : World) :
    Calls Tryz.prog 230 #[fmtV true, .int .u64 a] w fun e w' => e = .returned (prtV true a) ∧ ∃ o1 o2 o3 o4 n, w' = ((((w.alloc o1).alloc o2).alloc o3).alloc o4).drewN n := by
  obtain ⟨a0, a1⟩ := id h
  obtain ⟨z0, z1⟩ := zOf_word true a h
  have hz : ∃ z, zOf true a = z := ⟨_, rfl⟩
  obtain ⟨z, hz⟩ := hz
  have hk : ∃ k, cls true a = k := ⟨_, rfl⟩
  obtain ⟨k, hk⟩ := hk
  have hg : ∃ g, sgn true a = g := ⟨_, rfl⟩
  obtain ⟨g, hg⟩ := hg
  have hv : prtV true a = .agg #[.int .i64 k, .bool g, .int .u64 (if 0 < z / 8388608 then a % 8388608 + 8388608 else a % 8388608), .int .i64 (if 0 < z / 8388608 then (-149) + (z / 8388608 - 1) else (-149))] := by
    unfold prtV whl pwr; rw [hk, hg, hz]; rfl
  rw [hv]
  rw [hz] at z0 z1
  have n1 : bits BinOp.andNot IntKind.u64 a 2147483648 = z := hz
  have n2 : (bits BinOp.and IntKind.u64 a 2147483648 != 0) = g := hg
  have n3 := and_lowS a h
  have hc := class_any true a h
  rw [hk] at hc
  unfold fmtV at hc ⊢
  unfold fmtO at hc
  clear hk hg hv hz
  go_enter Tryz.func230, Tryz.ntmps230
  go_upto_region 1 with fail
  by_cases cx : 0 < z / 8388608
  · have n4 := or_topS (a % 8388608) (by omega) (by omega)
    go_region_held3 (fun w' => w'.cell? ⟨w.heap.size, 0, none⟩ = some (.int .i64 32) ∧ w'.cell? ⟨w.heap.size, 1, none⟩ = some (.int .i64 23) ∧ w'.cell? ⟨w.heap.size, 2, none⟩ = some (.int .i64 (-149)) ∧ w'.cell? ⟨w.heap.size, 3, none⟩ = some (.int .u64 2147483648) ∧ w'.cell? ⟨w.heap.size, 4, none⟩ = some (.int .u64 2139095040))
      (simp [go_sem, World.cell?_alloc_past])
      ((go_at_call 276; refine (hc _).mono ?_; rintro e w1 ⟨rfl, rfl⟩))
    all_goals (go_wp2_with fail)
    all_goals (go_region)
    all_goals (go_wp2_with fail)
    all_goals (refine bodyPost_ret (v := .agg #[.int .i64 k, .bool g, .int .u64 (a % 8388608 + 8388608), .int .i64 ((-149) + (z / 8388608 - 1))]) (by simp [results, Tryz.results230, go_sem]) rfl ⟨rfl, ?_⟩)
    all_goals exact ⟨_, _, _, _, 2, rfl⟩
  · have cz : z / 8388608 = 0 := by omega
    go_region_held3 (fun w' => w'.cell? ⟨w.heap.size, 0, none⟩ = some (.int .i64 32) ∧ w'.cell? ⟨w.heap.size, 1, none⟩ = some (.int .i64 23) ∧ w'.cell? ⟨w.heap.size, 2, none⟩ = some (.int .i64 (-149)) ∧ w'.cell? ⟨w.heap.size, 3, none⟩ = some (.int .u64 2147483648) ∧ w'.cell? ⟨w.heap.size, 4, none⟩ = some (.int .u64 2139095040))
      (simp [go_sem, World.cell?_alloc_past])
      ((go_at_call 276; refine (hc _).mono ?_; rintro e w1 ⟨rfl, rfl⟩))
    all_goals (go_wp2_with fail)
    all_goals (refine bodyPost_ret (v := .agg #[.int .i64 k, .bool g, .int .u64 (a % 8388608), .int .i64 ((-149))]) (by simp [results, Tryz.results230, go_sem]) rfl ⟨rfl, ?_⟩)
    all_goals exact ⟨_, _, _, _, 1, rfl⟩
theorem split_ex (s : Bool) (a : Int) (h : Word a) (w : World) :
    Calls Tryz.prog 230 #[fmtV s, .int .u64 a] w fun e w' => e = .returned (prtV s a) ∧ ∃ o1 o2 o3 o4 n, w' = ((((w.alloc o1).alloc o2).alloc o3).alloc o4).drewN n := by
  cases s
  · exact splitx_d a h w
  · exact splitx_s a h w
theorem below_dN {B : Nat} {a w : World} (h : Below B a w) (n : Nat) : Below B a (w.drewN n) := h.trans ⟨rfl, rfl, rfl, Nat.le_refl _, fun _ _ => rfl⟩
theorem formatOf_ex (f : Int) (w : World) :
    Calls Tryz.prog 229 #[.int .i64 f] w fun e w' => e = .returned (fmtV (f == 1)) ∧ ∃ o1 o2, w' = ((w.alloc o1).alloc o2).drew := by
  by_cases c : f = 1
  · subst c
    go_enter Tryz.func229, Tryz.ntmps229
    go_wp2_with fail
    go_region
    go_wp2_with fail
    exact bodyPost_ret (v := fmtV true) (by simp [results, Tryz.results229, go_sem, fmtV]) rfl ⟨rfl, _, _, rfl⟩
  · have c' : (f == 1) = false := by simp [c]
    rw [c']
    go_enter Tryz.func229, Tryz.ntmps229
    go_wp2_with fail
    go_region
    go_wp2_with fail
    exact bodyPost_ret (v := fmtV false) (by simp [results, Tryz.results229, go_sem, fmtV]) rfl ⟨rfl, _, _, rfl⟩
theorem nan_ex (s : Bool) (w : World) : Calls Tryz.prog 232 #[fmtV s] w fun e w' => e = .returned (.int .u64 (fNan s)) ∧ w' = (w.alloc (fmtO s)).drew := by
  have o1 := or_nanD
  have o2 := or_nanS
  cases s
  · unfold fmtV fmtO
    go_enter Tryz.func232, Tryz.ntmps232
    go_wp2_with fail
    go_region
    go_wp2_with fail
    go_ret
    exact ⟨rfl, rfl⟩
  · unfold fmtV fmtO
    go_enter Tryz.func232, Tryz.ntmps232
    go_wp2_with fail
    go_region
    go_wp2_with fail
    go_ret
    exact ⟨rfl, rfl⟩
end Go.Proofs.YthjoigkckgdcaaaGreat
namespace Go.Proofs.YthjoigkckgdcaaaGreat
open Go.RowKit
set_option linter.unusedVariables false
set_option linter.unusedSimpArgs false
end Go.Proofs.YthjoigkckgdcaaaGreat
namespace Go.Proofs.YthjoigkckgdcaaaGreat
open Go.RowKit
set_option linter.unusedVariables false
set_option linter.unusedSimpArgs false
end Go.Proofs.YthjoigkckgdcaaaGreat
namespace Go.Proofs.YthjoigkckgdcaaaGreat
open Go.RowKit
set_option linter.unusedVariables false
set_option linter.unusedSimpArgs false
end Go.Proofs.YthjoigkckgdcaaaGreat
namespace Go.Proofs.YthjoigkckgdcaaaGreat
open Go.RowKit
set_option linter.unusedVariables false
set_option linter.unusedSimpArgs false
end Go.Proofs.YthjoigkckgdcaaaGreat
namespace Go.Proofs.YthjoigkckgdcaaaGreat
open Go.RowKit
set_option linter.unusedVariables false
set_option linter.unusedSimpArgs false
def negF (s : Bool) (a : Int) : Int := if cls s a == 0 || cls s a == 5 then fNan s else bits BinOp.xor IntKind.u64 a (fS s)
theorem fS_nat (s : Bool) : ∃ n : Nat, fS s = (n : Int) ∧ n < 18446744073709551616 := by
  cases s
  · exact ⟨9223372036854775808, rfl, by decide⟩
  · exact ⟨2147483648, rfl, by decide⟩
theorem xor_word (s : Bool) (a : Int) (h : Word a) : Word (bits BinOp.xor IntKind.u64 a (fS s)) := by
  obtain ⟨x, rfl⟩ := Int.eq_ofNat_of_zero_le h.1
  obtain ⟨n, e, l⟩ := fS_nat s
  have hx := h.2
  rw [e, u64_xor_nat x n (by omega) l]
  have : x ^^^ n < 2 ^ 64 := Nat.xor_lt_two_pow (by omega) (by omega)
  exact ⟨by omega, by omega⟩
theorem negF_word (s : Bool) (a : Int) (h : Word a) : Word (negF s a) := by
  unfold negF
  split
  · cases s <;> exact ⟨by decide, by decide⟩
  · exact xor_word s a h
theorem neg_fl (f a : Int) (h1 : Word a) (w : World) :
    Calls Tryz.prog 144 #[.int .i64 f, .int .u64 a] w fun r w' => r = .returned (.int .u64 (negF (f == 1) a)) ∧ Below w.heap.size w w' := by
  have hda : ∀ (w : World) (n : Nat) (o : Obj), (w.drewN n).alloc o = (w.alloc o).drewN n := fun _ _ _ => rfl
  have hfo := formatOf_ex f
  generalize (f == 1) = s at *
  have hV : ∃ V, negF s a = V := ⟨_, rfl⟩
  obtain ⟨V, hV⟩ := hV
  rw [hV]
  unfold negF at hV
  have hn1 := noNumber_any (cls s a) (sgn s a) (whl s a) (pwr s a)
  have hnan := nan_ex s
  have hsa := split_ex s a h1
  unfold prt prtO at hn1
  rw [fmtV_eq, fmtO_eq] at hnan
  rw [fmtV_eq] at hfo hsa
  unfold prtV at hsa
  generalize (cls s a == 0 || cls s a == 5) = N1 at *
  generalize cls s a = k1 at *
  generalize sgn s a = g1 at *
  generalize whl s a = u1 at *
  generalize pwr s a = p1 at *
  cases N1
  · simp only [Bool.false_eq_true, if_false] at hV
    subst hV
    go_enter Tryz.func144, Tryz.ntmps144
    go_wp2_with (first
      | (go_at_call 229; refine (hfo _).mono ?_; rintro r w1 ⟨rfl, o1, o2, rfl⟩)
      | (go_at_call 230; refine (hsa _).mono ?_; rintro r w2 ⟨rfl, o3, o4, o5, o6, n1, rfl⟩)
      | (go_at_call 231; refine (hn1 _).mono ?_; rintro r w2 ⟨rfl, rfl⟩))
    go_ret
    exact ⟨rfl, (by repeat (first | with_reducible exact Below.refl _ _ | with_reducible refine below_new ?_ _ | with_reducible refine Below.drew ?_ | with_reducible refine below_dN ?_ _))⟩
  · simp only [if_true] at hV
    subst hV
    go_enter Tryz.func144, Tryz.ntmps144
    go_wp2_with (first
      | (go_at_call 229; refine (hfo _).mono ?_; rintro r w1 ⟨rfl, o1, o2, rfl⟩)
      | (go_at_call 230; refine (hsa _).mono ?_; rintro r w2 ⟨rfl, o3, o4, o5, o6, n1, rfl⟩)
      | (go_at_call 231; refine (hn1 _).mono ?_; rintro r w2 ⟨rfl, rfl⟩)
      | (go_at_call 232; refine (hnan _).mono ?_; rintro r w2 ⟨rfl, rfl⟩))
    go_ret
    exact ⟨rfl, (by repeat (first | with_reducible exact Below.refl _ _ | with_reducible refine below_new ?_ _ | with_reducible refine Below.drew ?_ | with_reducible refine below_dN ?_ _))⟩
end Go.Proofs.YthjoigkckgdcaaaGreat
namespace Go.Proofs.YthjoigkckgdcaaaGreat
open Go.RowKit
set_option linter.unusedVariables false
set_option linter.unusedSimpArgs false
def rnk (s : Bool) (a : Int) : Int := if sgn s a then -(zOf s a) else zOf s a
theorem zOf_small (s : Bool) (a : Int) (h : Word a) (c : (cls s a == 0 || cls s a == 5) = false) : zOf s a ≤ fI s := by
  simp only [Bool.or_eq_false_iff, beq_eq_false_iff_ne, ne_eq] at c
  obtain ⟨k0, k5⟩ := c
  unfold cls at k0 k5
  have w : wideB s a = false := by
    cases t : wideB s a
    · rfl
    · rw [t] at k0; simp at k0
  rw [w] at k5
  simp only [Bool.false_eq_true, if_false] at k5
  by_cases t : fI s < zOf s a
  · rw [if_pos t] at k5; exact absurd rfl k5
  · omega
theorem order_any (s : Bool) (a : Int) (h : Word a) (hz : zOf s a ≤ 9223372036854775807) (w : World) :
    Calls Tryz.prog 248 #[fmtV s, .int .u64 a] w fun e w' => e = .returned (.int .i64 (rnk s a)) ∧ w' = w.alloc (fmtO s) := by
  obtain ⟨z0, z1⟩ := zOf_word s a h
  have hg : ∃ g, sgn s a = g := ⟨_, rfl⟩
  obtain ⟨g, hg⟩ := hg
  have hzz : ∃ z, zOf s a = z := ⟨_, rfl⟩
  obtain ⟨z, hzz⟩ := hzz
  unfold rnk
  rw [hg, hzz]
  rw [hzz] at z0 z1 hz
  have n1 : bits BinOp.andNot IntKind.u64 a (fS s) = z := hzz
  have n2 : (bits BinOp.and IntKind.u64 a (fS s) != 0) = g := hg
  rw [fmtV_eq, fmtO_eq]
  generalize fS s = S at *
  clear hg hzz
  cases g
  · go_enter Tryz.func248, Tryz.ntmps248
    go_wp2_with fail
    go_ret
    exact ⟨rfl, rfl⟩
  · go_enter Tryz.func248, Tryz.ntmps248
    go_wp2_with fail
    go_ret
    exact ⟨rfl, rfl⟩
def cmpF (s : Bool) (a b : Int) : Int × Bool :=
  if (cls s a == 0 || cls s a == 5) || (cls s b == 0 || cls s b == 5) then (0, false)
  else (if rnk s a < rnk s b then -1 else if rnk s b < rnk s a then 1 else 0, true)
theorem fI_i64 (s : Bool) : fI s ≤ 9223372036854775807 := by cases s <;> decide
set_option maxRecDepth 8000 in
set_option maxHeartbeats 1600000 in
theorem compare_fl (f a b : Int) (h1 : Word a) (h2 : Word b) (w : World) :
    Calls Tryz.prog 159 #[.int .i64 f, .int .u64 a, .int .u64 b] w fun r w' => r = .returned (.tuple #[.int .i64 (cmpF (f == 1) a b).1, .bool (cmpF (f == 1) a b).2]) ∧ Below w.heap.size w w' := by
  have hda : ∀ (w : World) (n : Nat) (o : Obj), (w.drewN n).alloc o = (w.alloc o).drewN n := fun _ _ _ => rfl
  have hfo := formatOf_ex f
  generalize (f == 1) = s at *
  have hn1 := noNumber_any (cls s a) (sgn s a) (whl s a) (pwr s a)
  have hn2 := noNumber_any (cls s b) (sgn s b) (whl s b) (pwr s b)
  have hsa := split_ex s a h1
  have hsb := split_ex s b h2
  have ho1 : (cls s a == 0 || cls s a == 5) = false → ∀ w, _ := fun c => order_any s a h1 (Int.le_trans (zOf_small s a h1 c) (fI_i64 s))
  have ho2 : (cls s b == 0 || cls s b == 5) = false → ∀ w, _ := fun c => order_any s b h2 (Int.le_trans (zOf_small s b h2 c) (fI_i64 s))
  unfold cmpF
  unfold prt prtO at hn1 hn2
  rw [fmtV_eq] at hfo hsa hsb ho1 ho2
  unfold prtV at hsa hsb
  generalize (cls s a == 0 || cls s a == 5) = N1 at *
  generalize (cls s b == 0 || cls s b == 5) = N2 at *
  generalize cls s a = k1 at *
  generalize cls s b = k2 at *
  generalize sgn s a = g1 at *
  generalize sgn s b = g2 at *
  generalize whl s a = u1 at *
  generalize whl s b = u2 at *
  generalize pwr s a = p1 at *
  generalize pwr s b = p2 at *
  generalize rnk s a = r1 at *
  generalize rnk s b = r2 at *
  cases N1
  · cases N2
    · simp only [Bool.or_false, Bool.false_eq_true, if_false]
      have hp1 := ho1 rfl
      have hp2 := ho2 rfl
      clear ho1 ho2
      go_enter Tryz.func159, Tryz.ntmps159
      go_wp2_with (first
        | (go_at_call 229; refine (hfo _).mono ?_; rintro r w1 ⟨rfl, o1, o2, rfl⟩)
        | (go_at_call_of 230 a; refine (hsa _).mono ?_; rintro r w2 ⟨rfl, o3, o4, o5, o6, n1, rfl⟩)
        | (go_at_call_of 230 b; refine (hsb _).mono ?_; rintro r w2 ⟨rfl, o7, o8, o9, oa, n2, rfl⟩)
        | (go_at_call_of 231 k1; refine (hn1 _).mono ?_; rintro r w2 ⟨rfl, rfl⟩)
        | (go_at_call_of 231 k2; refine (hn2 _).mono ?_; rintro r w2 ⟨rfl, rfl⟩))
      go_region_held3 (fun w' => w'.cell? ⟨w.heap.size + 1 + 1, 0, none⟩ = some (.int .i64 (fW s)) ∧ w'.cell? ⟨w.heap.size + 1 + 1, 1, none⟩ = some (.int .i64 (fQ s)) ∧ w'.cell? ⟨w.heap.size + 1 + 1, 2, none⟩ = some (.int .i64 (fL s)) ∧ w'.cell? ⟨w.heap.size + 1 + 1, 3, none⟩ = some (.int .u64 (fS s)) ∧ w'.cell? ⟨w.heap.size + 1 + 1, 4, none⟩ = some (.int .u64 (fI s)))
        (simp [go_sem, World.cell?_alloc_past])
        (first
          | (go_at_call_of 248 a; refine (hp1 _).mono ?_; rintro r w2 ⟨rfl, rfl⟩)
          | (go_at_call_of 248 b; refine (hp2 _).mono ?_; rintro r w3 ⟨rfl, rfl⟩))
      by_cases c1 : r1 < r2
      · go_wp2_with fail
        exact bodyPost_ret (v := .tuple #[.int .i64 (-1), .bool true]) (by simp [results, Tryz.results159, go_sem]) rfl ⟨by simp [c1], (by repeat (first | with_reducible exact Below.refl _ _ | with_reducible refine below_new ?_ _ | with_reducible refine Below.drew ?_ | with_reducible refine below_dN ?_ _))⟩
      · by_cases c2 : r2 < r1
        · go_wp2_with fail
          exact bodyPost_ret (v := .tuple #[.int .i64 (1), .bool true]) (by simp [results, Tryz.results159, go_sem]) rfl ⟨by simp [c1, c2], (by repeat (first | with_reducible exact Below.refl _ _ | with_reducible refine below_new ?_ _ | with_reducible refine Below.drew ?_ | with_reducible refine below_dN ?_ _))⟩
        · go_wp2_with fail
          exact bodyPost_ret (v := .tuple #[.int .i64 (0), .bool true]) (by simp [results, Tryz.results159, go_sem]) rfl ⟨by simp [c1, c2], (by repeat (first | with_reducible exact Below.refl _ _ | with_reducible refine below_new ?_ _ | with_reducible refine Below.drew ?_ | with_reducible refine below_dN ?_ _))⟩
    · simp only [Bool.or_true, if_true]
      go_enter Tryz.func159, Tryz.ntmps159
      go_wp2_with (first
        | (go_at_call 229; refine (hfo _).mono ?_; rintro r w1 ⟨rfl, o1, o2, rfl⟩)
        | (go_at_call_of 230 a; refine (hsa _).mono ?_; rintro r w2 ⟨rfl, o3, o4, o5, o6, n1, rfl⟩)
        | (go_at_call_of 230 b; refine (hsb _).mono ?_; rintro r w2 ⟨rfl, o7, o8, o9, oa, n2, rfl⟩)
        | (go_at_call_of 231 k1; refine (hn1 _).mono ?_; rintro r w2 ⟨rfl, rfl⟩)
        | (go_at_call_of 231 k2; refine (hn2 _).mono ?_; rintro r w2 ⟨rfl, rfl⟩))
      exact bodyPost_ret (v := .tuple #[.int .i64 0, .bool false]) (by simp [results, Tryz.results159, go_sem]) rfl ⟨rfl, (by repeat (first | with_reducible exact Below.refl _ _ | with_reducible refine below_new ?_ _ | with_reducible refine Below.drew ?_ | with_reducible refine below_dN ?_ _))⟩
  · simp only [Bool.true_or, if_true]
    go_enter Tryz.func159, Tryz.ntmps159
    go_wp2_with (first
        | (go_at_call 229; refine (hfo _).mono ?_; rintro r w1 ⟨rfl, o1, o2, rfl⟩)
        | (go_at_call_of 230 a; refine (hsa _).mono ?_; rintro r w2 ⟨rfl, o3, o4, o5, o6, n1, rfl⟩)
        | (go_at_call_of 231 k1; refine (hn1 _).mono ?_; rintro r w2 ⟨rfl, rfl⟩))
    exact bodyPost_ret (v := .tuple #[.int .i64 0, .bool false]) (by simp [results, Tryz.results159, go_sem]) rfl ⟨rfl, (by repeat (first | with_reducible exact Below.refl _ _ | with_reducible refine below_new ?_ _ | with_reducible refine Below.drew ?_ | with_reducible refine below_dN ?_ _))⟩
theorem class_fl (f a : Int) (h1 : Word a) (w : World) :
    Calls Tryz.prog 234 #[.int .i64 f, .int .u64 a] w fun r w' => r = .returned (.int .i64 (cls (f == 1) a)) ∧ Below w.heap.size w w' := by
  have hda : ∀ (w : World) (n : Nat) (o : Obj), (w.drewN n).alloc o = (w.alloc o).drewN n := fun _ _ _ => rfl
  have hfo := formatOf_ex f
  generalize (f == 1) = s at *
  have hc := class_any s a h1
  rw [fmtV_eq] at hfo hc
  generalize cls s a = k at *
  go_enter Tryz.func234, Tryz.ntmps234
  go_wp2_with (first
    | (go_at_call 229; refine (hfo _).mono ?_; rintro r w1 ⟨rfl, o1, o2, rfl⟩)
    | (go_at_call 276; refine (hc _).mono ?_; rintro r w2 ⟨rfl, rfl⟩))
  go_ret
  exact ⟨rfl, (by repeat (first | with_reducible exact Below.refl _ _ | with_reducible refine below_new ?_ _ | with_reducible refine Below.drew ?_ | with_reducible refine below_dN ?_ _))⟩
def finF (s : Bool) (a : Int) : Bool := cls s a == 1 || cls s a == 2 || cls s a == 3
theorem finite_fl (f a : Int) (h1 : Word a) (w : World) :
    Calls Tryz.prog 149 #[.int .i64 f, .int .u64 a] w fun r w' => r = .returned (.bool (finF (f == 1) a)) ∧ Below w.heap.size w w' := by
  have hc := class_fl f a h1
  generalize (f == 1) = s at *
  unfold finF
  generalize cls s a = k at *
  by_cases c1 : k = 1
  · subst c1
    go_enter Tryz.func149, Tryz.ntmps149
    go_wp2_with fail
    refine (hc _).mono ?_
    rintro r w1 ⟨rfl, hb1⟩
    go_wp2_with fail
    go_ret
    exact ⟨rfl, hb1⟩
  · by_cases c2 : k = 2
    · subst c2
      go_enter Tryz.func149, Tryz.ntmps149
      go_wp2_with fail
      refine (hc _).mono ?_
      rintro r w1 ⟨rfl, hb1⟩
      go_wp2_with fail
      go_ret
      exact ⟨rfl, hb1⟩
    · by_cases c3 : k = 3
      · subst c3
        go_enter Tryz.func149, Tryz.ntmps149
        go_wp2_with fail
        refine (hc _).mono ?_
        rintro r w1 ⟨rfl, hb1⟩
        go_wp2_with fail
        go_ret
        exact ⟨rfl, hb1⟩
      · have d1 : (k == 1) = false := by simp [c1]
        have d2 : (k == 2) = false := by simp [c2]
        have d3 : (k == 3) = false := by simp [c3]
        rw [d1, d2, d3]
        go_enter Tryz.func149, Tryz.ntmps149
        go_wp2_with fail
        refine (hc _).mono ?_
        rintro r w1 ⟨rfl, hb1⟩
        go_wp2_with fail
        go_ret
        exact ⟨rfl, hb1⟩
end Go.Proofs.YthjoigkckgdcaaaGreat
namespace Go.Proofs.YthjoigkckgdcaaaGreat
open Go.RowKit
set_option linter.unusedVariables false
set_option linter.unusedSimpArgs false
def shpV (s : Bool) : Value := .agg #[.int .i64 (if s then 32 else 64), .int .i64 (if s then 23 else 52), .int .i64 (if s then -149 else -1074)]
def shpO (s : Bool) : Obj := .cells #[.int .i64 (if s then 32 else 64), .int .i64 (if s then 23 else 52), .int .i64 (if s then -149 else -1074)] 227
theorem shapeOf_ex (f : Int) (w : World) :
    Calls Tryz.prog 236 #[.int .i64 f] w fun e w' => e = .returned (shpV (f == 1)) ∧ ∃ o1, w' = w.alloc o1 := by
  by_cases c : f = 1
  · subst c
    go_enter Tryz.func236, Tryz.ntmps236
    go_wp2_with fail
    exact bodyPost_ret (v := shpV true) (by simp [results, Tryz.results236, go_sem, shpV]) rfl ⟨rfl, _, rfl⟩
  · have c' : (f == 1) = false := by simp [c]
    rw [c']
    go_enter Tryz.func236, Tryz.ntmps236
    go_wp2_with fail
    exact bodyPost_ret (v := shpV false) (by simp [results, Tryz.results236, go_sem, shpV]) rfl ⟨rfl, _, rfl⟩
theorem csign_ex (s : Bool) (w : World) :
    Calls Tryz.prog 237 #[shpV s] w fun e w' => e = .returned (.int .u64 (fS s)) ∧ w' = w.alloc (shpO s) := by
  cases s
  · unfold shpV shpO
    go_enter Tryz.func237, Tryz.ntmps237
    go_wp2_with fail
    go_ret
    exact ⟨rfl, rfl⟩
  · unfold shpV shpO
    go_enter Tryz.func237, Tryz.ntmps237
    go_wp2_with fail
    go_ret
    exact ⟨rfl, rfl⟩
end Go.Proofs.YthjoigkckgdcaaaGreat

