/- What conv's shapeOf, sign and split answer, and the memory that they make. -/
import Derived.Test.YtfdinlomlcnjnaaDoorSoftO
import Derived.Deep.Draws
namespace Go.Proofs.YtfdinlomlcnjnaaDoor
open Go.RowKit
set_option linter.unusedVariables false
set_option linter.unusedSimpArgs false
/-- How a format lays out its bits. -/
def shpV (s : Bool) : Value := .agg #[.int .i64 (if s then 32 else 64), .int .i64 (if s then 23 else 52), .int .i64 (if s then -149 else -1074)]
def shpO (s : Bool) : Obj := .cells #[.int .i64 (if s then 32 else 64), .int .i64 (if s then 23 else 52), .int .i64 (if s then -149 else -1074)] 79
theorem shapeOf_ex (f : Int) (w : World) :
    Calls Tryd.prog 58 #[.int .i64 f] w fun e w' => e = .returned (shpV (f == 1)) ∧ ∃ o1, w' = w.alloc o1 := by
  by_cases c : f = 1
  · subst c
    go_enter Tryd.func58, Tryd.ntmps58
    go_wp2_with fail
    exact bodyPost_ret (v := shpV true) (by simp [results, Tryd.results58, go_sem, shpV]) rfl ⟨rfl, _, rfl⟩
  · have c' : (f == 1) = false := by simp [c]
    rw [c']
    go_enter Tryd.func58, Tryd.ntmps58
    go_wp2_with fail
    exact bodyPost_ret (v := shpV false) (by simp [results, Tryd.results58, go_sem, shpV]) rfl ⟨rfl, _, rfl⟩
theorem csign_ex (s : Bool) (w : World) :
    Calls Tryd.prog 59 #[shpV s] w fun e w' => e = .returned (.int .u64 (fS s)) ∧ w' = w.alloc (shpO s) := by
  cases s
  · unfold shpV shpO
    go_enter Tryd.func59, Tryd.ntmps59
    go_wp2_with fail
    go_ret
    exact ⟨rfl, rfl⟩
  · unfold shpV shpO
    go_enter Tryd.func59, Tryd.ntmps59
    go_wp2_with fail
    go_ret
    exact ⟨rfl, rfl⟩
/-- A float taken apart. -/
def cprtV (s : Bool) (a : Int) : Value := .agg #[.bool (sgn s a), .int .u64 (whl s a), .int .i64 (pwr s a)]
set_option maxHeartbeats 1600000 in
theorem csplit_d (f a : Int) (hf : (f == 1) = false) (h : Word a) (w : World) :
    Calls Tryd.prog 43 #[.int .i64 f, .int .u64 a] w fun e w' => e = .returned (cprtV false a) ∧ ∃ o1 o2 o3 o4 o5 o6 n, w' = ((((((w.alloc o1).alloc o2).alloc o3).alloc o4).alloc o5).alloc o6).drewN n := by
  obtain ⟨a0, a1⟩ := id h
  obtain ⟨z0, z1⟩ := zOf_word false a h
  obtain ⟨z, hz⟩ : ∃ z, zOf false a = z := ⟨_, rfl⟩
  obtain ⟨g, hg⟩ : ∃ g, sgn false a = g := ⟨_, rfl⟩
  have hv : cprtV false a = .agg #[.bool g, .int .u64 (if 0 < z / 4503599627370496 then a % 4503599627370496 + 4503599627370496 else a % 4503599627370496), .int .i64 (if 0 < z / 4503599627370496 then (-1074) + (z / 4503599627370496 - 1) else (-1074))] := by
    unfold cprtV whl pwr; rw [hg, hz]; rfl
  rw [hv]
  rw [hz] at z0 z1
  have n1 : bits BinOp.andNot IntKind.u64 a 9223372036854775808 = z := hz
  have n2 : (bits BinOp.and IntKind.u64 a 9223372036854775808 != 0) = g := hg
  have n3 := and_lowD a h
  have hso := shapeOf_ex f
  rw [hf] at hso
  have hsg : ∀ w, Calls Tryd.prog 59 #[.agg #[.int .i64 64, .int .i64 52, .int .i64 (-1074)]] w fun e w' => e = .returned (.int .u64 9223372036854775808) ∧ w' = w.alloc (.cells #[.int .i64 64, .int .i64 52, .int .i64 (-1074)] 79) := csign_ex false
  have hso' : ∀ w, Calls Tryd.prog 58 #[.int .i64 f] w fun e w' => e = .returned (.agg #[.int .i64 64, .int .i64 52, .int .i64 (-1074)]) ∧ ∃ o1, w' = w.alloc o1 := hso
  clear hg hv hz hso hf
  go_enter Tryd.func43, Tryd.ntmps43
  go_upto_region 2 with (go_at_call 58; refine (hso' _).mono ?_; rintro e w1 ⟨rfl, o1, rfl⟩)
  by_cases cx : 0 < z / 4503599627370496
  · have n4 := or_topD (a % 4503599627370496) (by omega) (by omega)
    go_region_held3 (fun w' => w'.cell? ⟨w.heap.size + 1 + 1, 0, none⟩ = some (.int .i64 64) ∧ w'.cell? ⟨w.heap.size + 1 + 1, 1, none⟩ = some (.int .i64 52) ∧ w'.cell? ⟨w.heap.size + 1 + 1, 2, none⟩ = some (.int .i64 (-1074)))
      (simp [go_sem, World.cell?_alloc_past])
      ((go_at_call 59; refine (hsg _).mono ?_; rintro e w1 ⟨rfl, rfl⟩))
    all_goals (go_wp2_with fail)
    all_goals (go_region_held3 (fun w' => w'.cell? ⟨w.heap.size + 1 + 1, 0, none⟩ = some (.int .i64 64) ∧ w'.cell? ⟨w.heap.size + 1 + 1, 1, none⟩ = some (.int .i64 52) ∧ w'.cell? ⟨w.heap.size + 1 + 1, 2, none⟩ = some (.int .i64 (-1074)))
      (simp [go_sem, World.cell?_alloc_past])
      ((go_at_call 59; refine (hsg _).mono ?_; rintro e w1 ⟨rfl, rfl⟩)))
    all_goals (go_wp2_with fail)
    all_goals (go_region)
    all_goals (go_wp2_with fail)
    all_goals (refine bodyPost_ret (v := .agg #[.bool g, .int .u64 (a % 4503599627370496 + 4503599627370496), .int .i64 ((-1074) + (z / 4503599627370496 - 1))]) (by simp [results, Tryd.results43, go_sem]) rfl ⟨rfl, ?_⟩)
    all_goals exact ⟨_, _, _, _, _, _, 3, rfl⟩
  · have cz : z / 4503599627370496 = 0 := by omega
    go_region_held3 (fun w' => w'.cell? ⟨w.heap.size + 1 + 1, 0, none⟩ = some (.int .i64 64) ∧ w'.cell? ⟨w.heap.size + 1 + 1, 1, none⟩ = some (.int .i64 52) ∧ w'.cell? ⟨w.heap.size + 1 + 1, 2, none⟩ = some (.int .i64 (-1074)))
      (simp [go_sem, World.cell?_alloc_past])
      ((go_at_call 59; refine (hsg _).mono ?_; rintro e w1 ⟨rfl, rfl⟩))
    all_goals (go_wp2_with fail)
    all_goals (go_region_held3 (fun w' => w'.cell? ⟨w.heap.size + 1 + 1, 0, none⟩ = some (.int .i64 64) ∧ w'.cell? ⟨w.heap.size + 1 + 1, 1, none⟩ = some (.int .i64 52) ∧ w'.cell? ⟨w.heap.size + 1 + 1, 2, none⟩ = some (.int .i64 (-1074)))
      (simp [go_sem, World.cell?_alloc_past])
      ((go_at_call 59; refine (hsg _).mono ?_; rintro e w1 ⟨rfl, rfl⟩)))
    all_goals (go_wp2_with fail)
    all_goals (refine bodyPost_ret (v := .agg #[.bool g, .int .u64 (a % 4503599627370496), .int .i64 (-1074)]) (by simp [results, Tryd.results43, go_sem]) rfl ⟨rfl, ?_⟩)
    all_goals exact ⟨_, _, _, _, _, _, 2, rfl⟩
set_option maxHeartbeats 1600000 in
theorem csplit_s (f a : Int) (hf : (f == 1) = true) (h : Word a) (w : World) :
    Calls Tryd.prog 43 #[.int .i64 f, .int .u64 a] w fun e w' => e = .returned (cprtV true a) ∧ ∃ o1 o2 o3 o4 o5 o6 n, w' = ((((((w.alloc o1).alloc o2).alloc o3).alloc o4).alloc o5).alloc o6).drewN n := by
  obtain ⟨a0, a1⟩ := id h
  obtain ⟨z0, z1⟩ := zOf_word true a h
  obtain ⟨z, hz⟩ : ∃ z, zOf true a = z := ⟨_, rfl⟩
  obtain ⟨g, hg⟩ : ∃ g, sgn true a = g := ⟨_, rfl⟩
  have hv : cprtV true a = .agg #[.bool g, .int .u64 (if 0 < z / 8388608 then a % 8388608 + 8388608 else a % 8388608), .int .i64 (if 0 < z / 8388608 then (-149) + (z / 8388608 - 1) else (-149))] := by
    unfold cprtV whl pwr; rw [hg, hz]; rfl
  rw [hv]
  rw [hz] at z0 z1
  have n1 : bits BinOp.andNot IntKind.u64 a 2147483648 = z := hz
  have n2 : (bits BinOp.and IntKind.u64 a 2147483648 != 0) = g := hg
  have n3 := and_lowS a h
  have hso := shapeOf_ex f
  rw [hf] at hso
  have hsg : ∀ w, Calls Tryd.prog 59 #[.agg #[.int .i64 32, .int .i64 23, .int .i64 (-149)]] w fun e w' => e = .returned (.int .u64 2147483648) ∧ w' = w.alloc (.cells #[.int .i64 32, .int .i64 23, .int .i64 (-149)] 79) := csign_ex true
  have hso' : ∀ w, Calls Tryd.prog 58 #[.int .i64 f] w fun e w' => e = .returned (.agg #[.int .i64 32, .int .i64 23, .int .i64 (-149)]) ∧ ∃ o1, w' = w.alloc o1 := hso
  clear hg hv hz hso hf
  go_enter Tryd.func43, Tryd.ntmps43
  go_upto_region 2 with (go_at_call 58; refine (hso' _).mono ?_; rintro e w1 ⟨rfl, o1, rfl⟩)
  by_cases cx : 0 < z / 8388608
  · have n4 := or_topS (a % 8388608) (by omega) (by omega)
    go_region_held3 (fun w' => w'.cell? ⟨w.heap.size + 1 + 1, 0, none⟩ = some (.int .i64 32) ∧ w'.cell? ⟨w.heap.size + 1 + 1, 1, none⟩ = some (.int .i64 23) ∧ w'.cell? ⟨w.heap.size + 1 + 1, 2, none⟩ = some (.int .i64 (-149)))
      (simp [go_sem, World.cell?_alloc_past])
      ((go_at_call 59; refine (hsg _).mono ?_; rintro e w1 ⟨rfl, rfl⟩))
    all_goals (go_wp2_with fail)
    all_goals (go_region_held3 (fun w' => w'.cell? ⟨w.heap.size + 1 + 1, 0, none⟩ = some (.int .i64 32) ∧ w'.cell? ⟨w.heap.size + 1 + 1, 1, none⟩ = some (.int .i64 23) ∧ w'.cell? ⟨w.heap.size + 1 + 1, 2, none⟩ = some (.int .i64 (-149)))
      (simp [go_sem, World.cell?_alloc_past])
      ((go_at_call 59; refine (hsg _).mono ?_; rintro e w1 ⟨rfl, rfl⟩)))
    all_goals (go_wp2_with fail)
    all_goals (go_region)
    all_goals (go_wp2_with fail)
    all_goals (refine bodyPost_ret (v := .agg #[.bool g, .int .u64 (a % 8388608 + 8388608), .int .i64 ((-149) + (z / 8388608 - 1))]) (by simp [results, Tryd.results43, go_sem]) rfl ⟨rfl, ?_⟩)
    all_goals exact ⟨_, _, _, _, _, _, 3, rfl⟩
  · have cz : z / 8388608 = 0 := by omega
    go_region_held3 (fun w' => w'.cell? ⟨w.heap.size + 1 + 1, 0, none⟩ = some (.int .i64 32) ∧ w'.cell? ⟨w.heap.size + 1 + 1, 1, none⟩ = some (.int .i64 23) ∧ w'.cell? ⟨w.heap.size + 1 + 1, 2, none⟩ = some (.int .i64 (-149)))
      (simp [go_sem, World.cell?_alloc_past])
      ((go_at_call 59; refine (hsg _).mono ?_; rintro e w1 ⟨rfl, rfl⟩))
    all_goals (go_wp2_with fail)
    all_goals (go_region_held3 (fun w' => w'.cell? ⟨w.heap.size + 1 + 1, 0, none⟩ = some (.int .i64 32) ∧ w'.cell? ⟨w.heap.size + 1 + 1, 1, none⟩ = some (.int .i64 23) ∧ w'.cell? ⟨w.heap.size + 1 + 1, 2, none⟩ = some (.int .i64 (-149)))
      (simp [go_sem, World.cell?_alloc_past])
      ((go_at_call 59; refine (hsg _).mono ?_; rintro e w1 ⟨rfl, rfl⟩)))
    all_goals (go_wp2_with fail)
    all_goals (refine bodyPost_ret (v := .agg #[.bool g, .int .u64 (a % 8388608), .int .i64 (-149)]) (by simp [results, Tryd.results43, go_sem]) rfl ⟨rfl, ?_⟩)
    all_goals exact ⟨_, _, _, _, _, _, 2, rfl⟩
theorem csplit_ex (f a : Int) (h : Word a) (w : World) :
    Calls Tryd.prog 43 #[.int .i64 f, .int .u64 a] w fun e w' => e = .returned (cprtV (f == 1) a) ∧ ∃ o1 o2 o3 o4 o5 o6 n, w' = ((((((w.alloc o1).alloc o2).alloc o3).alloc o4).alloc o5).alloc o6).drewN n := by
  cases c : (f == 1)
  · exact csplit_d f a c h w
  · exact csplit_s f a c h w
theorem below_six (w : World) (a b c d e f : Obj) (n : Nat) : Below w.heap.size w (((((((w.alloc a).alloc b).alloc c).alloc d).alloc e).alloc f).drewN n) :=
  below_dN (below_new (below_new (below_new (below_three w a b c) d) e) f) n
end Go.Proofs.YtfdinlomlcnjnaaDoor

