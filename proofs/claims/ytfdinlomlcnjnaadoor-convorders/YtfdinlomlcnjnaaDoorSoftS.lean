/- What soft's split answers, and the memory it makes. -/
import Derived.Test.YtfdinlomlcnjnaaDoorSoftI
import Derived.Deep.Draws
namespace Go.Proofs.YtfdinlomlcnjnaaDoor
open Go.RowKit
set_option linter.unusedVariables false
set_option linter.unusedSimpArgs false
set_option maxHeartbeats 1600000 in
theorem splitx_d (a : Int) (h : Word a) (w : World) :
    Calls Tryd.prog 72 #[fmtV false, .int .u64 a] w fun e w' => e = .returned (prtV false a) ∧ ∃ o1 o2 o3 o4 n, w' = ((((w.alloc o1).alloc o2).alloc o3).alloc o4).drewN n := by
  obtain ⟨a0, a1⟩ := id h
  obtain ⟨z0, z1⟩ := zOf_word false a h
  have hz : ∃ z, zOf false a = z := ⟨_, rfl⟩
  obtain ⟨z, hz⟩ := hz
  have hk : ∃ k, cls false a = k := ⟨_, rfl⟩
  obtain ⟨k, hk⟩ := hk
  have hg : ∃ g, sgn false a = g := ⟨_, rfl⟩
  obtain ⟨g, hg⟩ := hg
  have hv : prtV false a = .agg #[.int .i64 k, .bool g, .int .u64 (if 0 < z / 4503599627370496 then a % 4503599627370496 + 4503599627370496 else a % 4503599627370496), .int .i64 (if 0 < z / 4503599627370496 then (-1074) + (z / 4503599627370496 - 1) else (-1074))] := by
    unfold prtV whl pwr; rw [hk, hg, hz]; rfl
  rw [hv]
  rw [hz] at z0 z1
  have n1 : bits BinOp.andNot IntKind.u64 a 9223372036854775808 = z := hz
  have n2 : (bits BinOp.and IntKind.u64 a 9223372036854775808 != 0) = g := hg
  have n3 := and_lowD a h
  have hc := class_any false a h
  rw [hk] at hc
  unfold fmtV at hc ⊢
  unfold fmtO at hc
  clear hk hg hv hz
  go_enter Tryd.func72, Tryd.ntmps72
  go_upto_region 1 with fail
  by_cases cx : 0 < z / 4503599627370496
  · have n4 := or_topD (a % 4503599627370496) (by omega) (by omega)
    go_region_held3 (fun w' => w'.cell? ⟨w.heap.size, 0, none⟩ = some (.int .i64 64) ∧ w'.cell? ⟨w.heap.size, 1, none⟩ = some (.int .i64 52) ∧ w'.cell? ⟨w.heap.size, 2, none⟩ = some (.int .i64 (-1074)) ∧ w'.cell? ⟨w.heap.size, 3, none⟩ = some (.int .u64 9223372036854775808) ∧ w'.cell? ⟨w.heap.size, 4, none⟩ = some (.int .u64 9218868437227405312))
      (simp [go_sem, World.cell?_alloc_past])
      ((go_at_call 88; refine (hc _).mono ?_; rintro e w1 ⟨rfl, rfl⟩))
    all_goals (go_wp2_with fail)
    all_goals (go_region)
    all_goals (go_wp2_with fail)
    all_goals (refine bodyPost_ret (v := .agg #[.int .i64 k, .bool g, .int .u64 (a % 4503599627370496 + 4503599627370496), .int .i64 ((-1074) + (z / 4503599627370496 - 1))]) (by simp [results, Tryd.results72, go_sem]) rfl ⟨rfl, ?_⟩)
    all_goals exact ⟨_, _, _, _, 2, rfl⟩
  · have cz : z / 4503599627370496 = 0 := by omega
    go_region_held3 (fun w' => w'.cell? ⟨w.heap.size, 0, none⟩ = some (.int .i64 64) ∧ w'.cell? ⟨w.heap.size, 1, none⟩ = some (.int .i64 52) ∧ w'.cell? ⟨w.heap.size, 2, none⟩ = some (.int .i64 (-1074)) ∧ w'.cell? ⟨w.heap.size, 3, none⟩ = some (.int .u64 9223372036854775808) ∧ w'.cell? ⟨w.heap.size, 4, none⟩ = some (.int .u64 9218868437227405312))
      (simp [go_sem, World.cell?_alloc_past])
      ((go_at_call 88; refine (hc _).mono ?_; rintro e w1 ⟨rfl, rfl⟩))
    all_goals (go_wp2_with fail)
    all_goals (refine bodyPost_ret (v := .agg #[.int .i64 k, .bool g, .int .u64 (a % 4503599627370496), .int .i64 ((-1074))]) (by simp [results, Tryd.results72, go_sem]) rfl ⟨rfl, ?_⟩)
    all_goals exact ⟨_, _, _, _, 1, rfl⟩

set_option maxHeartbeats 1600000 in
theorem splitx_s (a : Int) (h : Word a) (w : World) :
    Calls Tryd.prog 72 #[fmtV true, .int .u64 a] w fun e w' => e = .returned (prtV true a) ∧ ∃ o1 o2 o3 o4 n, w' = ((((w.alloc o1).alloc o2).alloc o3).alloc o4).drewN n := by
  obtain ⟨a0, a1⟩ := id h
  obtain ⟨z0, z1⟩ := zOf_word true a h
  have hz : ∃ z, zOf true a = z := ⟨_, rfl⟩
  obtain ⟨z, hz⟩ := hz
  have hk : ∃ k, cls true a = k := ⟨_, rfl⟩
  obtain ⟨k, hk⟩ := hk
  have hg : ∃ g, sgn true a = g := ⟨_, rfl⟩
  obtain ⟨g, hg⟩ := hg
  have hv : prtV true a = .agg #[.int .i64 k, .bool g, .int .u64 (if 0 < z / 8388608 then a % 8388608 + 8388608 else a % 8388608), .int .i64 (if 0 < z / 8388608 then (-149) + (z / 8388608 - 1) else (-149))] := by
    unfold prtV whl pwr; rw [hk, hg, hz]; rfl
  rw [hv]
  rw [hz] at z0 z1
  have n1 : bits BinOp.andNot IntKind.u64 a 2147483648 = z := hz
  have n2 : (bits BinOp.and IntKind.u64 a 2147483648 != 0) = g := hg
  have n3 := and_lowS a h
  have hc := class_any true a h
  rw [hk] at hc
  unfold fmtV at hc ⊢
  unfold fmtO at hc
  clear hk hg hv hz
  go_enter Tryd.func72, Tryd.ntmps72
  go_upto_region 1 with fail
  by_cases cx : 0 < z / 8388608
  · have n4 := or_topS (a % 8388608) (by omega) (by omega)
    go_region_held3 (fun w' => w'.cell? ⟨w.heap.size, 0, none⟩ = some (.int .i64 32) ∧ w'.cell? ⟨w.heap.size, 1, none⟩ = some (.int .i64 23) ∧ w'.cell? ⟨w.heap.size, 2, none⟩ = some (.int .i64 (-149)) ∧ w'.cell? ⟨w.heap.size, 3, none⟩ = some (.int .u64 2147483648) ∧ w'.cell? ⟨w.heap.size, 4, none⟩ = some (.int .u64 2139095040))
      (simp [go_sem, World.cell?_alloc_past])
      ((go_at_call 88; refine (hc _).mono ?_; rintro e w1 ⟨rfl, rfl⟩))
    all_goals (go_wp2_with fail)
    all_goals (go_region)
    all_goals (go_wp2_with fail)
    all_goals (refine bodyPost_ret (v := .agg #[.int .i64 k, .bool g, .int .u64 (a % 8388608 + 8388608), .int .i64 ((-149) + (z / 8388608 - 1))]) (by simp [results, Tryd.results72, go_sem]) rfl ⟨rfl, ?_⟩)
    all_goals exact ⟨_, _, _, _, 2, rfl⟩
  · have cz : z / 8388608 = 0 := by omega
    go_region_held3 (fun w' => w'.cell? ⟨w.heap.size, 0, none⟩ = some (.int .i64 32) ∧ w'.cell? ⟨w.heap.size, 1, none⟩ = some (.int .i64 23) ∧ w'.cell? ⟨w.heap.size, 2, none⟩ = some (.int .i64 (-149)) ∧ w'.cell? ⟨w.heap.size, 3, none⟩ = some (.int .u64 2147483648) ∧ w'.cell? ⟨w.heap.size, 4, none⟩ = some (.int .u64 2139095040))
      (simp [go_sem, World.cell?_alloc_past])
      ((go_at_call 88; refine (hc _).mono ?_; rintro e w1 ⟨rfl, rfl⟩))
    all_goals (go_wp2_with fail)
    all_goals (refine bodyPost_ret (v := .agg #[.int .i64 k, .bool g, .int .u64 (a % 8388608), .int .i64 ((-149))]) (by simp [results, Tryd.results72, go_sem]) rfl ⟨rfl, ?_⟩)
    all_goals exact ⟨_, _, _, _, 1, rfl⟩
theorem split_ex (s : Bool) (a : Int) (h : Word a) (w : World) :
    Calls Tryd.prog 72 #[fmtV s, .int .u64 a] w fun e w' => e = .returned (prtV s a) ∧ ∃ o1 o2 o3 o4 n, w' = ((((w.alloc o1).alloc o2).alloc o3).alloc o4).drewN n := by
  cases s
  · exact splitx_d a h w
  · exact splitx_s a h w
theorem below_dN {B : Nat} {a w : World} (h : Below B a w) (n : Nat) : Below B a (w.drewN n) := h.trans ⟨rfl, rfl, rfl, Nat.le_refl _, fun _ _ => rfl⟩
theorem below_four (w : World) (a b c d : Obj) (n : Nat) : Below w.heap.size w (((((w.alloc a).alloc b).alloc c).alloc d).drewN n) :=
  below_dN ((below_three w a b c).alloc (by simp; omega) d) n
theorem formatOf_ex (f : Int) (w : World) :
    Calls Tryd.prog 69 #[.int .i64 f] w fun e w' => e = .returned (fmtV (f == 1)) ∧ ∃ o1 o2, w' = ((w.alloc o1).alloc o2).drew := by
  by_cases c : f = 1
  · subst c
    go_enter Tryd.func69, Tryd.ntmps69
    go_wp2_with fail
    go_region
    go_wp2_with fail
    exact bodyPost_ret (v := fmtV true) (by simp [results, Tryd.results69, go_sem, fmtV]) rfl ⟨rfl, _, _, rfl⟩
  · have c' : (f == 1) = false := by simp [c]
    rw [c']
    go_enter Tryd.func69, Tryd.ntmps69
    go_wp2_with fail
    go_region
    go_wp2_with fail
    exact bodyPost_ret (v := fmtV false) (by simp [results, Tryd.results69, go_sem, fmtV]) rfl ⟨rfl, _, _, rfl⟩
theorem nan_ex (s : Bool) (w : World) : Calls Tryd.prog 70 #[fmtV s] w fun e w' => e = .returned (.int .u64 (fNan s)) ∧ w' = (w.alloc (fmtO s)).drew := by
  have o1 := or_nanD
  have o2 := or_nanS
  cases s
  · unfold fmtV fmtO
    go_enter Tryd.func70, Tryd.ntmps70
    go_wp2_with fail
    go_region
    go_wp2_with fail
    go_ret
    exact ⟨rfl, rfl⟩
  · unfold fmtV fmtO
    go_enter Tryd.func70, Tryd.ntmps70
    go_wp2_with fail
    go_region
    go_wp2_with fail
    go_ret
    exact ⟨rfl, rfl⟩
end Go.Proofs.YtfdinlomlcnjnaaDoor

