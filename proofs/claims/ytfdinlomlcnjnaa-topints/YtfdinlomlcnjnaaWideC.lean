/- What wide.words and wide.Compare answer. -/
import Derived.Test.YtfdinlomlcnjnaaWideB
import Derived.BigQuiet
import Derived.Deep.QuietTactic
import Derived.Deep.DeepCutAuto
namespace Go.Proofs.Ytfdinlomlcnjnaa
open Go.RowKit
set_option linter.unusedVariables false

theorem words_any (h l : Int) (w : World) :
    Calls Try.prog 68 #[.agg #[.int .u64 h, .int .u64 l]] w fun e w' => e = .returned (.agg #[.int .u64 h, .int .u64 l]) ∧ w' = (w.alloc (.cells #[.int .u64 h, .int .u64 l] 63)).alloc (.cells #[.int .u64 h, .int .u64 l] 100) := by
  go_enter Try.func68, Try.ntmps68
  go_wp2
  refine bodyPost_ret (v := .agg #[.int .u64 h, .int .u64 l]) (by simp [results, Try.results68, go_sem]) rfl ?_
  exact ⟨rfl, rfl⟩

/-- Which of two numbers is greater. -/
def cmpN (a b : Int) : Int := if a < b then -1 else if b < a then 1 else 0
theorem cmpN_lt {a b : Int} (h : a < b) : -1 = cmpN a b := by unfold cmpN; rw [if_pos h]
theorem cmpN_gt {a b : Int} (h : b < a) : 1 = cmpN a b := by unfold cmpN; rw [if_neg (by omega), if_pos h]
theorem cmpN_eq {a b : Int} (h : a = b) : 0 = cmpN a b := by unfold cmpN; rw [if_neg (by omega), if_neg (by omega)]
set_option maxHeartbeats 1600000 in
theorem cmp_any (ah al bh bl : Int) (h1 : Word ah) (h2 : Word al) (h3 : Word bh) (h4 : Word bl) (w : World) :
    Calls Try.prog 50 #[.agg #[.int .u64 ah, .int .u64 al], .agg #[.int .u64 bh, .int .u64 bl]] w fun e w' =>
      ∃ n : Int, e = .returned (.int .i64 n) ∧ Hid (n = cmpN (num ah al) (num bh bl)) ∧ Below w.heap.size w w' := by
  go_enter Try.func50, Try.ntmps50
  go_upto_region 1 with fail
  go_cut [5, 6] from 8 to 11 (fun p q wx => ∃ b c : Nat, p = .pointer (some ⟨b, 0, none⟩) ∧ q = .pointer (some ⟨c, 0, none⟩) ∧ wx.cell? ⟨b, 0, none⟩ = some (.int .u64 ah) ∧ wx.cell? ⟨b, 1, none⟩ = some (.int .u64 al) ∧ wx.cell? ⟨c, 0, none⟩ = some (.int .u64 bh) ∧ wx.cell? ⟨c, 1, none⟩ = some (.int .u64 bl) ∧ Below w.heap.size w wx)
  case first =>
    go_region_held3 (fun w' => w'.cell? ⟨w.heap.size, 0, none⟩ = some (.int .u64 ah) ∧ w'.cell? ⟨w.heap.size, 1, none⟩ = some (.int .u64 al) ∧ w'.cell? ⟨w.heap.size + 1, 0, none⟩ = some (.int .u64 bh) ∧ w'.cell? ⟨w.heap.size + 1, 1, none⟩ = some (.int .u64 bl))
      (simp [go_sem, World.cell?_alloc_past])
      ((go_at_call 68; refine (words_any _ _ _).mono ?_; rintro e w1 ⟨rfl, rfl⟩))
    all_goals (go_wp2_with fail; go_meet)
    all_goals exact ⟨_, _, rfl, rfl, by simp [go_sem, World.cell?_alloc_past], by simp [go_sem, World.cell?_alloc_past], by simp [go_sem, World.cell?_alloc_past], by simp [go_sem, World.cell?_alloc_past], by repeat (first | exact Below.refl _ _ | refine Below.drew ?_ | refine Below.alloc ?_ (by simp; omega) _ | refine Below.alloc ?_ (by simp) _)⟩
  case rest =>
    obtain ⟨b, c, rfl, rfl, f0, f1, g0, g1, hb0⟩ := hcut
    go_wp2
    go_loopw [12] (fun i wr => ∃ k : Nat, k ≤ 2 ∧ i = .int .i64 k ∧ Hid (1 ≤ k → ah = bh) ∧ Hid (2 ≤ k → al = bl) ∧ wr.cell? ⟨b, 0, none⟩ = some (.int .u64 ah) ∧ wr.cell? ⟨b, 1, none⟩ = some (.int .u64 al) ∧ wr.cell? ⟨c, 0, none⟩ = some (.int .u64 bh) ∧ wr.cell? ⟨c, 1, none⟩ = some (.int .u64 bl) ∧ Below w.heap.size w wr) (fun i _ => 2 - (intOf i).toNat)
    case atStart => exact ⟨0, by omega, rfl, fun h => by omega, fun h => by omega, f0, f1, g0, g1, hb0⟩
    case round =>
      obtain ⟨k, hk, rfl, E1, E2, c0, c1, d0, d1, hb⟩ := hrel
      have hk3 : k = 0 ∨ k = 1 ∨ k = 2 := by omega
      rcases hk3 with rfl | rfl | rfl
      · by_cases l1 : ah < bh
        · go_wp2
          go_region
          go_wp2
          go_ret
          exact ⟨_, rfl, cmpN_lt (by unfold num Word at *; omega), hb.drew⟩
        · by_cases l2 : bh < ah
          · go_wp2
            go_region
            go_wp2
            go_region
            go_wp2
            go_ret
            exact ⟨_, rfl, cmpN_gt (by unfold num Word at *; omega), hb.drew.drew⟩
          · go_wp2
            go_region
            go_wp2
            go_region
            go_wp2
            go_roundw
            case rel => exact ⟨1, by omega, by go_num, fun _ => by omega, fun h => by omega, c0, c1, d0, d1, hb.drew.drew⟩
            case measure => simp [intOf]
      · have e1 := E1.out (by omega)
        have E3 : Hid (ah = bh) := e1
        clear e1
        by_cases l1 : al < bl
        · go_wp2
          go_region
          go_wp2
          go_ret
          exact ⟨_, rfl, cmpN_lt (by have := E3.out; unfold num Word at *; omega), hb.drew⟩
        · by_cases l2 : bl < al
          · go_wp2
            go_region
            go_wp2
            go_region
            go_wp2
            go_ret
            exact ⟨_, rfl, cmpN_gt (by have := E3.out; unfold num Word at *; omega), hb.drew.drew⟩
          · go_wp2
            go_region
            go_wp2
            go_region
            go_wp2
            go_roundw
            case rel => exact ⟨2, by omega, by go_num, fun _ => E3.out, fun h => by omega, c0, c1, d0, d1, hb.drew.drew⟩
            case measure => simp [intOf]
      · have e1 := E1.out (by omega)
        have e2 := E2.out (by omega)
        have E3 : Hid (ah = bh) := e1
        have E4 : Hid (al = bl) := e2
        clear e1 e2
        go_wp2
        go_ret
        exact ⟨_, rfl, cmpN_eq (by rw [E3.out, E4.out]), hb⟩
end Go.Proofs.Ytfdinlomlcnjnaa
