/- The reference's words, names and small tests of bytes. -/
import Derived.Test.YtknoibocpbfmmaaGreatDoorFxL
import Derived.Laws.Tables
namespace Go.Proofs.YtknoibocpbfmmaaGreatDoor
open Go.RowKit
set_option linter.unusedVariables false
set_option linter.unusedSimpArgs false
/-- Is a list one of these? -/
def among (ws : List (List UInt8)) (l : List UInt8) : Bool := ws.any (fun x => l == x)
theorem beq_turn {a b : List UInt8} {x : Bool} (h : (a == b) = x) : (b == a) = x := by
  cases x
  · rw [beq_eq_false_iff_ne] at h ⊢; exact Ne.symm h
  · rw [beq_iff_eq] at h ⊢; exact h.symm
def rWordWs : List (List UInt8) := [[105, 110, 116], [102, 108, 111, 97, 116], [100, 111, 117, 98, 108, 101], [105, 102], [101, 108, 115, 101], [119, 104, 105, 108, 101], [114, 101, 97, 100], [105, 110], [115, 113, 114, 116], [97, 98, 115]]
theorem rWord_row (w : World) (t : TypeId) (m : Nat) (x : List UInt8) (h : rWordWs[m]? = some x) : (w.alloc (.cells #[.string ⟨#[105, 110, 116]⟩, .string ⟨#[102, 108, 111, 97, 116]⟩, .string ⟨#[100, 111, 117, 98, 108, 101]⟩, .string ⟨#[105, 102]⟩, .string ⟨#[101, 108, 115, 101]⟩, .string ⟨#[119, 104, 105, 108, 101]⟩, .string ⟨#[114, 101, 97, 100]⟩, .string ⟨#[105, 110]⟩, .string ⟨#[115, 113, 114, 116]⟩, .string ⟨#[97, 98, 115]⟩] t)).cell? ⟨w.heap.size, m, none⟩ = some (.string ⟨x.toArray⟩) := by
  rw [cell_of_row _ w.heap.size m _ t _ (heap_alloc_new w _)]
  show ((rWordWs.map (fun x => Value.string ⟨x.toArray⟩)).toArray)[m]? = _
  rw [List.getElem?_toArray, List.getElem?_map, h]
  rfl
set_option maxRecDepth 100000 in
set_option maxHeartbeats 6400000 in
theorem rWord_any (s : ByteArray) (w : World) : Calls Tryz.prog 44 #[.string s] w fun e w' => e = .returned (.bool (among rWordWs s.toList)) ∧ Below w.heap.size w w' := by
  generalize hR : among rWordWs s.toList = R
  go_enter Tryz.func44, Tryz.ntmps44
  go_wp2_with fail
  go_loopw [4] (fun i wr => ∃ j : Nat, i = .int .i64 j ∧ j ≤ 10 ∧ Hid (among (rWordWs.drop j) s.toList = R) ∧ Below w.heap.size w wr ∧ Hid (∀ m x, rWordWs[m]? = some x → wr.cell? ⟨w.heap.size, m, none⟩ = some (.string ⟨x.toArray⟩))) (fun i _ => 10 - (intOf i).toNat)
  case atStart => exact ⟨0, rfl, by omega, hR, fx_below_new (Below.refl _ _) _, fun m x h => rWord_row w _ m x h⟩
  case round =>
    obtain ⟨j, rfl, hj, HR, hb, HC⟩ := hrel
    clear hR
    generalize Value.agg #[Value.string ⟨#[105, 110, 116]⟩, Value.string ⟨#[102, 108, 111, 97, 116]⟩, Value.string ⟨#[100, 111, 117, 98, 108, 101]⟩, Value.string ⟨#[105, 102]⟩, Value.string ⟨#[101, 108, 115, 101]⟩, Value.string ⟨#[119, 104, 105, 108, 101]⟩, Value.string ⟨#[114, 101, 97, 100]⟩, Value.string ⟨#[105, 110]⟩, Value.string ⟨#[115, 113, 114, 116]⟩, Value.string ⟨#[97, 98, 115]⟩] = V
    by_cases c : j < 10
    · have ci : (j : Int) < 10 := by omega
      obtain ⟨x, hx⟩ : ∃ x, rWordWs[j]? = some x := ⟨_, List.getElem?_eq_getElem (show j < rWordWs.length from c)⟩
      have cell := HC.out j x hx
      have hm := ByteArray.toList_mk x
      have dr : rWordWs.drop j = x :: rWordWs.drop (j + 1) := by
        obtain ⟨h1, h2⟩ := List.getElem?_eq_some_iff.mp hx
        rw [List.drop_eq_getElem_cons h1, h2]
      have HR3 : Hid (((s.toList == x) || among (rWordWs.drop (j + 1)) s.toList) = R) := by have := HR.out; rw [dr] at this; exact this
      clear dr HR hx
      cases hc : (s.toList == x)
      · have hd := beq_turn hc
        have HR2 : Hid (among (rWordWs.drop (j + 1)) s.toList = R) := by have := HR3.out; rw [hc, Bool.false_or] at this; exact this
        clear HR3
        rw [← hm] at hd
        generalize ByteArray.mk x.toArray = X at *
        clear hm hc
        go_wp2_with fail
        exact ⟨⟨j + 1, by go_num, by omega, HR2, hb, HC⟩, by simp [intOf]; omega⟩
      · have hd := beq_turn hc
        have HR2 : Hid (R = true) := by have := HR3.out; rw [hc, Bool.true_or] at this; exact this.symm
        clear HR3
        rw [← hm] at hd
        generalize ByteArray.mk x.toArray = X at *
        clear hm hc
        go_wp2_with fail
        go_ret
        exact ⟨by rw [HR2.out]; rfl, hb⟩
    · obtain rfl : j = 10 := by omega
      have HR2 : Hid (R = false) := HR.out.symm
      go_wp2_with fail
      go_ret
      exact ⟨by rw [HR2.out]; rfl, hb⟩
theorem isW_among (l : List UInt8) : among rWordWs l = isW l := by
  unfold among rWordWs isW
  simp only [List.any_cons, List.any_nil, Bool.or_false]
end Go.Proofs.YtknoibocpbfmmaaGreatDoor

