/- The reference's list of signs. -/
import Derived.Test.YtldolcfgfmfiiaaFxR
import Derived.Laws.CopyOwn
namespace Go.Proofs.Ytldolcfgfmfiiaa
open Go.RowKit
set_option linter.unusedVariables false
set_option linter.unusedSimpArgs false
def rSignWs : List (List UInt8) := [[43], [45], [42], [47], [40], [41], [91], [93], [123], [125], [59], [44], [61], [61, 61], [33, 61], [60], [60, 61], [62], [62, 61], [38, 38], [124, 124], [33]]
def rSignC : Array Value := #[.string ⟨#[43]⟩, .string ⟨#[45]⟩, .string ⟨#[42]⟩, .string ⟨#[47]⟩, .string ⟨#[40]⟩, .string ⟨#[41]⟩, .string ⟨#[91]⟩, .string ⟨#[93]⟩, .string ⟨#[123]⟩, .string ⟨#[125]⟩, .string ⟨#[59]⟩, .string ⟨#[44]⟩, .string ⟨#[61]⟩, .string ⟨#[61, 61]⟩, .string ⟨#[33, 61]⟩, .string ⟨#[60]⟩, .string ⟨#[60, 61]⟩, .string ⟨#[62]⟩, .string ⟨#[62, 61]⟩, .string ⟨#[38, 38]⟩, .string ⟨#[124, 124]⟩, .string ⟨#[33]⟩]
theorem rSign_row (m : Nat) (x : List UInt8) (h : rSignWs[m]? = some x) : rSignC[m]? = some (.string ⟨x.toArray⟩) := by
  show ((rSignWs.map (fun x => Value.string ⟨x.toArray⟩)).toArray)[m]? = _
  rw [List.getElem?_toArray, List.getElem?_map, h]
  rfl
set_option maxRecDepth 100000 in
set_option maxHeartbeats 6400000 in
theorem rSign_any (s : ByteArray) (w : World) : Calls Try.prog 33 #[.string s] w fun e w' => e = .returned (.bool (among rSignWs s.toList)) ∧ Below w.heap.size w w' := by
  generalize hR : among rSignWs s.toList = R
  go_enter Try.func33, Try.ntmps33
  iterate 11 go_step
  refine wpList_build rfl 60 _ rfl (by kernel_rfl) ?_
  generalize hV : (Program.built Try.prog 60 _).getD #[] = V
  have hV2 : V = rSignC := hV.symm.trans (by kernel_rfl)
  clear hV
  have HV : Hid _ := hV2
  clear hV2
  iterate 3 go_step
  refine wpList_store_row rfl 60 _ _ rfl w.heap.size V rfl rfl 60 _ (heap_alloc_new w _) (by rw [HV.out]; kernel_rfl) (by rw [HV.out]; rfl) (by rw [HV.out]; kernel_rfl) ?_
  have cells0 := fun m => cell_setRow_same (w.alloc (.cells #[.string ⟨#[]⟩, .string ⟨#[]⟩, .string ⟨#[]⟩, .string ⟨#[]⟩, .string ⟨#[]⟩, .string ⟨#[]⟩, .string ⟨#[]⟩, .string ⟨#[]⟩, .string ⟨#[]⟩, .string ⟨#[]⟩, .string ⟨#[]⟩, .string ⟨#[]⟩, .string ⟨#[]⟩, .string ⟨#[]⟩, .string ⟨#[]⟩, .string ⟨#[]⟩, .string ⟨#[]⟩, .string ⟨#[]⟩, .string ⟨#[]⟩, .string ⟨#[]⟩, .string ⟨#[]⟩, .string ⟨#[]⟩] 60)) w.heap.size m _ V _ _ (heap_alloc_new w _)
  have below0 := below_setRow (below_new (Below.refl _ w) (.cells #[.string ⟨#[]⟩, .string ⟨#[]⟩, .string ⟨#[]⟩, .string ⟨#[]⟩, .string ⟨#[]⟩, .string ⟨#[]⟩, .string ⟨#[]⟩, .string ⟨#[]⟩, .string ⟨#[]⟩, .string ⟨#[]⟩, .string ⟨#[]⟩, .string ⟨#[]⟩, .string ⟨#[]⟩, .string ⟨#[]⟩, .string ⟨#[]⟩, .string ⟨#[]⟩, .string ⟨#[]⟩, .string ⟨#[]⟩, .string ⟨#[]⟩, .string ⟨#[]⟩, .string ⟨#[]⟩, .string ⟨#[]⟩] 60)) (Nat.le_refl w.heap.size) V
  generalize World.setRow (w.alloc (.cells #[.string ⟨#[]⟩, .string ⟨#[]⟩, .string ⟨#[]⟩, .string ⟨#[]⟩, .string ⟨#[]⟩, .string ⟨#[]⟩, .string ⟨#[]⟩, .string ⟨#[]⟩, .string ⟨#[]⟩, .string ⟨#[]⟩, .string ⟨#[]⟩, .string ⟨#[]⟩, .string ⟨#[]⟩, .string ⟨#[]⟩, .string ⟨#[]⟩, .string ⟨#[]⟩, .string ⟨#[]⟩, .string ⟨#[]⟩, .string ⟨#[]⟩, .string ⟨#[]⟩, .string ⟨#[]⟩, .string ⟨#[]⟩] 60)) w.heap.size V = W0 at *
  have C0 : Hid _ := cells0
  clear cells0
  go_wp2_with fail
  go_loopw [4] (fun i wr => ∃ j : Nat, i = .int .i64 j ∧ j ≤ 22 ∧ Hid (among (rSignWs.drop j) s.toList = R) ∧ Below w.heap.size w wr ∧ Hid (∀ m x, rSignWs[m]? = some x → wr.cell? ⟨w.heap.size, m, none⟩ = some (.string ⟨x.toArray⟩))) (fun i _ => 22 - (intOf i).toNat)
  case atStart => exact ⟨0, rfl, by omega, hR, below0, fun m x h => (C0.out m).trans (by rw [HV.out]; exact rSign_row m x h)⟩
  case round =>
    obtain ⟨j, rfl, hj, HR, hb, HC⟩ := hrel
    clear hR
    by_cases c : j < 22
    · have ci : (j : Int) < 22 := by omega
      obtain ⟨x, hx⟩ : ∃ x, rSignWs[j]? = some x := ⟨_, List.getElem?_eq_getElem (show j < rSignWs.length from c)⟩
      have cell := HC.out j x hx
      have hm := ByteArray.toList_mk x
      have dr : rSignWs.drop j = x :: rSignWs.drop (j + 1) := by
        obtain ⟨h1, h2⟩ := List.getElem?_eq_some_iff.mp hx
        rw [List.drop_eq_getElem_cons h1, h2]
      have HR3 : Hid (((s.toList == x) || among (rSignWs.drop (j + 1)) s.toList) = R) := by have := HR.out; rw [dr] at this; exact this
      clear dr HR hx
      cases hc : (s.toList == x)
      · have hd := beq_turn hc
        have HR2 : Hid (among (rSignWs.drop (j + 1)) s.toList = R) := by have := HR3.out; rw [hc, Bool.false_or] at this; exact this
        clear HR3
        rw [← hm] at hd
        generalize ByteArray.mk x.toArray = X at *
        clear hm hc
        go_wp2_with fail
        exact ⟨⟨j + 1, by go_num, by omega, HR2, hb, HC⟩, by simp [intOf]; omega⟩
      · have hd := beq_turn hc
        have HR2 : Hid (R = true) := by have := HR3.out; rw [hc, Bool.true_or] at this; exact this.symm
        clear HR3
        rw [← hm] at hd
        generalize ByteArray.mk x.toArray = X at *
        clear hm hc
        go_wp2_with fail
        go_ret
        exact ⟨by rw [HR2.out]; rfl, hb⟩
    · obtain rfl : j = 22 := by omega
      have HR2 : Hid (R = false) := HR.out.symm
      go_wp2_with fail
      go_ret
      exact ⟨by rw [HR2.out]; rfl, hb⟩
end Go.Proofs.Ytldolcfgfmfiiaa
