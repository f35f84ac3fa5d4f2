/- plumblinelaw04's same: two slices of tokens that are alike. -/
import Derived.Test.YtldolcfgfmfiiaaFxPl
namespace Go.Proofs.Ytldolcfgfmfiiaa
open Go.RowKit
set_option linter.unusedVariables false
set_option linter.unusedSimpArgs false
set_option maxRecDepth 1000000 in
set_option maxHeartbeats 3200000 in
theorem same_any (s1 s2 : ByteArray) (t1 t2 : List (Nat × Nat × Nat)) (v1 v2 : Value) (P : Bool) (B1 B2 : Nat) (w : World) (hl : t2.length = t1.length) (hn : t1.length ≤ 2048)
    (o1 : w.ownsRow B1 34 3 v1 t1.length (tcells s1 t1)) (o2 : w.ownsRow B2 34 3 v2 t1.length (tcells s2 t2))
    (hs : ∀ i k p n k' p' n' : Nat, t1[i]? = some (k, p, n) → t2[i]? = some (k', p', n') → k = k' ∧ (s1.extract p (p + n)).toList = (s2.extract p' (p' + n')).toList ∧ (P = true → p = p')) :
    Calls Try.prog 13 #[v1, v2, .bool P] w fun e w' => e = .returned (.bool true) ∧ Below w.heap.size w w' := by
  by_cases h0 : t1.length = 0
  · rw [h0] at o1 o2
    obtain ⟨q1, cap1, rfl⟩ := own_shape o1
    obtain ⟨q2, cap2, rfl⟩ := own_shape o2
    clear o1 o2 hs
    go_enter Try.func13, Try.ntmps13
    go_wp2_with fail
    go_loopw [7] (fun i wr => i = .int .i64 0 ∧ wr = w) (fun i _ => 0)
    case atStart => exact ⟨rfl, rfl⟩
    case round =>
      obtain ⟨rfl, rfl⟩ := hrel
      go_wp2_with fail
      go_ret
      exact ⟨rfl, Below.refl _ _⟩
  · obtain ⟨g1, cap1, rfl, -, m1, -, x1⟩ := own_cells o1 h0
    obtain ⟨g2, cap2, rfl, -, m2, -, x2⟩ := own_cells o2 h0
    have tn : (t1.length : Int) ≤ 2048 := by omega
    clear o1 o2
    go_enter Try.func13, Try.ntmps13
    go_wp2_with fail
    go_loopw [7] (fun i wr => ∃ j : Nat, i = .int .i64 j ∧ j ≤ t1.length ∧ Below w.heap.size w wr) (fun i _ => t1.length - (intOf i).toNat)
    case atStart => exact ⟨0, rfl, by omega, Below.refl _ _⟩
    case round =>
      obtain ⟨j, rfl, hj, hb⟩ := hrel
      by_cases c : j < t1.length
      · have ci : (j : Int) < (t1.length : Int) := by omega
        obtain ⟨⟨k, p, n⟩, e1⟩ : ∃ x, t1[j]? = some x := ⟨_, List.getElem?_eq_getElem c⟩
        obtain ⟨⟨k', p', n'⟩, e2⟩ : ∃ x, t2[j]? = some x := ⟨_, List.getElem?_eq_getElem (by omega)⟩
        obtain ⟨a1, a2, a3⟩ := tcells_at s1 e1
        obtain ⟨b1, b2, b3⟩ := tcells_at s2 e2
        obtain ⟨rfl, hT, hP⟩ := hs j _ _ _ _ _ _ e1 e2
        have y1 := cell_on hb (x1 _ _ a1)
        have y2 := cell_on hb (x1 _ _ a2)
        have y3 := cell_on hb (x1 _ _ a3)
        have z1 := cell_on hb (x2 _ _ b1)
        have z2 := cell_on hb (x2 _ _ b2)
        have z3 := cell_on hb (x2 _ _ b3)
        clear a1 a2 a3 b1 b2 b3 e1 e2 hs x1 x2
        generalize s1.extract p (p + n) = T at *
        generalize s2.extract p' (p' + n') = T' at *
        have te : (T.toList == T'.toList) = true := by rw [hT]; exact beq_self_eq_true _
        have ke : ((k : Int) == (k : Int)) = true := beq_self_eq_true _
        cases P
        · clear hP hT
          go_wp2_with fail
          go_quiet (fail)
          go_wp2_with fail
          exact ⟨⟨j + 1, by go_num, by omega, below_dN hb _⟩, by simp [intOf]; omega⟩
        · obtain rfl := hP rfl
          clear hP hT
          have pe : ((p : Int) == (p : Int)) = true := beq_self_eq_true _
          go_wp2_with fail
          go_quiet (fail)
          go_wp2_with fail
          exact ⟨⟨j + 1, by go_num, by omega, below_dN hb _⟩, by simp [intOf]; omega⟩
      · have ci : ¬ (j : Int) < (t1.length : Int) := by omega
        go_wp2_with fail
        go_ret
        exact ⟨rfl, hb⟩
end Go.Proofs.Ytldolcfgfmfiiaa
