/- OctagonNone: the law. -/
import Derived.Test.YtdfbmafeemflaaaOcO
namespace Go.Proofs.Ytdfbmafeemflaaa
open Go.RowKit
set_option linter.unusedVariables false
set_option linter.unusedSimpArgs false
set_option maxRecDepth 100000 in
set_option maxHeartbeats 3200000 in
theorem none_walk (kd i k : Int) (ni nk : Bool) (c : Int) (e : Bool) (lo hh n : Int) (a : Option Addr) (hc : (a = none ∧ n < 1) ∨ (a = none ∧ ¬ n < 1 ∧ 8 < n) ∨ (∃ b, a = some ⟨b, 0, none⟩ ∧ ¬ n < 1 ∧ ¬ 8 < n)) (w : World)
    (kp : Calls Try.prog 6 #[.int .i64 n] (w.alloc (.cells #[.int .i64 kd, .int .i64 i, .int .i64 k, .bool ni, .bool nk, .int .i64 c, .bool e, .int .i64 lo, .int .i64 hh] 25)) fun r w' => r = .returned (.pointer a) ∧ Below (w.alloc (.cells #[.int .i64 kd, .int .i64 i, .int .i64 k, .bool ni, .bool nk, .int .i64 c, .bool e, .int .i64 lo, .int .i64 hh] 25)).heap.size (w.alloc (.cells #[.int .i64 kd, .int .i64 i, .int .i64 k, .bool ni, .bool nk, .int .i64 c, .bool e, .int .i64 lo, .int .i64 hh] 25)) w') :
    Calls Try.prog 3 #[.agg #[.int .i64 kd, .int .i64 i, .int .i64 k, .bool ni, .bool nk, .int .i64 c, .bool e, .int .i64 lo, .int .i64 hh], .int .i64 n] w fun r w' => r = .returned (.bool true) ∧ Below w.heap.size w w' := by
  have kq := fun V => onew 1 (by omega) (by omega) V
  obtain ⟨W, hW⟩ : ∃ W, w.alloc (.cells #[.int .i64 kd, .int .i64 i, .int .i64 k, .bool ni, .bool nk, .int .i64 c, .bool e, .int .i64 lo, .int .i64 hh] 25) = W := ⟨_, rfl⟩
  have gW : Below w.heap.size w W := by rw [← hW]; exact (Below.refl _ _).alloc (Nat.le_refl _) _
  have d0 : W.cell? ⟨w.heap.size, 1, none⟩ = some (.int .i64 i) := by rw [← hW]; simp [go_sem]
  have d1 : W.cell? ⟨w.heap.size, 2, none⟩ = some (.int .i64 k) := by rw [← hW]; simp [go_sem]
  have d2 : W.cell? ⟨w.heap.size, 3, none⟩ = some (.bool ni) := by rw [← hW]; simp [go_sem]
  have d3 : W.cell? ⟨w.heap.size, 4, none⟩ = some (.bool nk) := by rw [← hW]; simp [go_sem]
  have d4 : W.cell? ⟨w.heap.size, 5, none⟩ = some (.int .i64 c) := by rw [← hW]; simp [go_sem]
  have d5 : W.cell? ⟨w.heap.size, 6, none⟩ = some (.bool e) := by rw [← hW]; simp [go_sem]
  have d6 : W.cell? ⟨w.heap.size, 7, none⟩ = some (.int .i64 lo) := by rw [← hW]; simp [go_sem]
  have d7 : W.cell? ⟨w.heap.size, 8, none⟩ = some (.int .i64 hh) := by rw [← hW]; simp [go_sem]
  rw [hW] at kp
  go_enter Try.func3, Try.ntmps3
  go_upto_region 4 with (first
    | (go_at_call 6; refine kp.mono ?_; rintro r w1 ⟨rfl, g⟩; replace d0 := sp_cell_on g d0; replace d1 := sp_cell_on g d1; replace d2 := sp_cell_on g d2; replace d3 := sp_cell_on g d3; replace d4 := sp_cell_on g d4; replace d5 := sp_cell_on g d5; replace d6 := sp_cell_on g d6; replace d7 := sp_cell_on g d7; replace gW := sp_call gW g; clear g kp)
    | (go_at_call 6; refine (kq _).mono ?_; rintro r w2 ⟨rfl, _, g⟩; replace d0 := sp_cell_on g d0; replace d1 := sp_cell_on g d1; replace d2 := sp_cell_on g d2; replace d3 := sp_cell_on g d3; replace d4 := sp_cell_on g d4; replace d5 := sp_cell_on g d5; replace d6 := sp_cell_on g d6; replace d7 := sp_cell_on g d7; replace gW := sp_call gW g; clear g kq)
    | fail)
  have j1 := njoin (.pointer none) (.pointer (some ⟨w1.heap.size, 0, none⟩)) ⟨_, rfl⟩ ⟨_, rfl⟩ (nalike1 _ ⟨_, rfl⟩)
  have j2 := njoin (.pointer (some ⟨w1.heap.size, 0, none⟩)) (.pointer none) ⟨_, rfl⟩ ⟨_, rfl⟩ (nalike2 _)
  have m1 := nmeet (.pointer none) (.pointer (some ⟨w1.heap.size, 0, none⟩)) ⟨_, rfl⟩ ⟨_, rfl⟩ (nalike1 _ ⟨_, rfl⟩)
  have m2 := nwiden (.pointer (some ⟨w1.heap.size, 0, none⟩)) (.pointer none) ⟨_, rfl⟩ ⟨_, rfl⟩ (nalike2 _)
  have i1 := nwithin (.pointer none) (.pointer (some ⟨w1.heap.size, 0, none⟩)) ⟨_, rfl⟩ ⟨_, rfl⟩ (nalike1 _ ⟨_, rfl⟩)
  have i2 := nwithin (.pointer (some ⟨w1.heap.size, 0, none⟩)) (.pointer none) ⟨_, rfl⟩ ⟨_, rfl⟩ (nalike2 _)
  clear hW
  go_cut [48] from 11 to 48 (fun s X => ∃ W3, W3 = X ∧ s = .bool false ∧ X.cell? ⟨w.heap.size, 1, none⟩ = some (.int .i64 i) ∧ X.cell? ⟨w.heap.size, 2, none⟩ = some (.int .i64 k) ∧ X.cell? ⟨w.heap.size, 3, none⟩ = some (.bool ni) ∧ X.cell? ⟨w.heap.size, 4, none⟩ = some (.bool nk) ∧ X.cell? ⟨w.heap.size, 5, none⟩ = some (.int .i64 c) ∧ X.cell? ⟨w.heap.size, 6, none⟩ = some (.bool e) ∧ X.cell? ⟨w.heap.size, 7, none⟩ = some (.int .i64 lo) ∧ X.cell? ⟨w.heap.size, 8, none⟩ = some (.int .i64 hh) ∧ Below w.heap.size w X)
  case first =>
   clear i1 i2
   rcases hc with ⟨rfl, h1⟩ | ⟨rfl, h1, h2⟩ | ⟨b, rfl, h1, h2⟩
   all_goals
    go_wp2_with (first
    | (go_at_call 7; with_reducible refine (j1 _).mono ?_; rintro r v1 ⟨rfl, g⟩; replace d0 := sp_cell_on g d0; replace d1 := sp_cell_on g d1; replace d2 := sp_cell_on g d2; replace d3 := sp_cell_on g d3; replace d4 := sp_cell_on g d4; replace d5 := sp_cell_on g d5; replace d6 := sp_cell_on g d6; replace d7 := sp_cell_on g d7; replace gW := sp_call gW g; clear g; clear j1)
    | (go_at_call 7; with_reducible refine (j2 _).mono ?_; rintro r v2 ⟨rfl, g⟩; replace d0 := sp_cell_on g d0; replace d1 := sp_cell_on g d1; replace d2 := sp_cell_on g d2; replace d3 := sp_cell_on g d3; replace d4 := sp_cell_on g d4; replace d5 := sp_cell_on g d5; replace d6 := sp_cell_on g d6; replace d7 := sp_cell_on g d7; replace gW := sp_call gW g; clear g; clear j2)
    | (go_at_call 8; with_reducible refine (m1 _).mono ?_; rintro r v3 ⟨rfl, g⟩; replace d0 := sp_cell_on g d0; replace d1 := sp_cell_on g d1; replace d2 := sp_cell_on g d2; replace d3 := sp_cell_on g d3; replace d4 := sp_cell_on g d4; replace d5 := sp_cell_on g d5; replace d6 := sp_cell_on g d6; replace d7 := sp_cell_on g d7; replace gW := sp_call gW g; clear g)
    | (go_at_call 9; with_reducible refine (m2 _).mono ?_; rintro r v4 ⟨rfl, g⟩; replace d0 := sp_cell_on g d0; replace d1 := sp_cell_on g d1; replace d2 := sp_cell_on g d2; replace d3 := sp_cell_on g d3; replace d4 := sp_cell_on g d4; replace d5 := sp_cell_on g d5; replace d6 := sp_cell_on g d6; replace d7 := sp_cell_on g d7; replace gW := sp_call gW g; clear g)
    | (go_at_call 10; with_reducible refine (nfork _).mono ?_; rintro r v5 ⟨rfl, g⟩; replace d0 := sp_cell_on g d0; replace d1 := sp_cell_on g d1; replace d2 := sp_cell_on g d2; replace d3 := sp_cell_on g d3; replace d4 := sp_cell_on g d4; replace d5 := sp_cell_on g d5; replace d6 := sp_cell_on g d6; replace d7 := sp_cell_on g d7; replace gW := sp_call gW g; clear g)
    | fail)
   all_goals go_meet
   all_goals exact ⟨_, rfl, (by first | rfl | simp [*]), d0, d1, d2, d3, d4, d5, d6, d7, gW⟩
  case rest =>
   clear d0 d1 d2 d3 d4 d5 d6 d7 gW j1 j2 m1 m2 hc
   obtain ⟨W3, rfl, rfl, d0, d1, d2, d3, d4, d5, d6, d7, gW⟩ := hcut
   go_upto_region 6 with fail
   (try simp only [List.append])
   go_wp2_with (first
    | (go_at_call 11; with_reducible refine (olive _).mono ?_; rintro r x1 ⟨rfl, g⟩; replace d0 := sp_cell_on g d0; replace d1 := sp_cell_on g d1; replace d2 := sp_cell_on g d2; replace d3 := sp_cell_on g d3; replace d4 := sp_cell_on g d4; replace d5 := sp_cell_on g d5; replace d6 := sp_cell_on g d6; replace d7 := sp_cell_on g d7; replace gW := sp_call gW g; clear g)
    | (go_at_call 12; with_reducible refine (nvars _).mono ?_; rintro r x2 ⟨rfl, g⟩; replace d0 := sp_cell_on g d0; replace d1 := sp_cell_on g d1; replace d2 := sp_cell_on g d2; replace d3 := sp_cell_on g d3; replace d4 := sp_cell_on g d4; replace d5 := sp_cell_on g d5; replace d6 := sp_cell_on g d6; replace d7 := sp_cell_on g d7; replace gW := sp_call gW g; clear g)
    | (go_at_call 13; with_reducible refine (nempty _).mono ?_; rintro r x3 ⟨rfl, g⟩; replace d0 := sp_cell_on g d0; replace d1 := sp_cell_on g d1; replace d2 := sp_cell_on g d2; replace d3 := sp_cell_on g d3; replace d4 := sp_cell_on g d4; replace d5 := sp_cell_on g d5; replace d6 := sp_cell_on g d6; replace d7 := sp_cell_on g d7; replace gW := sp_call gW g; clear g)
    | (go_at_call 14; with_reducible refine (nbound _ _ _ _ _).mono ?_; rintro r x4 ⟨rfl, g⟩; replace d0 := sp_cell_on g d0; replace d1 := sp_cell_on g d1; replace d2 := sp_cell_on g d2; replace d3 := sp_cell_on g d3; replace d4 := sp_cell_on g d4; replace d5 := sp_cell_on g d5; replace d6 := sp_cell_on g d6; replace d7 := sp_cell_on g d7; replace gW := sp_call gW g; clear g)
    | (go_at_call 15; with_reducible refine (nlimit _ _ _ _ _ _).mono ?_; rintro r x5 ⟨rfl, g⟩; replace d0 := sp_cell_on g d0; replace d1 := sp_cell_on g d1; replace d2 := sp_cell_on g d2; replace d3 := sp_cell_on g d3; replace d4 := sp_cell_on g d4; replace d5 := sp_cell_on g d5; replace d6 := sp_cell_on g d6; replace d7 := sp_cell_on g d7; replace gW := sp_call gW g; clear g)
    | (go_at_call 16; with_reducible refine (nrange _ _).mono ?_; rintro r x6 ⟨rfl, g⟩; replace d0 := sp_cell_on g d0; replace d1 := sp_cell_on g d1; replace d2 := sp_cell_on g d2; replace d3 := sp_cell_on g d3; replace d4 := sp_cell_on g d4; replace d5 := sp_cell_on g d5; replace d6 := sp_cell_on g d6; replace d7 := sp_cell_on g d7; replace gW := sp_call gW g; clear g)
    | (go_at_call 17; with_reducible refine (nset _ _ _ _ _).mono ?_; rintro r x7 ⟨rfl, g⟩; replace d0 := sp_cell_on g d0; replace d1 := sp_cell_on g d1; replace d2 := sp_cell_on g d2; replace d3 := sp_cell_on g d3; replace d4 := sp_cell_on g d4; replace d5 := sp_cell_on g d5; replace d6 := sp_cell_on g d6; replace d7 := sp_cell_on g d7; replace gW := sp_call gW g; clear g)
    | (go_at_call 18; with_reducible refine (nforget _ _).mono ?_; rintro r x8 ⟨rfl, g⟩; replace d0 := sp_cell_on g d0; replace d1 := sp_cell_on g d1; replace d2 := sp_cell_on g d2; replace d3 := sp_cell_on g d3; replace d4 := sp_cell_on g d4; replace d5 := sp_cell_on g d5; replace d6 := sp_cell_on g d6; replace d7 := sp_cell_on g d7; replace gW := sp_call gW g; clear g)
    | (go_at_call 19; with_reducible refine (ncopy _ _ _ _ _).mono ?_; rintro r x9 ⟨rfl, g⟩; replace d0 := sp_cell_on g d0; replace d1 := sp_cell_on g d1; replace d2 := sp_cell_on g d2; replace d3 := sp_cell_on g d3; replace d4 := sp_cell_on g d4; replace d5 := sp_cell_on g d5; replace d6 := sp_cell_on g d6; replace d7 := sp_cell_on g d7; replace gW := sp_call gW g; clear g)
    | (go_at_call 20; with_reducible refine (nshift _ _ _ _).mono ?_; rintro r y1 ⟨rfl, g⟩; replace d0 := sp_cell_on g d0; replace d1 := sp_cell_on g d1; replace d2 := sp_cell_on g d2; replace d3 := sp_cell_on g d3; replace d4 := sp_cell_on g d4; replace d5 := sp_cell_on g d5; replace d6 := sp_cell_on g d6; replace d7 := sp_cell_on g d7; replace gW := sp_call gW g; clear g)
    | (go_at_call 21; with_reducible refine (i1 _).mono ?_; rintro r y2 ⟨rfl, g⟩; replace d0 := sp_cell_on g d0; replace d1 := sp_cell_on g d1; replace d2 := sp_cell_on g d2; replace d3 := sp_cell_on g d3; replace d4 := sp_cell_on g d4; replace d5 := sp_cell_on g d5; replace d6 := sp_cell_on g d6; replace d7 := sp_cell_on g d7; replace gW := sp_call gW g; clear g; clear i1)
    | (go_at_call 21; with_reducible refine (i2 _).mono ?_; rintro r y3 ⟨rfl, g⟩; replace d0 := sp_cell_on g d0; replace d1 := sp_cell_on g d1; replace d2 := sp_cell_on g d2; replace d3 := sp_cell_on g d3; replace d4 := sp_cell_on g d4; replace d5 := sp_cell_on g d5; replace d6 := sp_cell_on g d6; replace d7 := sp_cell_on g d7; replace gW := sp_call gW g; clear g; clear i2)
    | (go_at_call 22; with_reducible refine (nhas _ _ _ _).mono ?_; rintro r y4 ⟨rfl, g⟩; replace gW := sp_call (sp_new gW _) g; clear g)
    | fail)
   go_ret
   exact ⟨rfl, gW⟩
theorem law_none (kd i k : Int) (ni nk : Bool) (c : Int) (e : Bool) (lo hh n : Int) (w : World) :
    Calls Try.prog 3 #[.agg #[.int .i64 kd, .int .i64 i, .int .i64 k, .bool ni, .bool nk, .int .i64 c, .bool e, .int .i64 lo, .int .i64 hh], .int .i64 n] w fun r w' => r = .returned (.bool true) ∧ Below w.heap.size w w' := by
  by_cases h1 : n < 1
  · exact none_walk kd i k ni nk c e lo hh n none (Or.inl ⟨rfl, h1⟩) w ((nnew n (Or.inl h1) _).mono fun r w' q => ⟨q.1, by rw [q.2]; exact Below.refl _ _⟩)
  · by_cases h2 : 8 < n
    · exact none_walk kd i k ni nk c e lo hh n none (Or.inr (Or.inl ⟨rfl, h1, h2⟩)) w ((nnew n (Or.inr h2) _).mono fun r w' q => ⟨q.1, by rw [q.2]; exact Below.refl _ _⟩)
    · obtain ⟨m, rfl⟩ : ∃ m : Nat, n = m := ⟨n.toNat, by omega⟩
      exact none_walk kd i k ni nk c e lo hh m _ (Or.inr (Or.inr ⟨_, rfl, h1, h2⟩)) w ((onew m (by omega) (by omega) _).mono fun r w' q => ⟨q.1, q.2.2⟩)
end Go.Proofs.Ytdfbmafeemflaaa

