/- A text is just the tokens that the reference tells: the walk of FlexScans. -/
import Derived.Test.YtldolcfgfmfiiaaFxY
namespace Go.Proofs.Ytldolcfgfmfiiaa
open Go.RowKit
set_option linter.unusedVariables false
set_option linter.unusedSimpArgs false
theorem rscan_ok (s : ByteArray) (t : List (Nat × Nat × Nat)) (h : scanL s.toList = .ok t) (w : World) :
    Calls Try.prog 11 #[.string s] w fun e w' => ∃ v, e = .returned (.tuple #[v, .int .i64 0, .int .i64 0]) ∧ w'.ownsRow w.heap.size 34 3 v t.length (tcells s t) ∧ Below w.heap.size w w' := by
  refine rscan_Q s w _ (fun t' v w' h' o L => ?_) (fun E A w' h' L => ?_)
  · obtain rfl : t = t' := by rw [h] at h'; exact Except.ok.inj h'
    exact ⟨v, rfl, o, L⟩
  · rw [h] at h'; cases h'
theorem rscan_err (s : ByteArray) (E A : Nat) (h : scanL s.toList = .error (E, A)) (w : World) :
    Calls Try.prog 11 #[.string s] w fun e w' => e = .returned (.tuple #[.slice none 0 0, .int .i64 E, .int .i64 A]) ∧ Below w.heap.size w w' := by
  refine rscan_Q s w _ (fun t' v w' h' o L => ?_) (fun E' A' w' h' L => ?_)
  · rw [h] at h'; cases h'
  · rw [h] at h'
    obtain ⟨rfl, rfl⟩ := Prod.mk.inj (Except.error.inj h')
    exact ⟨rfl, L⟩
set_option maxRecDepth 1000000 in
set_option maxHeartbeats 3200000 in
theorem law_scans (s : ByteArray) (hz : s.size ≤ 9223372036854775807) (w : World) : Calls Try.prog 3 #[.string s] w fun e w' => e = .returned (.bool true) ∧ Below w.heap.size w w' := by
  have hv := live_any
  cases hO : scanL s.toList with
  | error e =>
    obtain ⟨E, A⟩ := e
    have hs := scan_err s E A hO
    have gs := rscan_err s E A hO
    have hsm := fun (W : World) => same_any s s [] [] (.slice none 0 0) (.slice none 0 0) true 0 0 W rfl (by simp) (World.ownsRow_nil _ _ _ _) (World.ownsRow_nil _ _ _ _) (fun i k p n k' p' n' h => by simp at h)
    clear hO
    go_enter Try.func3, Try.ntmps3
    go_wp2_with (first
      | (go_at_call 10; refine (hs _).mono ?_; rintro e w1 ⟨rfl, b1⟩; have L := b1)
      | (go_at_call 11; refine (gs _).mono ?_; rintro e w2 ⟨rfl, b2⟩; replace L := below_call L b2)
      | (go_at_call 12; refine (hv _).mono ?_; rintro e w3 ⟨rfl, b3⟩; replace L := below_call L b3)
      | (go_at_call 13; refine (hsm _).mono ?_; rintro e w4 ⟨rfl, b4⟩; replace L := below_call L b4)
      | fail)
    go_ret
    exact ⟨rfl, L⟩
  | ok t =>
    have hs := scan_ok s t hO
    have gs := rscan_ok s t hO
    have tcount := scanL_count hO
    have hsm := fun (v1 v2 : Value) (B1 B2 : Nat) (W : World) o1 o2 => same_any s s t t v1 v2 true B1 B2 W rfl tcount o1 o2 (fun i k p n k' p' n' h h' => by
      rw [h] at h'
      obtain ⟨rfl, h3⟩ := Prod.mk.inj (Option.some.inj h')
      obtain ⟨rfl, rfl⟩ := Prod.mk.inj h3
      exact ⟨rfl, rfl, fun _ => rfl⟩)
    have H2 : Hid _ := hsm
    clear hO hsm
    go_enter Try.func3, Try.ntmps3
    go_wp2_with (first
      | (go_at_call 10; refine (hs _).mono ?_; rintro e w1 ⟨v1, rfl, own1, b1⟩; have L := b1)
      | (go_at_call 11; refine (gs _).mono ?_; rintro e w2 ⟨v2, rfl, own2, b2⟩; replace L := below_call L b2; replace own1 := own_on b2 own1)
      | (go_at_call 12; refine (hv _).mono ?_; rintro e w3 ⟨rfl, b3⟩; replace L := below_call L b3; replace own1 := own_on b3 own1; replace own2 := own_on b3 own2)
      | (go_at_call 13; refine (H2.out _ _ _ _ _ own1 own2).mono ?_; rintro e w4 ⟨rfl, b4⟩; replace L := below_call L b4)
      | fail)
    go_ret
    exact ⟨rfl, L⟩
end Go.Proofs.Ytldolcfgfmfiiaa
