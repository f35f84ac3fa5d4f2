/- octagon: drain. -/
import Derived.Test.YtpcbammncaeimaaOdC
import Derived.Deep.MidRow
namespace Go.Proofs.Ytpcbammncaeimaa
open Go.RowKit
set_option linter.unusedVariables false
set_option linter.unusedSimpArgs false
theorem setCells_onl (b : Nat) : ∀ (vs : List Value) (o : Nat) (w : World), Onl b w (w.setCells b o vs)
  | [], _, w => Onl.refl _ _
  | v :: r, o, w => ((Onl.refl b w).set v).trans (setCells_onl b r (o + 1) _)
theorem OctAt.some {w : World} {b n : Nat} {e : Bool} {M : Mx} (h : OctAt w b n e M) (j : Nat) (hj : j < 258) : (w.cell? ⟨b, j, none⟩).isSome = true := by
  match j, hj with
  | 0, _ => rw [h.hv]; rfl
  | 1, _ => rw [h.he]; rfl
  | k + 2, hk =>
    have := h.hm (k / 16) (k % 16) (by omega) (by omega)
    rw [show 2 + k / 16 * 16 + k % 16 = k + 2 by omega] at this
    rw [this]; rfl
/-- A whole one is laid where another one lay. -/
theorem OctAt.laid {w : World} {b n : Nat} {e : Bool} {M : Mx} (h : OctAt w b n e M) (n' : Nat) (e' : Bool) (M' : Mx) : OctAt (w.setCells b 0 (octC n' e' M')) b n' e' M' := by
  have hc : ∀ k (hk : k < 258), (w.setCells b 0 (octC n' e' M')).cell? ⟨b, k, none⟩ = (octC n' e' M')[k]? := fun k hk => by
    have := World.cell?_setCells_in b (octC n' e' M') 0 w (fun j hj => by rw [Nat.zero_add]; rw [octC_len] at hj; exact h.some j hj) k (by rw [octC_len]; exact hk)
    rw [Nat.zero_add] at this
    rw [this, List.getElem?_eq_getElem]
  refine ⟨by rw [hc 0 (by omega)]; rfl, by rw [hc 1 (by omega)]; rfl, fun i j hi hj => ?_, fun k => by rw [World.frozen?_setCells]; exact h.hf k⟩
  rw [hc _ (by omega), show 2 + i * 16 + j = 2 + (i * 16 + j) by omega, octC_at n' e' M' _ (by omega), show (i * 16 + j) / 16 = i by omega, show (i * 16 + j) % 16 = j by omega]
set_option maxRecDepth 100000 in
theorem ostore2 (b n : Nat) (e : Bool) (M : Mx) (n' : Nat) (e' : Bool) (M' : Mx) (w : World) (h : OctAt w b n e M) : (Instr.storeAt 70 (.pointer (some ⟨b, 0, none⟩)) (.agg (octC n' e' M').toArray)).run Try.prog w = .ok () (w.setCells b 0 (octC n' e' M')) := by
  have := run_storeAt_mid (P := Try.prog) w b 0 70 (octC n' e' M').toArray (fun j hj => by
    rw [List.size_toArray, octC_len] at hj
    rw [Nat.zero_add]
    exact ⟨h.some j hj, h.hf j⟩) (by rw [List.size_toArray, octC_len]; kernel_rfl) (by
    rw [Array.all_eq_true']
    intro x hx
    simp only [octC, List.mem_toArray, List.mem_cons, List.mem_map] at hx
    rcases hx with rfl | rfl | ⟨k, _, rfl⟩ <;> rfl)
  exact this
set_option maxRecDepth 100000 in
theorem ozero (n : Nat) : (#[.int .i64 n, .bool true] ++ Array.replicate 256 (.int .i64 0) : Array Value) = (octC n true (fun _ _ => 0)).toArray := by
  apply Array.toList_inj.1
  simp [octC, List.map_const']
set_option maxRecDepth 100000 in
set_option maxHeartbeats 800000 in
theorem odrain (b n : Nat) (e : Bool) (M : Mx) (w : World) (h : OctAt w b n e M) :
    Calls Try.prog 57 #[.pointer (some ⟨b, 0, none⟩)] w fun r w' => r = .returned (.tuple #[]) ∧ OctAt w' b n true (fun _ _ => 0) ∧ Onl b w w' := by
  have hv := h.hv
  have h1 := ostore2 b n e M n true (fun _ _ => 0) w h
  have h2 := h.laid n true (fun _ _ => 0)
  have h3 := setCells_onl b (octC n true (fun _ _ => 0)) 0 w
  have hz := ozero n
  generalize w.setCells b 0 (octC n true (fun _ _ => 0)) = W at *
  generalize (octC n true (fun _ _ => 0)).toArray = C at *
  clear h
  go_enter Try.func57, Try.ntmps57
  iterate 17 go_step
  refine wpList_build rfl 70 _ rfl (by kernel_rfl) ?_
  generalize hV : (Program.built Try.prog 70 _).getD #[] = V
  have hV2 : V = #[.int .i64 n, .bool true] ++ Array.replicate 256 (.int .i64 0) := hV.symm.trans (by kernel_rfl)
  rw [hz] at hV2
  subst hV2
  go_step
  go_step
  go_step
  go_step
  refine wp_store_by 70 (.tmp 8) (.tmp 7) rfl _ _ rfl rfl h1 ?_
  go_wp2_with fail
  exact bodyPost_end (results_none rfl _ _ _) rfl ⟨rfl, h2, h3⟩
end Go.Proofs.Ytpcbammncaeimaa
