/- Scan of Join of what Scan told: the walk of FlexBack. -/
import Derived.Test.YtldolcfgfmfiiaaFxK
namespace Go.Proofs.Ytldolcfgfmfiiaa
open Go.RowKit
set_option linter.unusedVariables false
set_option linter.unusedSimpArgs false
theorem scan_back (s : ByteArray) (t : List (Nat × Nat × Nat)) (h : scanL s.toList = .ok t) (Z : ByteArray) (hZ : Z.toList = jt [32] [] (withT s.toList t)) (hs : Z.size ≤ 8192) :
    ∃ t2, scanL Z.toList = .ok t2 ∧ t2.length = t.length ∧
      ∀ i k p n k' p' n' : Nat, t[i]? = some (k, p, n) → t2[i]? = some (k', p', n') → k = k' ∧ (s.extract p (p + n)).toList = (Z.extract p' (p' + n')).toList ∧ (false = true → p = p') := by
  have hT := scanL_isT h
  have hc := scanL_count h
  have hb : allB [32] := by intro b hb; simp at hb; subst hb; decide +kernel
  have he : allB [] := by intro b hb; simp at hb
  have e := scan_jt hb (by simp) he (withT s.toList t) 0 0 hT (by rw [withT_len]; omega)
  have e2 : scanL Z.toList = .ok (pl 1 (withT s.toList t) 0) := by
    unfold scanL
    rw [if_neg (by rw [toL_len]; omega), hZ, cnt1_jt hT, List.drop_zero]
    exact e
  refine ⟨_, e2, by rw [pl_len, withT_len], fun i k p n k' p' n' h1 h2 => ?_⟩
  have w1 := withT_at (l := s.toList) h1
  obtain ⟨q, q1, q2⟩ := pl_at (bl := [32]) (tr := []) _ [] i _ _ w1
  rw [show ([32] : List UInt8).length = 1 from rfl, show ([] : List UInt8).length = 0 from rfl] at q1
  rw [q1] at h2
  obtain ⟨rfl, h3⟩ := Prod.mk.inj (Option.some.inj h2)
  obtain ⟨rfl, rfl⟩ := Prod.mk.inj h3
  refine ⟨rfl, ?_, fun c => by cases c⟩
  rw [List.nil_append] at q2
  rw [toL_cut, toL_cut, hZ]
  generalize (s.toList.take (p + n)).drop p = T at *
  rw [List.drop_take, show q + T.length - q = T.length by omega]
  exact q2.symm
set_option maxRecDepth 1000000 in
set_option maxHeartbeats 3200000 in
theorem rJoin_none (o : Option Addr) (cap : Nat) (w : World) : Calls Try.prog 19 #[.slice o 0 cap] w fun e w' => e = .returned (.string ⟨#[]⟩) ∧ Below w.heap.size w w' := by
  go_enter Try.func19, Try.ntmps19
  go_wp2_with fail
  go_loopw [3, 4] (fun sv i wr => sv = .string ⟨#[]⟩ ∧ i = .int .i64 0 ∧ wr = w) (fun _ i _ => 0)
  case atStart => exact ⟨rfl, rfl, rfl⟩
  case round =>
    obtain ⟨rfl, rfl, rfl⟩ := hrel
    go_wp2_with fail
    go_ret
    exact ⟨rfl, Below.refl _ _⟩
set_option maxRecDepth 1000000 in
set_option maxHeartbeats 6400000 in
theorem law_back (s : ByteArray) (hz : s.size ≤ 9223372036854775807) (w : World) : Calls Try.prog 5 #[.string s] w fun e w' => e = .returned (.bool true) ∧ Below w.heap.size w w' := by
  have hv := live_any
  cases hO : scanL s.toList with
  | error e =>
    obtain ⟨E, A⟩ := e
    have hs := scan_err s E A hO
    have hE : ((E : Int) == 0) = false := by rw [beq_eq_false_iff_ne]; have := scanL_err hO; omega
    clear hO
    go_enter Try.func5, Try.ntmps5
    go_wp2_with (first
      | (go_at_call 10; refine (hs _).mono ?_; rintro e w1 ⟨rfl, b1⟩)
      | (go_at_call 12; refine (hv _).mono ?_; rintro e w2 ⟨rfl, b2⟩)
      | fail)
    go_ret
    exact ⟨rfl, below_call b1 b2⟩
  | ok t =>
    have hs := scan_ok s t hO
    have hrise := scanL_rise hO
    rw [toL_len] at hrise
    have tcount := scanL_count hO
    have ssmall := scanL_small hO
    rw [toL_len] at ssmall
    by_cases t0 : t.length = 0
    · have Z0 : t = [] := List.length_eq_zero_iff.mp t0
      subst Z0
      have h2 : scanL (ByteArray.toList ⟨#[]⟩) = .ok [] := by rw [toL]; unfold scanL; rw [if_neg (by decide)]; exact scanAt_end _ _ _ rfl
      have g2 := scan_ok ⟨#[]⟩ [] h2
      have hsm := fun (v1 v2 : Value) (B1 B2 : Nat) (W : World) o1 o2 => same_any s ⟨#[]⟩ [] [] v1 v2 false B1 B2 W rfl tcount o1 o2 (fun i k p n k' p' n' h => by simp at h)
      have H2 : Hid _ := hsm
      have hj := join_none
      have hk := rJoin_none
      have em : (ByteArray.toList ⟨#[]⟩ == ByteArray.toList ⟨#[]⟩) = true := beq_self_eq_true _
      clear hsm h2 hO hrise t0
      simp only [List.length_nil] at hs g2
      go_enter Try.func5, Try.ntmps5
      go_wp2_with (first
        | (go_at_call_of 10 (Value.string s); refine (hs _).mono ?_; rintro e w1 ⟨v, rfl, own, b1⟩; obtain ⟨o, cap, rfl⟩ := own_shape own; have L := b1)
        | (go_at_call 18; refine (hj _ _ _).mono ?_; rintro e w2 ⟨rfl, b2⟩; replace L := below_call L b2; replace own := own_on b2 own)
        | (go_at_call 10; refine (g2 _).mono ?_; rintro e w3 ⟨v2, rfl, own2, b3⟩; replace L := below_call L b3; replace own := own_on b3 own)
        | (go_at_call 12; refine (hv _).mono ?_; rintro e w4 ⟨rfl, b4⟩; replace L := below_call L b4; replace own := own_on b4 own; replace own2 := own_on b4 own2)
        | (go_at_call 19; refine (hk _ _ _).mono ?_; rintro e w5 ⟨rfl, b5⟩; replace L := below_call L b5; replace own := own_on b5 own; replace own2 := own_on b5 own2)
        | (go_at_call 13; refine (H2.out _ _ _ _ _ own own2).mono ?_; rintro e w6 ⟨rfl, b6⟩; replace L := below_call L b6)
        | fail)
      go_ret
      exact ⟨rfl, L⟩
    · have hj := fun (g cap : Nat) (hc : t.length ≤ cap) (W : World) cells => join_some s t g cap ssmall tcount t0 hc W cells
      have hk := fun (g cap : Nat) (hc : t.length ≤ cap) (W : World) cells => rJoin_some s t g cap ssmall hrise tcount t0 hc W cells
      have jl := jt_len _ (withT_small s t ssmall)
      rw [withT_len] at jl
      obtain ⟨J, hJ⟩ : ∃ J : ByteArray, (⟨(jt [32] [] (withT s.toList t)).toArray⟩ : ByteArray) = J := ⟨_, rfl⟩
      have tJ : J.toList = jt [32] [] (withT s.toList t) := by rw [← hJ, ByteArray.toList_mk]
      have zJ : J.size ≤ 16781312 := by rw [← toL_len, tJ]; omega
      simp only [hJ] at hj
      have hk2 : ∀ (g cap : Nat) (hc : t.length ≤ cap) (W : World) (cells : ∀ (j : Nat) x, (tcells s t)[j]? = some x → W.cell? ⟨g, j, none⟩ = some x), Calls Try.prog 19 #[.slice (some ⟨g, 0, none⟩) t.length cap] W fun e w' => ∃ R : ByteArray, e = .returned (.string R) ∧ (J.toList == R.toList) = true ∧ Below W.heap.size W w' := by
        intro g cap hc W cells
        refine (hk g cap hc W cells).mono ?_
        rintro e w' ⟨R, h1, h2, h3⟩
        exact ⟨R, h1, by rw [tJ, h2]; exact beq_self_eq_true _, h3⟩
      have HJ : Hid _ := hj
      have HK : Hid _ := hk2
      clear hJ hk jl hrise hj hk2
      by_cases big : 8192 < J.size
      · have s2 : scanL J.toList = .error (5, 0) := by unfold scanL; rw [if_pos (by rw [toL_len]; exact big)]
        have h2 := scan_err J 5 0 s2
        have bi : (8192 : Int) < (J.size : Int) := by omega
        clear s2 big tJ hO
        go_enter Try.func5, Try.ntmps5
        go_wp2_with (first
          | (go_at_call_of 10 (Value.string s); refine (hs _).mono ?_; rintro e w1 ⟨v, rfl, own, b1⟩; obtain ⟨g, cap, rfl, gl, gc, gb, cells⟩ := own_cells own t0; have L := b1; have CC : Hid _ := cells; clear cells own)
          | (go_at_call 18; refine (HJ.out g cap gc _ CC.out).mono ?_; rintro e w2 ⟨rfl, b2⟩; replace L := below_call L b2; have CD : Hid _ := fun j x h => cell_on b2 (CC.out j x h))
          | (go_at_call 10; refine (h2 _).mono ?_; rintro e w3 ⟨rfl, b3⟩; replace L := below_call L b3; have CE : Hid _ := fun j x h => cell_on b3 (CD.out j x h))
          | (go_at_call 12; refine (hv _).mono ?_; rintro e w4 ⟨rfl, b4⟩; replace L := below_call L b4; have CF : Hid _ := fun j x h => cell_on b4 (CE.out j x h))
          | (go_at_call 19; refine (HK.out g cap gc _ CF.out).mono ?_; rintro e w5 ⟨R, rfl, eR, b5⟩; replace L := below_call L b5)
          | fail)
        go_ret
        exact ⟨rfl, L⟩
      · obtain ⟨t2, s2, len2, same2⟩ := scan_back s t hO J tJ (by omega)
        have h2 := scan_ok J t2 s2
        rw [len2] at h2
        have bi : decide ((8192 : Int) < (J.size : Int)) = false := by rw [decide_eq_false_iff_not]; omega
        have hsm := fun (v1 v2 : Value) (B1 B2 : Nat) (W : World) o1 o2 => same_any s J t t2 v1 v2 false B1 B2 W len2 tcount o1 o2 same2
        have H2 : Hid _ := hsm
        clear hsm same2 len2 s2 big tJ hO
        go_enter Try.func5, Try.ntmps5
        go_wp2_with (first
          | (go_at_call_of 10 (Value.string s); refine (hs _).mono ?_; rintro e w1 ⟨v, rfl, own, b1⟩; obtain ⟨g, cap, rfl, gl, gc, gb, cells⟩ := own_cells own t0; have L := b1; have CC : Hid _ := cells; clear cells)
          | (go_at_call 18; refine (HJ.out g cap gc _ CC.out).mono ?_; rintro e w2 ⟨rfl, b2⟩; replace L := below_call L b2; have CD : Hid _ := fun j x h => cell_on b2 (CC.out j x h); replace own := own_on b2 own)
          | (go_at_call 10; refine (h2 _).mono ?_; rintro e w3 ⟨v2, rfl, own2, b3⟩; replace L := below_call L b3; have CE : Hid _ := fun j x h => cell_on b3 (CD.out j x h); replace own := own_on b3 own)
          | (go_at_call 12; refine (hv _).mono ?_; rintro e w4 ⟨rfl, b4⟩; replace L := below_call L b4; have CF : Hid _ := fun j x h => cell_on b4 (CE.out j x h); replace own := own_on b4 own; replace own2 := own_on b4 own2)
          | (go_at_call 19; refine (HK.out g cap gc _ CF.out).mono ?_; rintro e w5 ⟨R, rfl, eR, b5⟩; replace L := below_call L b5; replace own := own_on b5 own; replace own2 := own_on b5 own2)
          | (go_at_call 13; refine (H2.out _ _ _ _ _ own own2).mono ?_; rintro e w6 ⟨rfl, b6⟩; replace L := below_call L b6)
          | fail)
        go_ret
        exact ⟨rfl, L⟩
end Go.Proofs.Ytldolcfgfmfiiaa
