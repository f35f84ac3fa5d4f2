/- bound. -/
import Derived.Test.YtknoibocpbfmmaaGreatDoorPaN
namespace Go.Proofs.YtknoibocpbfmmaaGreatDoor
open Go.RowKit
set_option linter.unusedVariables false
set_option linter.unusedSimpArgs false
set_option maxRecDepth 100000 in
set_option maxHeartbeats 1600000 in
theorem pbound (ts : List Tk) (o d : Int) (z : Tz ts) (nm : bdP ts d ≠ .more) (b B : Nat) (w : World) (hO0 : OpsAt w) (hG : b ≠ 0) (h : PAt w b B ts o d) :
    Calls Tryz.prog 97 #[.pointer (some ⟨b, 0, none⟩)] w fun e w' => ExR (bdP ts d) b B o w e w' := by
  obtain ⟨t, us, rfl⟩ := z.cons
  have hne : t :: us ≠ [] := by simp
  obtain ⟨R, hR⟩ : ∃ R, bdP (t :: us) d = R := ⟨_, rfl⟩
  rw [hR]
  rw [hR] at nm
  unfold bdP at hR
  by_cases c : t.2.1 = tMi
  · rw [if_pos (show isTx (t :: us) tMi = true from decide_eq_true c)] at hR
    replace hR : ((numP us d).thn fun e ts d => .ok (over1 4 e) ts d) = R := hR
    have zu := want_tail z c tMi_ne
    have c' : Hid (t.2.1 = tMi) := c
    clear c
    cases hr : numP us d with
    | more =>
      rw [Rs.thn_more hr] at hR
      exact absurd hR.symm nm
    | bad pl =>
      rw [Rs.thn_bad hr] at hR
      have kX := (fun _ b B w hO hG hP => pnumber b B us o d zu w hO hG hP : numP us d ≠ .more → _) (by rw [hr]; simp) b B
      rw [hr] at kX
      have e0 : Hid (R = .bad pl) := hR.symm
      clear hR hr nm z
      have hlt := h.lt
      have hltB := h.ltB hne
      go_enter Tryz.func97, Tryz.ntmps97
      go_upto_region 1 with fail
      obtain ⟨W, hW⟩ : ∃ W, w.alloc (.cells #[.int .i64 0, .string ⟨#[]⟩, .int .i64 0, .slice none 0 0] 85) = W := ⟨_, rfl⟩
      obtain ⟨p, hp⟩ : ∃ p, w.heap.size = p := ⟨_, rfl⟩
      have hS : Sit b B p w W (t :: us) o d := by
        have gW : Below w.heap.size w W := by rw [← hW]; exact pb_new (Below.refl _ _) _
        refine ⟨(Onl.refl b w).below gW, ?_, h.bel hne gW, hO0.bel gW, Nat.le_of_eq hp, by omega, by omega, hG, hlt⟩
        rw [← hW, ← hp]; exact World.alloc_heap_new w _
      rw [hW]
      (try rw [hp])
      clear hW h hO0 hp hlt hltB
      have kw := fun V hP => pskip_yes b B t us o d zu.ne V hP
      rw [c'.out] at kw
      go_wp2_with (first
        | (go_at_call 78; (with_reducible refine (kw _ hS.P).mono ?_); rintro e v1 ⟨rfl, hP1, on1⟩; replace hS := hS.onl on1 hP1)
        | (go_at_call 112; (refine (kX _ hS.O hS.hG hS.P).mono ?_); rintro e v2 ⟨on2, rfl⟩; replace hS := hS.on.trans on2)
        | fail)
      refine ⟨rfl, ?_⟩
      rw [e0.out]
      exact ⟨hS, rfl⟩
    | ok x1 us1 d1 =>
      rw [Rs.thn_ok hr] at hR
      have kX := (fun _ b B w hO hG hP => pnumber b B us o d zu w hO hG hP : numP us d ≠ .more → _) (by rw [hr]; simp) b B
      have z1 : Tz us1 := by have := (numP_sat us d False zu); rw [hr] at this; exact this.1
      have ne1 := z1.ne
      rw [hr] at kX
      have e0 : Hid (R = .ok (over1 4 x1) us1 d1) := hR.symm
      clear hR hr nm z
      have hlt := h.lt
      have hltB := h.ltB hne
      go_enter Tryz.func97, Tryz.ntmps97
      go_upto_region 1 with fail
      obtain ⟨W, hW⟩ : ∃ W, w.alloc (.cells #[.int .i64 0, .string ⟨#[]⟩, .int .i64 0, .slice none 0 0] 85) = W := ⟨_, rfl⟩
      obtain ⟨p, hp⟩ : ∃ p, w.heap.size = p := ⟨_, rfl⟩
      have hS : Sit b B p w W (t :: us) o d := by
        have gW : Below w.heap.size w W := by rw [← hW]; exact pb_new (Below.refl _ _) _
        refine ⟨(Onl.refl b w).below gW, ?_, h.bel hne gW, hO0.bel gW, Nat.le_of_eq hp, by omega, by omega, hG, hlt⟩
        rw [← hW, ← hp]; exact World.alloc_heap_new w _
      rw [hW]
      (try rw [hp])
      clear hW h hO0 hp hlt hltB
      have kw := fun V hP => pskip_yes b B t us o d zu.ne V hP
      rw [c'.out] at kw
      go_wp2_with (first
        | (go_at_call 78; (with_reducible refine (kw _ hS.P).mono ?_); rintro e v1 ⟨rfl, hP1, on1⟩; replace hS := hS.onl on1 hP1)
        | (go_at_call 112; (refine (kX _ hS.O hS.hG hS.P).mono ?_); rintro e v2 ⟨on2, pp2, qq2, rfl, k2, hP2⟩; replace k2 := k2.lo (lo' := (fun k => w.heap.size ≤ k ∧ k ≠ p)) (hS.fr); replace hS := hS.onl on2 hP2)
        | (go_at_call 111; (refine (pover _ _ _ ⟨_, _, _, rfl⟩).mono ?_); rintro e v7 ⟨rfl, g7⟩; have k6 := slf_new (q := 1) k2 rfl (hS.fr _ (Nat.le_refl _)); replace k6 := k6.kp (Below.kp g7 _); replace hS := (hS.new ne1 (.cells #[.int .i64 x1.op, .string x1.tx, .int .i64 x1.ty, .slice pp2 x1.ks.len qq2] 85)).bel ne1 g7; obtain ⟨f0, f1, f2, f3, ff⟩ := ex_cells hS.q)
        | fail)
      exact bodyPost_ret (v := .agg #[.int .i64 4, .string tx0, .int .i64 0, .slice (some ⟨v2.heap.size, 0, none⟩) 1 1]) (by simp [results, Tryz.results97, go_sem, f0, f1, f2, f3]) rfl (ex_done hS (x := over1 4 x1) rfl k6 (fun k a => a.1) (fun a => a.2 rfl) rfl e0.out _ _ _ _)
  · rw [if_neg (show ¬ isTx (t :: us) tMi = true by show ¬ decide (t.2.1 = tMi) = true; rw [decide_eq_true_iff]; exact c)] at hR
    have zt := z
    cases hr : numP (t :: us) d with
    | more =>
      rw [hr] at hR
      exact absurd hR.symm nm
    | bad pl =>
      rw [hr] at hR
      have kX := (fun _ b B w hO hG hP => pnumber b B (t :: us) o d zt w hO hG hP : numP (t :: us) d ≠ .more → _) (by rw [hr]; simp) b B
      rw [hr] at kX
      have e0 : Hid (R = .bad pl) := hR.symm
      clear hR hr nm z
      have hlt := h.lt
      have hltB := h.ltB hne
      go_enter Tryz.func97, Tryz.ntmps97
      go_upto_region 1 with fail
      obtain ⟨W, hW⟩ : ∃ W, w.alloc (.cells #[.int .i64 0, .string ⟨#[]⟩, .int .i64 0, .slice none 0 0] 85) = W := ⟨_, rfl⟩
      obtain ⟨p, hp⟩ : ∃ p, w.heap.size = p := ⟨_, rfl⟩
      have hS : Sit b B p w W (t :: us) o d := by
        have gW : Below w.heap.size w W := by rw [← hW]; exact pb_new (Below.refl _ _) _
        refine ⟨(Onl.refl b w).below gW, ?_, h.bel hne gW, hO0.bel gW, Nat.le_of_eq hp, by omega, by omega, hG, hlt⟩
        rw [← hW, ← hp]; exact World.alloc_heap_new w _
      rw [hW]
      (try rw [hp])
      clear hW h hO0 hp hlt hltB
      go_wp2_with (first
        | (go_at_call 78; (with_reducible refine (pskip_no b B t us o d tMi c _ hS.P).mono ?_); rintro e v1 ⟨rfl, g1⟩; replace hS := hS.bel hne g1)
        | (go_at_call 112; (refine (kX _ hS.O hS.hG hS.P).mono ?_); rintro e v2 ⟨on2, rfl⟩; replace hS := hS.on.trans on2)
        | fail)
      refine ⟨rfl, ?_⟩
      rw [e0.out]
      exact ⟨hS, rfl⟩
    | ok x1 us1 d1 =>
      rw [hr] at hR
      have kX := (fun _ b B w hO hG hP => pnumber b B (t :: us) o d zt w hO hG hP : numP (t :: us) d ≠ .more → _) (by rw [hr]; simp) b B
      have z1 : Tz us1 := by have := (numP_sat (t :: us) d False z); rw [hr] at this; exact this.1
      have ne1 := z1.ne
      rw [hr] at kX
      have e0 : Hid (R = .ok x1 us1 d1) := hR.symm
      clear hR hr nm z
      have hlt := h.lt
      have hltB := h.ltB hne
      go_enter Tryz.func97, Tryz.ntmps97
      go_upto_region 1 with fail
      obtain ⟨W, hW⟩ : ∃ W, w.alloc (.cells #[.int .i64 0, .string ⟨#[]⟩, .int .i64 0, .slice none 0 0] 85) = W := ⟨_, rfl⟩
      obtain ⟨p, hp⟩ : ∃ p, w.heap.size = p := ⟨_, rfl⟩
      have hS : Sit b B p w W (t :: us) o d := by
        have gW : Below w.heap.size w W := by rw [← hW]; exact pb_new (Below.refl _ _) _
        refine ⟨(Onl.refl b w).below gW, ?_, h.bel hne gW, hO0.bel gW, Nat.le_of_eq hp, by omega, by omega, hG, hlt⟩
        rw [← hW, ← hp]; exact World.alloc_heap_new w _
      rw [hW]
      (try rw [hp])
      clear hW h hO0 hp hlt hltB
      go_wp2_with (first
        | (go_at_call 78; (with_reducible refine (pskip_no b B t us o d tMi c _ hS.P).mono ?_); rintro e v1 ⟨rfl, g1⟩; replace hS := hS.bel hne g1)
        | (go_at_call 112; (refine (kX _ hS.O hS.hG hS.P).mono ?_); rintro e v2 ⟨on2, pp2, qq2, rfl, k2, hP2⟩; replace k2 := k2.lo (lo' := (fun k => w.heap.size ≤ k ∧ k ≠ p)) (hS.fr); replace hS := hS.onl on2 hP2; obtain ⟨f0, f1, f2, f3, ff⟩ := ex_cells hS.q)
        | fail)
      exact bodyPost_ret (v := .agg #[.int .i64 x1.op, .string x1.tx, .int .i64 x1.ty, .slice pp2 x1.ks.len qq2]) (by simp [results, Tryz.results97, go_sem, f0, f1, f2, f3]) rfl (ex_done hS (x := x1) rfl k2 (fun k a => a.1) (fun a => a.2 rfl) rfl e0.out _ _ _ _)
end Go.Proofs.YtknoibocpbfmmaaGreatDoor
