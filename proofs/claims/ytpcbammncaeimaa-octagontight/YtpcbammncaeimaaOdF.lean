/- octagon: free, Forget, Copy, Shift, Set of whatever comes. -/
import Derived.Test.YtpcbammncaeimaaOdN
import Derived.Test.YtpcbammncaeimaaOcI
import Derived.Test.YtpcbammncaeimaaSpR
namespace Go.Proofs.Ytpcbammncaeimaa
open Go.RowKit
set_option linter.unusedVariables false
set_option linter.unusedSimpArgs false
theorem td_even {x : Int} (h : x = 2 * fh x) : x.tdiv 2 = fh x := by
  rw [td2]
  unfold fh at *
  split <;> omega
set_option maxRecDepth 100000 in
set_option maxHeartbeats 1600000 in
theorem ofre1 (bi bo n : Nat) (M : Mx) (i : Nat) (hM : ∀ a, a / 2 < n → -17179869184 ≤ M a a ∧ M a a ≤ 17179869184) (he : ∀ a, a / 2 < n → M a a = 2 * fh (M a a)) (x y : Nat) (hx : x < 16) (hy : y < 16) (nx : x / 2 < n) (ny : y / 2 < n) (w : World) (h1 : w.cell? ⟨bi, 0, none⟩ = some (.int .i64 i)) (h2 : OctAt w bo n false M) :
    Calls Try.prog 97 #[.int .i64 x, .int .i64 y, .pointer (some ⟨bi, 0, none⟩), .pointer (some ⟨bo, 0, none⟩)] w fun r w' => r = .returned (.int .i64 (fre i M x y)) ∧ ∃ k, w' = w.drewN k := by
  have k1 := obox x y hx hy
  have k2 := fun V hV => ogreat bo n false M y hy (by have := hM y ny; omega) (by have := hM y ny; omega) V hV
  have k3 := fun V hV => ogreat bo n false M x hx (by have := hM x nx; omega) (by have := hM x nx; omega) V hV
  rw [td_even (he y ny)] at k2
  rw [td_even (he x nx)] at k3
  have x1 := oix bo x hx
  have x2 := oiy bo (2 + x * 16) y hy
  have y1 := h2.hm x y hx hy
  have q1 : wrap64 ((x : Int).tdiv 2) = ((x / 2 : Nat) : Int) := by
    rw [Int.tdiv_eq_ediv_of_nonneg (by omega)]
    unfold wrap64
    omega
  have q2 : wrap64 ((y : Int).tdiv 2) = ((y / 2 : Nat) : Int) := by
    rw [Int.tdiv_eq_ediv_of_nonneg (by omega)]
    unfold wrap64
    omega
  have w1 : IntKind.i64.wrap (8589934592 + fh (M y y)) = 8589934592 + fh (M y y) := by have := hM y ny; unfold fh; rw [IntKind.wrap_i64]; omega
  have w2 : IntKind.i64.wrap (8589934592 + fh (M x x)) = 8589934592 + fh (M x x) := by have := hM x nx; unfold fh; rw [IntKind.wrap_i64]; omega
  unfold fre
  clear hM he
  by_cases cx : x / 2 = i
  · have cx' : ((x : Int) / 2 == (i : Int)) = true := by rw [beq_iff_eq]; omega
    rw [if_pos cx]
    by_cases cy : y / 2 = i
    · have cy' : ((y : Int) / 2 == (i : Int)) = true := by rw [beq_iff_eq]; omega
      rw [if_pos cy]
      generalize bx x y = z at *
      clear cx cy q1 q2 y1 w1 w2
      go_enter Try.func97, Try.ntmps97
      go_wp2_with (first
        | (go_at_call 65; refine (k1 _).mono ?_; rintro r v ⟨rfl, hw⟩; subst v)
        | fail)
      go_ret
      exact ⟨rfl, 0, rfl⟩
    · have cy' : ((y : Int) / 2 == (i : Int)) = false := by rw [beq_eq_false_iff_ne]; omega
      rw [if_neg cy]
      generalize fh (M y y) = z at *
      clear cx cy q1 q2 y1
      go_enter Try.func97, Try.ntmps97
      go_wp2_with (first
        | (go_at_call 52; refine (k2 _ h2).mono ?_; rintro r v ⟨rfl, hw⟩; subst v)
        | fail)
      go_ret
      exact ⟨rfl, 0, rfl⟩
  · have cx' : ((x : Int) / 2 == (i : Int)) = false := by rw [beq_eq_false_iff_ne]; omega
    rw [if_neg cx]
    by_cases cy : y / 2 = i
    · have cy' : ((y : Int) / 2 == (i : Int)) = true := by rw [beq_iff_eq]; omega
      rw [if_pos cy]
      generalize fh (M x x) = z at *
      clear cx cy q1 q2 y1
      go_enter Try.func97, Try.ntmps97
      go_wp2_with (first
        | (go_at_call 52; refine (k3 _ h2).mono ?_; rintro r v ⟨rfl, hw⟩; subst v)
        | fail)
      go_ret
      exact ⟨rfl, 0, rfl⟩
    · have cy' : ((y : Int) / 2 == (i : Int)) = false := by rw [beq_eq_false_iff_ne]; omega
      rw [if_neg cy]
      generalize M x y = z at *
      clear cx cy q1 q2
      go_enter Try.func97, Try.ntmps97
      go_wp2_with fail
      go_ret
      exact ⟨rfl, 0, rfl⟩
set_option maxRecDepth 100000 in
set_option maxHeartbeats 1600000 in
theorem ofree (b n : Nat) (hn : n ≤ 8) (M : Mx) (i : Nat) (hi : i < n) (t : Tt n M) (w : World) (h : OctAt w b n false M) :
    Calls Try.prog 79 #[.pointer (some ⟨b, 0, none⟩), .int .i64 i] w fun r w' => r = .returned (.tuple #[]) ∧ OctAt w' b n false (pm (2 * n) (2 * n) 0 (fre i M) M) ∧ Onl b w w' := by
  have hb : b < w.heap.size := World.block_lt_of_cell? w _ h.hv
  obtain ⟨W, hW⟩ : ∃ W, w.alloc (.cells #[.int .i64 i] 3) = W := ⟨_, rfl⟩
  have gW : Below w.heap.size w W := by rw [← hW]; exact (Below.refl _ _).alloc (Nat.le_refl _) _
  have zW : W.heap.size = w.heap.size + 1 := by rw [← hW]; simp
  have a0 : W.cell? ⟨w.heap.size, 0, none⟩ = some (.int .i64 i) := by rw [← hW]; simp [go_sem]
  have hO := h.on gW
  have he := hO.he
  have h1 := oload b n false M W hO
  have h2 := oalloc W
  have h3 := ostore n false M W
  have h4 := OctAt.made n false M W
  have h5 : Below W.heap.size W (W.alloc (.cells (octC n false M).toArray 70)) := (Below.refl _ _).alloc (Nat.le_refl _) _
  generalize (octC n false M).toArray = C at *
  generalize zC = Z at *
  go_enter Try.func79, Try.ntmps79
  go_upto_region 1 with fail
  (try rw [hW])
  clear hW
  have HZ : Hid (W.heap.size = w.heap.size + 1) := zW
  clear zW
  go_wp2_with fail
  refine wp_load_by 70 (.tmp 10) rfl _ _ rfl h1 ?_
  go_step
  go_step
  refine wp_alloc_by 70 rfl _ h2 ?_
  go_step
  go_step
  refine wp_store_by 70 (.tmp 4) (.tmp 11) rfl _ _ rfl rfl h3 ?_
  clear h1 h2 h3
  replace a0 := sp_cell_on h5 a0
  replace hO := hO.on h5
  have gV := sp_call gW h5
  obtain ⟨o, ho⟩ : ∃ o, W.heap.size = o := ⟨_, rfl⟩
  have HO : Hid (o = w.heap.size + 1) := by rw [← ho]; exact HZ.out
  rw [ho] at h4 ⊢
  clear h5 gW HZ ho he
  generalize W.alloc (.cells C 70) = V at *
  have kf := ofill b n (2 * n) false M rfl (by omega) 97 #[.pointer (some ⟨w.heap.size, 0, none⟩), .pointer (some ⟨o, 0, none⟩)] (fun a v => enters_of Try.func97 (by kernel_rfl) rfl a v) (fre i M)
    (fun X => X.cell? ⟨w.heap.size, 0, none⟩ = some (.int .i64 i) ∧ OctAt X o n false M) (fun X X' a q => ⟨q.cell (by omega) a.1, a.2.onl q (by have := HO.out; omega)⟩)
    (fun a d X ha hd hX => ofre1 w.heap.size o n M i (fun a ha => ⟨t.low (by omega) (by omega), t.up a a (by omega) (by omega)⟩) (fun a ha => t.even (by omega)) a d (by omega) (by omega) (by omega) (by omega) X hX.1 hX.2) V hO ⟨a0, h4⟩
  have cU : Onl b w V := Onl.of gV
  clear gV h4 a0 hO h HO t
  go_wp2_with (first
    | (go_at_call 64; refine kf.mono ?_; rintro r w9 ⟨rfl, hO9, c9⟩)
    | fail)
  exact bodyPost_end (results_none rfl _ _ _) rfl ⟨rfl, hO9, cU.trans c9⟩
set_option maxRecDepth 100000 in
theorem ofreeX (b n : Nat) (M : Mx) (i : Int) (w : World) (h : OctAt w b n true M) :
    Calls Try.prog 79 #[.pointer (some ⟨b, 0, none⟩), .int .i64 i] w fun r w' => r = .returned (.tuple #[]) ∧ OctAt w' b n true M ∧ Onl b w w' := by
  have hO := ob_new h (.cells #[.int .i64 i] 3)
  have cc : Onl b w (w.alloc (.cells #[.int .i64 i] 3)) := Onl.of ((Below.refl _ _).alloc (Nat.le_refl _) _)
  have he := hO.he
  generalize hW : w.alloc (.cells #[.int .i64 i] 3) = W at *
  go_enter Try.func79, Try.ntmps79
  go_upto_region 1 with fail
  (try rw [hW])
  clear hW h
  go_wp2_with fail
  exact bodyPost_ret (results_none rfl _ _ _) rfl ⟨rfl, hO, cc⟩
theorem ofreeZ (b n : Nat) (hn : n ≤ 8) (e : Bool) (M : Mx) (i : Int) (hi : Isv n i) (hT : e = false → Tt n M) (w : World) (h : OctAt w b n e M) :
    Calls Try.prog 79 #[.pointer (some ⟨b, 0, none⟩), .int .i64 i] w fun r w' => r = .returned (.tuple #[]) ∧ (∃ M1, OctAt w' b n e M1 ∧ (e = false → Bst n (fgt i.toNat M) M1)) ∧ Onl b w w' := by
  obtain ⟨j, rfl⟩ : ∃ j : Nat, i = j := ⟨i.toNat, by unfold Isv at hi; omega⟩
  cases e
  · exact (ofree b n hn M j (by unfold Isv at hi; omega) (hT rfl) w h).mono fun r w' q => ⟨q.1, ⟨_, q.2.1, fun _ => (fre_bst (hT rfl)).to (fun a c ha hc => (pm_all _ _ ha hc).symm)⟩, q.2.2⟩
  · exact (ofreeX b n M j w h).mono fun r w' q => ⟨q.1, ⟨M, q.2.1, fun k => by cases k⟩, q.2.2⟩
/-- fault of one number, and of two. -/
theorem fault1 (b n : Nat) (e : Bool) (M : Mx) (c far : Int) (h3 : 0 ≤ far) (h4 : far ≤ 34359738368) (i : Int) (p : Nat) (W : World) (hO : OctAt W b n e M) (hc : W.cell? ⟨p, 0, none⟩ = some (.int .i64 i)) :
    Calls Try.prog 55 #[.pointer (some ⟨b, 0, none⟩), .int .i64 c, .int .i64 far, .slice (some ⟨p, 0, none⟩) 1 1] W fun r w' => (∃ v, r = .returned (.int .i64 v) ∧ ((v = 0 ∧ Isv n i ∧ -far ≤ c ∧ c ≤ far) ∨ (v = 2 ∧ ¬ (Isv n i ∧ -far ≤ c ∧ c ≤ far)))) ∧ w' = W :=
  (ofaultZ b n e M c far h3 h4 p 1 (by omega) (fun _ => i) W hO (fun j hj => by
    have : j = 0 := by omega
    subst this
    exact hc)).mono fun r w' q => by
      obtain ⟨⟨v, rfl, hv⟩, hw⟩ := q
      refine ⟨⟨v, rfl, ?_⟩, hw⟩
      rcases hv with ⟨h0, h1, h2⟩ | ⟨h0, h1⟩
      · exact Or.inl ⟨h0, h1 0 (by omega), h2⟩
      · exact Or.inr ⟨h0, fun q => h1 ⟨fun _ _ => q.1, q.2⟩⟩
theorem fault2 (b n : Nat) (e : Bool) (M : Mx) (c far : Int) (h3 : 0 ≤ far) (h4 : far ≤ 34359738368) (i k : Int) (p : Nat) (W : World) (hO : OctAt W b n e M) (hc0 : W.cell? ⟨p, 0, none⟩ = some (.int .i64 i)) (hc1 : W.cell? ⟨p, 1, none⟩ = some (.int .i64 k)) :
    Calls Try.prog 55 #[.pointer (some ⟨b, 0, none⟩), .int .i64 c, .int .i64 far, .slice (some ⟨p, 0, none⟩) 2 2] W fun r w' => (∃ v, r = .returned (.int .i64 v) ∧ ((v = 0 ∧ Isv n i ∧ Isv n k ∧ -far ≤ c ∧ c ≤ far) ∨ (v = 2 ∧ ¬ (Isv n i ∧ Isv n k ∧ -far ≤ c ∧ c ≤ far)))) ∧ w' = W :=
  (ofaultZ b n e M c far h3 h4 p 2 (by omega) (fun j => if j = 0 then i else k) W hO (fun j hj => by
    have : j = 0 ∨ j = 1 := by omega
    rcases this with rfl | rfl
    · exact hc0
    · exact hc1)).mono fun r w' q => by
      obtain ⟨⟨v, rfl, hv⟩, hw⟩ := q
      refine ⟨⟨v, rfl, ?_⟩, hw⟩
      rcases hv with ⟨h0, h1, h2⟩ | ⟨h0, h1⟩
      · exact Or.inl ⟨h0, h1 0 (by omega), h1 1 (by omega), h2⟩
      · exact Or.inr ⟨h0, fun q => h1 ⟨fun j hj => by
          have : j = 0 ∨ j = 1 := by omega
          rcases this with rfl | rfl
          · exact q.1
          · exact q.2.1, q.2.2⟩⟩
def FgtBad (n : Nat) (i : Int) : Prop := ¬ Isv n i
def FgtGo (n : Nat) (i : Int) (T : Mx) (e' : Bool) (T' : Mx) : Prop := e' = false ∧ Bst n (fgt i.toNat T) T'
set_option maxRecDepth 100000 in
set_option maxHeartbeats 800000 in
theorem oforgetZ (b n : Nat) (hn : n ≤ 8) (e : Bool) (M : Mx) (i : Int) (hT : e = false → Tt n M) (w : World) (h : OctAt w b n e M) :
    Calls Try.prog 48 #[.pointer (some ⟨b, 0, none⟩), .int .i64 i] w fun r w' => (∃ er e' T', r = .returned (.int .i64 er) ∧ OctAt w' b n e' T' ∧ Act5 n (FgtBad n i) (FgtGo n i) e M er e' T') ∧ Onl b w w' := by
  have hO := ob_new h (.cells #[.int .i64 i] 3)
  have cc : Onl b w (w.alloc (.cells #[.int .i64 i] 3)) := Onl.of ((Below.refl _ _).alloc (Nat.le_refl _) _)
  have kf := fault1 b n e M 0 0 (by omega) (by omega) i w.heap.size _ hO (by simp [go_sem])
  have A1 : ¬ Isv n i → Hid (Act5 n (FgtBad n i) (FgtGo n i) e M 2 e M) := fun q => Or.inl ⟨q, rfl, rfl, fun _ _ _ _ _ => rfl⟩
  have A2 : ∀ M1, Isv n i → (e = false → Bst n (fgt i.toNat M) M1) → Hid (Act5 n (FgtBad n i) (FgtGo n i) e M 0 e M1) := fun M1 q r => Or.inr ⟨fun k => k q, rfl, by
    cases e
    · exact Or.inr ⟨rfl, rfl, r rfl⟩
    · exact Or.inl ⟨rfl, rfl⟩⟩
  by_cases q : Isv n i
  · have kf2 : Calls Try.prog 55 #[.pointer (some ⟨b, 0, none⟩), .int .i64 0, .int .i64 0, .slice (some ⟨w.heap.size, 0, none⟩) 1 1] (w.alloc (.cells #[.int .i64 i] 3)) fun r w' => r = .returned (.int .i64 0) ∧ w' = w.alloc (.cells #[.int .i64 i] 3) := kf.mono fun r w' p => by
      obtain ⟨⟨v, rfl, hv⟩, hw⟩ := p
      rcases hv with ⟨rfl, _⟩ | ⟨rfl, p⟩
      · exact ⟨rfl, hw⟩
      · exact absurd ⟨q, by omega, by omega⟩ p
    have kr := fun V hV => ofreeZ b n hn e M i q hT V hV
    replace A2 := fun M1 => A2 M1 q
    clear kf hT h A1 q
    go_enter Try.func48, Try.ntmps48
    go_wp2_with (first
      | (go_at_call 55; refine kf2.mono ?_; rintro r w2 ⟨rfl, hw2⟩; subst w2)
      | (go_at_call 79; refine (kr _ hO).mono ?_; rintro r w3 ⟨rfl, ⟨M1, hO2, hM1⟩, c3⟩; replace cc := cc.trans c3; clear c3)
      | fail)
    go_ret
    exact ⟨⟨0, e, M1, rfl, hO2, (A2 M1 hM1).out⟩, cc⟩
  · have kf2 : Calls Try.prog 55 #[.pointer (some ⟨b, 0, none⟩), .int .i64 0, .int .i64 0, .slice (some ⟨w.heap.size, 0, none⟩) 1 1] (w.alloc (.cells #[.int .i64 i] 3)) fun r w' => r = .returned (.int .i64 2) ∧ w' = w.alloc (.cells #[.int .i64 i] 3) := kf.mono fun r w' p => by
      obtain ⟨⟨v, rfl, hv⟩, hw⟩ := p
      rcases hv with ⟨rfl, p, _⟩ | ⟨rfl, p⟩
      · exact absurd p q
      · exact ⟨rfl, hw⟩
    replace A1 := A1 q
    clear kf hT h A2 q
    go_enter Try.func48, Try.ntmps48
    go_wp2_with (first
      | (go_at_call 55; refine kf2.mono ?_; rintro r w2 ⟨rfl, hw2⟩; subst w2)
      | fail)
    go_ret
    exact ⟨⟨2, e, M, rfl, hO, A1.out⟩, cc⟩
end Go.Proofs.Ytpcbammncaeimaa

