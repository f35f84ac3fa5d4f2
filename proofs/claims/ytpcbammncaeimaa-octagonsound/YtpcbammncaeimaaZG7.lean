/- Texts of the proof, put together. -/
import Derived.Test.YtpcbammncaeimaaZG5
import Derived.Test.YtpcbammncaeimaaZG6
namespace Go.Proofs.Ytpcbammncaeimaa
open Go.RowKit
set_option linter.unusedVariables false
set_option linter.unusedSimpArgs false
theorem td_even {x : Int} (h : x = 2 * fh x) : x.tdiv 2 = fh x := by
  rw [td2]
  unfold fh at *
  split <;> omega
set_option maxRecDepth 100000 in
set_option maxHeartbeats 1600000 in
theorem ofre1 (bi bo n : Nat) (M : Mx) (i : Nat) (hM : ∀ a, a / 2 < n → -17179869184 ≤ M a a ∧ M a a ≤ 17179869184) (he : ∀ a, a / 2 < n → M a a = 2 * fh (M a a)) (x y : Nat) (hx : x < 16) (hy : y < 16) (nx : x / 2 < n) (ny : y / 2 < n) (w : World) (h1 : w.cell? ⟨bi, 0, none⟩ = some (.int .i64 i)) (h2 : OctAt w bo n false M) :
    Calls Try.prog 97 #[.int .i64 x, .int .i64 y, .pointer (some ⟨bi, 0, none⟩), .pointer (some ⟨bo, 0, none⟩)] w fun r w' => r = .returned (.int .i64 (fre i M x y)) ∧ ∃ k, w' = w.drewN k := by
  have k1 := obox x y hx hy
  have k2 := fun V hV => ogreat bo n false M y hy (by have := hM y ny; omega) (by have := hM y ny; omega) V hV
  have k3 := fun V hV => ogreat bo n false M x hx (by have := hM x nx; omega) (by have := hM x nx; omega) V hV
  rw [td_even (he y ny)] at k2
  rw [td_even (he x nx)] at k3
  have x1 := oix bo x hx
  have x2 := oiy bo (2 + x * 16) y hy
  have y1 := h2.hm x y hx hy
  have q1 : wrap64 ((x : Int).tdiv 2) = ((x / 2 : Nat) : Int) := by
    rw [Int.tdiv_eq_ediv_of_nonneg (by omega)]
    unfold wrap64
    omega
  have q2 : wrap64 ((y : Int).tdiv 2) = ((y / 2 : Nat) : Int) := by
    rw [Int.tdiv_eq_ediv_of_nonneg (by omega)]
    unfold wrap64
    omega
  have w1 : IntKind.i64.wrap (8589934592 + fh (M y y)) = 8589934592 + fh (M y y) := by have := hM y ny; unfold fh; rw [IntKind.wrap_i64]; omega
  have w2 : IntKind.i64.wrap (8589934592 + fh (M x x)) = 8589934592 + fh (M x x) := by have := hM x nx; unfold fh; rw [IntKind.wrap_i64]; omega
  unfold fre
  clear hM he
  by_cases cx : x / 2 = i
  · have cx' : ((x : Int) / 2 == (i : Int)) = true := by rw [beq_iff_eq]; omega
    rw [if_pos cx]
    by_cases cy : y / 2 = i
    · have cy' : ((y : Int) / 2 == (i : Int)) = true := by rw [beq_iff_eq]; omega
      rw [if_pos cy]
      generalize bx x y = z at *
      clear cx cy q1 q2 y1 w1 w2
      go_enter Try.func97, Try.ntmps97
      go_wp2_with (first
        | (go_at_call 65; refine (k1 _).mono ?_; rintro r v ⟨rfl, hw⟩; subst v)
        | fail)
      go_ret
      exact ⟨rfl, 0, rfl⟩
    · have cy' : ((y : Int) / 2 == (i : Int)) = false := by rw [beq_eq_false_iff_ne]; omega
      rw [if_neg cy]
      generalize fh (M y y) = z at *
      clear cx cy q1 q2 y1
      go_enter Try.func97, Try.ntmps97
      go_wp2_with (first
        | (go_at_call 52; refine (k2 _ h2).mono ?_; rintro r v ⟨rfl, hw⟩; subst v)
        | fail)
      go_ret
      exact ⟨rfl, 0, rfl⟩
  · have cx' : ((x : Int) / 2 == (i : Int)) = false := by rw [beq_eq_false_iff_ne]; omega
    rw [if_neg cx]
    by_cases cy : y / 2 = i
    · have cy' : ((y : Int) / 2 == (i : Int)) = true := by rw [beq_iff_eq]; omega
      rw [if_pos cy]
      generalize fh (M x x) = z at *
      clear cx cy q1 q2 y1
      go_enter Try.func97, Try.ntmps97
      go_wp2_with (first
        | (go_at_call 52; refine (k3 _ h2).mono ?_; rintro r v ⟨rfl, hw⟩; subst v)
        | fail)
      go_ret
      exact ⟨rfl, 0, rfl⟩
    · have cy' : ((y : Int) / 2 == (i : Int)) = false := by rw [beq_eq_false_iff_ne]; omega
      rw [if_neg cy]
      generalize M x y = z at *
      clear cx cy q1 q2
      go_enter Try.func97, Try.ntmps97
      go_wp2_with fail
      go_ret
      exact ⟨rfl, 0, rfl⟩
set_option maxRecDepth 100000 in
set_option maxHeartbeats 1600000 in
theorem ofree (b n : Nat) (hn : n ≤ 8) (M : Mx) (i : Nat) (hi : i < n) (t : Tt n M) (w : World) (h : OctAt w b n false M) :
    Calls Try.prog 79 #[.pointer (some ⟨b, 0, none⟩), .int .i64 i] w fun r w' => r = .returned (.tuple #[]) ∧ OctAt w' b n false (pm (2 * n) (2 * n) 0 (fre i M) M) ∧ Onl b w w' := by
  have hb : b < w.heap.size := World.block_lt_of_cell? w _ h.hv
  obtain ⟨W, hW⟩ : ∃ W, w.alloc (.cells #[.int .i64 i] 3) = W := ⟨_, rfl⟩
  have gW : Below w.heap.size w W := by rw [← hW]; exact (Below.refl _ _).alloc (Nat.le_refl _) _
  have zW : W.heap.size = w.heap.size + 1 := by rw [← hW]; simp
  have a0 : W.cell? ⟨w.heap.size, 0, none⟩ = some (.int .i64 i) := by rw [← hW]; simp [go_sem]
  have hO := h.on gW
  have he := hO.he
  have h1 := oload b n false M W hO
  have h2 := oalloc W
  have h3 := ostore n false M W
  have h4 := OctAt.made n false M W
  have h5 : Below W.heap.size W (W.alloc (.cells (octC n false M).toArray 70)) := (Below.refl _ _).alloc (Nat.le_refl _) _
  generalize (octC n false M).toArray = C at *
  generalize zC = Z at *
  go_enter Try.func79, Try.ntmps79
  go_upto_region 1 with fail
  (try rw [hW])
  clear hW
  have HZ : Hid (W.heap.size = w.heap.size + 1) := zW
  clear zW
  go_wp2_with fail
  refine wp_load_by 70 (.tmp 10) rfl _ _ rfl h1 ?_
  go_step
  go_step
  refine wp_alloc_by 70 rfl _ h2 ?_
  go_step
  go_step
  refine wp_store_by 70 (.tmp 4) (.tmp 11) rfl _ _ rfl rfl h3 ?_
  clear h1 h2 h3
  replace a0 := sO h5 a0
  replace hO := hO.on h5
  have gV := sp_call gW h5
  obtain ⟨o, ho⟩ : ∃ o, W.heap.size = o := ⟨_, rfl⟩
  have HO : Hid (o = w.heap.size + 1) := by rw [← ho]; exact HZ.out
  rw [ho] at h4 ⊢
  clear h5 gW HZ ho he
  generalize W.alloc (.cells C 70) = V at *
  have kf := ofill b n (2 * n) false M rfl (by omega) 97 #[.pointer (some ⟨w.heap.size, 0, none⟩), .pointer (some ⟨o, 0, none⟩)] (fun a v => enters_of Try.func97 (by kernel_rfl) rfl a v) (fre i M)
    (fun X => X.cell? ⟨w.heap.size, 0, none⟩ = some (.int .i64 i) ∧ OctAt X o n false M) (fun X X' a q => ⟨q.cell (by omega) a.1, a.2.onl q (by have := HO.out; omega)⟩)
    (fun a d X ha hd hX => ofre1 w.heap.size o n M i (fun a ha => ⟨t.low (by omega) (by omega), t.up a a (by omega) (by omega)⟩) (fun a ha => t.even (by omega)) a d (by omega) (by omega) (by omega) (by omega) X hX.1 hX.2) V hO ⟨a0, h4⟩
  have cU : Onl b w V := Onl.of gV
  clear gV h4 a0 hO h HO t
  go_wp2_with (first
    | (go_at_call 64; refine kf.mono ?_; rintro r w9 ⟨rfl, hO9, c9⟩)
    | fail)
  exact bodyPost_end (results_none rfl _ _ _) rfl ⟨rfl, hO9, cU.trans c9⟩
set_option maxRecDepth 100000 in
theorem ofreeX (b n : Nat) (M : Mx) (i : Int) (w : World) (h : OctAt w b n true M) :
    Calls Try.prog 79 #[.pointer (some ⟨b, 0, none⟩), .int .i64 i] w fun r w' => r = .returned (.tuple #[]) ∧ OctAt w' b n true M ∧ Onl b w w' := by
  have hO := ob_new h (.cells #[.int .i64 i] 3)
  have cc : Onl b w (w.alloc (.cells #[.int .i64 i] 3)) := Onl.of ((Below.refl _ _).alloc (Nat.le_refl _) _)
  have he := hO.he
  generalize hW : w.alloc (.cells #[.int .i64 i] 3) = W at *
  go_enter Try.func79, Try.ntmps79
  go_upto_region 1 with fail
  (try rw [hW])
  clear hW h
  go_wp2_with fail
  exact bodyPost_ret (results_none rfl _ _ _) rfl ⟨rfl, hO, cc⟩
theorem ofreeZ (b n : Nat) (hn : n ≤ 8) (e : Bool) (M : Mx) (i : Int) (hi : Isv n i) (hT : e = false → Tt n M) (w : World) (h : OctAt w b n e M) :
    Calls Try.prog 79 #[.pointer (some ⟨b, 0, none⟩), .int .i64 i] w fun r w' => r = .returned (.tuple #[]) ∧ (∃ M1, OctAt w' b n e M1 ∧ (e = false → Bst n (fgt i.toNat M) M1)) ∧ Onl b w w' := by
  obtain ⟨j, rfl⟩ : ∃ j : Nat, i = j := ⟨i.toNat, by unfold Isv at hi; omega⟩
  cases e
  · exact (ofree b n hn M j (by unfold Isv at hi; omega) (hT rfl) w h).mono fun r w' q => ⟨q.1, ⟨_, q.2.1, fun _ => (fre_bst (hT rfl)).to (fun a c ha hc => (pm_all _ _ ha hc).symm)⟩, q.2.2⟩
  · exact (ofreeX b n M j w h).mono fun r w' q => ⟨q.1, ⟨M, q.2.1, fun k => by cases k⟩, q.2.2⟩
theorem fault1 (b n : Nat) (e : Bool) (M : Mx) (c far : Int) (h3 : 0 ≤ far) (h4 : far ≤ 34359738368) (i : Int) (p : Nat) (W : World) (hO : OctAt W b n e M) (hc : W.cell? ⟨p, 0, none⟩ = some (.int .i64 i)) :
    Calls Try.prog 55 #[.pointer (some ⟨b, 0, none⟩), .int .i64 c, .int .i64 far, .slice (some ⟨p, 0, none⟩) 1 1] W fun r w' => (∃ v, r = .returned (.int .i64 v) ∧ ((v = 0 ∧ Isv n i ∧ -far ≤ c ∧ c ≤ far) ∨ (v = 2 ∧ ¬ (Isv n i ∧ -far ≤ c ∧ c ≤ far)))) ∧ w' = W :=
  (ofaultZ b n e M c far h3 h4 p 1 (by omega) (fun _ => i) W hO (fun j hj => by
    have : j = 0 := by omega
    subst this
    exact hc)).mono fun r w' q => by
      obtain ⟨⟨v, rfl, hv⟩, hw⟩ := q
      refine ⟨⟨v, rfl, ?_⟩, hw⟩
      rcases hv with ⟨h0, h1, h2⟩ | ⟨h0, h1⟩
      · exact Or.inl ⟨h0, h1 0 (by omega), h2⟩
      · exact Or.inr ⟨h0, fun q => h1 ⟨fun _ _ => q.1, q.2⟩⟩
theorem fault2 (b n : Nat) (e : Bool) (M : Mx) (c far : Int) (h3 : 0 ≤ far) (h4 : far ≤ 34359738368) (i k : Int) (p : Nat) (W : World) (hO : OctAt W b n e M) (hc0 : W.cell? ⟨p, 0, none⟩ = some (.int .i64 i)) (hc1 : W.cell? ⟨p, 1, none⟩ = some (.int .i64 k)) :
    Calls Try.prog 55 #[.pointer (some ⟨b, 0, none⟩), .int .i64 c, .int .i64 far, .slice (some ⟨p, 0, none⟩) 2 2] W fun r w' => (∃ v, r = .returned (.int .i64 v) ∧ ((v = 0 ∧ Isv n i ∧ Isv n k ∧ -far ≤ c ∧ c ≤ far) ∨ (v = 2 ∧ ¬ (Isv n i ∧ Isv n k ∧ -far ≤ c ∧ c ≤ far)))) ∧ w' = W :=
  (ofaultZ b n e M c far h3 h4 p 2 (by omega) (fun j => if j = 0 then i else k) W hO (fun j hj => by
    have : j = 0 ∨ j = 1 := by omega
    rcases this with rfl | rfl
    · exact hc0
    · exact hc1)).mono fun r w' q => by
      obtain ⟨⟨v, rfl, hv⟩, hw⟩ := q
      refine ⟨⟨v, rfl, ?_⟩, hw⟩
      rcases hv with ⟨h0, h1, h2⟩ | ⟨h0, h1⟩
      · exact Or.inl ⟨h0, h1 0 (by omega), h1 1 (by omega), h2⟩
      · exact Or.inr ⟨h0, fun q => h1 ⟨fun j hj => by
          have : j = 0 ∨ j = 1 := by omega
          rcases this with rfl | rfl
          · exact q.1
          · exact q.2.1, q.2.2⟩⟩
def FgtBad (n : Nat) (i : Int) : Prop := ¬ Isv n i
def FgtGo (n : Nat) (i : Int) (T : Mx) (e' : Bool) (T' : Mx) : Prop := e' = false ∧ Bst n (fgt i.toNat T) T'
set_option maxRecDepth 100000 in
set_option maxHeartbeats 800000 in
theorem oforgetZ (b n : Nat) (hn : n ≤ 8) (e : Bool) (M : Mx) (i : Int) (hT : e = false → Tt n M) (w : World) (h : OctAt w b n e M) :
    Calls Try.prog 48 #[.pointer (some ⟨b, 0, none⟩), .int .i64 i] w fun r w' => (∃ er e' T', r = .returned (.int .i64 er) ∧ OctAt w' b n e' T' ∧ Act5 n (FgtBad n i) (FgtGo n i) e M er e' T') ∧ Onl b w w' := by
  have hO := ob_new h (.cells #[.int .i64 i] 3)
  have cc : Onl b w (w.alloc (.cells #[.int .i64 i] 3)) := Onl.of ((Below.refl _ _).alloc (Nat.le_refl _) _)
  have kf := fault1 b n e M 0 0 (by omega) (by omega) i w.heap.size _ hO (by simp [go_sem])
  have A1 : ¬ Isv n i → Hid (Act5 n (FgtBad n i) (FgtGo n i) e M 2 e M) := fun q => Or.inl ⟨q, rfl, rfl, fun _ _ _ _ _ => rfl⟩
  have A2 : ∀ M1, Isv n i → (e = false → Bst n (fgt i.toNat M) M1) → Hid (Act5 n (FgtBad n i) (FgtGo n i) e M 0 e M1) := fun M1 q r => Or.inr ⟨fun k => k q, rfl, by
    cases e
    · exact Or.inr ⟨rfl, rfl, r rfl⟩
    · exact Or.inl ⟨rfl, rfl⟩⟩
  by_cases q : Isv n i
  · have kf2 : Calls Try.prog 55 #[.pointer (some ⟨b, 0, none⟩), .int .i64 0, .int .i64 0, .slice (some ⟨w.heap.size, 0, none⟩) 1 1] (w.alloc (.cells #[.int .i64 i] 3)) fun r w' => r = .returned (.int .i64 0) ∧ w' = w.alloc (.cells #[.int .i64 i] 3) := kf.mono fun r w' p => by
      obtain ⟨⟨v, rfl, hv⟩, hw⟩ := p
      rcases hv with ⟨rfl, _⟩ | ⟨rfl, p⟩
      · exact ⟨rfl, hw⟩
      · exact absurd ⟨q, by omega, by omega⟩ p
    have kr := fun V hV => ofreeZ b n hn e M i q hT V hV
    replace A2 := fun M1 => A2 M1 q
    clear kf hT h A1 q
    go_enter Try.func48, Try.ntmps48
    go_wp2_with (first
      | (go_at_call 55; refine kf2.mono ?_; rintro r w2 ⟨rfl, hw2⟩; subst w2)
      | (go_at_call 79; refine (kr _ hO).mono ?_; rintro r w3 ⟨rfl, ⟨M1, hO2, hM1⟩, c3⟩; replace cc := cc.trans c3; clear c3)
      | fail)
    go_ret
    exact ⟨⟨0, e, M1, rfl, hO2, (A2 M1 hM1).out⟩, cc⟩
  · have kf2 : Calls Try.prog 55 #[.pointer (some ⟨b, 0, none⟩), .int .i64 0, .int .i64 0, .slice (some ⟨w.heap.size, 0, none⟩) 1 1] (w.alloc (.cells #[.int .i64 i] 3)) fun r w' => r = .returned (.int .i64 2) ∧ w' = w.alloc (.cells #[.int .i64 i] 3) := kf.mono fun r w' p => by
      obtain ⟨⟨v, rfl, hv⟩, hw⟩ := p
      rcases hv with ⟨rfl, p, _⟩ | ⟨rfl, p⟩
      · exact absurd p q
      · exact ⟨rfl, hw⟩
    replace A1 := A1 q
    clear kf hT h A2 q
    go_enter Try.func48, Try.ntmps48
    go_wp2_with (first
      | (go_at_call 55; refine kf2.mono ?_; rintro r w2 ⟨rfl, hw2⟩; subst w2)
      | fail)
    go_ret
    exact ⟨⟨2, e, M, rfl, hO, A1.out⟩, cc⟩
end Go.Proofs.Ytpcbammncaeimaa


namespace Go.Proofs.Ytpcbammncaeimaa
open Go.RowKit
set_option linter.unusedVariables false
set_option linter.unusedSimpArgs false
def CpyBad (n : Nat) (i k c : Int) : Prop := ¬ (Isv n i ∧ Isv n k ∧ -8589934592 ≤ c ∧ c ≤ 8589934592) ∨ i = k
def cpS (i k : Int) (g : Bool) (c : Int) (M : Mx) : Mx := low (low M (sdn i false) (ot (sdn k g)) c) (ot (sdn i false)) (sdn k g) (-c)
def CpyGo (n : Nat) (i k : Int) (g : Bool) (c : Int) (T : Mx) (e' : Bool) (T' : Mx) : Prop := ∃ T1, Bst n (fgt i.toNat T) T1 ∧ Res n (cpS i k g c T1) e' T'
theorem cpS_bd {n : Nat} {M : Mx} (t : Tt n M) {i k : Int} {g : Bool} {c : Int} (h1 : -8589934592 ≤ c) (h2 : c ≤ 8589934592) {a d : Nat} (ha : a < 2 * n) (hd : d < 2 * n) : -68719476736 ≤ cpS i k g c M a d ∧ cpS i k g c M a d ≤ 68719476736 := by
  refine ⟨low_ge (fun a d ha hd => low_ge (fun a d ha hd => by have := t.low ha hd; omega) (by omega) ha hd) (by omega) ha hd, ?_⟩
  have q1 := low_le (low M (sdn i false) (ot (sdn k g)) c) (ot (sdn i false)) (sdn k g) (-c) a d
  have q2 := low_le M (sdn i false) (ot (sdn k g)) c a d
  have q3 := t.up a d ha hd
  unfold cpS
  omega
set_option maxRecDepth 100000 in
set_option maxHeartbeats 1600000 in
theorem ocopyZ (b n : Nat) (hn : n ≤ 8) (e : Bool) (M : Mx) (i k : Int) (g : Bool) (c : Int) (hT : e = false → Tt n M) (w : World) (h : OctAt w b n e M) :
    Calls Try.prog 49 #[.pointer (some ⟨b, 0, none⟩), .int .i64 i, .int .i64 k, .bool g, .int .i64 c] w fun r w' => (∃ er e' T', r = .returned (.int .i64 er) ∧ OctAt w' b n e' T' ∧ Act5 n (CpyBad n i k c) (CpyGo n i k g c) e M er e' T') ∧ Onl b w w' := by
  have hO := ob_new h (.cells #[.int .i64 i, .int .i64 k] 3)
  have cc : Onl b w (w.alloc (.cells #[.int .i64 i, .int .i64 k] 3)) := Onl.of ((Below.refl _ _).alloc (Nat.le_refl _) _)
  have kf := fault2 b n e M c 8589934592 (by omega) (by omega) i k w.heap.size _ hO (by simp [go_sem]) (by simp [go_sem])
  by_cases good : Isv n i ∧ Isv n k ∧ -8589934592 ≤ c ∧ c ≤ 8589934592
  · have kf2 : Calls Try.prog 55 #[.pointer (some ⟨b, 0, none⟩), .int .i64 c, .int .i64 8589934592, .slice (some ⟨w.heap.size, 0, none⟩) 2 2] (w.alloc (.cells #[.int .i64 i, .int .i64 k] 3)) fun r w' => r = .returned (.int .i64 0) ∧ w' = w.alloc (.cells #[.int .i64 i, .int .i64 k] 3) := kf.mono fun r w' p => by
      obtain ⟨⟨v, rfl, hv⟩, hw⟩ := p
      rcases hv with ⟨rfl, _⟩ | ⟨rfl, p⟩
      · exact ⟨rfl, hw⟩
      · exact absurd good p
    by_cases ik : i = k
    · have hA : Hid (Act5 n (CpyBad n i k c) (CpyGo n i k g c) e M 2 e M) := Or.inl ⟨Or.inr ik, rfl, rfl, fun _ _ _ _ _ => rfl⟩
      clear kf hT h good
      subst ik
      go_enter Try.func49, Try.ntmps49
      go_wp2_with (first
        | (go_at_call 55; refine kf2.mono ?_; rintro r w2 ⟨rfl, hw2⟩; subst w2)
        | fail)
      go_ret
      exact ⟨⟨2, e, M, rfl, hO, hA.out⟩, cc⟩
    · have hA : ∀ M1 M2 M3 e' T', (e = false → Bst n (fgt i.toNat M) M1) → (e = false → M2 = low M1 (sdn i false) (ot (sdn k g)) c) → (e = false → M3 = low M2 (ot (sdn i false)) (sdn k g) (-c)) → RsE n e M3 e' T' → Hid (Act5 n (CpyBad n i k c) (CpyGo n i k g c) e M 0 e' T') := fun M1 M2 M3 e' T' q1 q2 q3 r => Or.inr ⟨fun p => p.elim (fun p => p good) ik, rfl, by
        rcases r with r | ⟨he, r⟩
        · exact Or.inl r
        · exact Or.inr ⟨he, M1, q1 he, by rw [q3 he, q2 he] at r; exact r⟩⟩
      have kt := fun V M1 M2 M3 (q1 : e = false → Bst n (fgt i.toNat M) M1) (q2 : e = false → M2 = low M1 (sdn i false) (ot (sdn k g)) c) (q3 : e = false → M3 = low M2 (ot (sdn i false)) (sdn k g) (-c)) hV => otightZ b n hn e M3 (fun he a d ha hd => by
        rw [q3 he, q2 he]
        exact cpS_bd (fgt_tt (hT he) (q1 he)) good.2.2.1 good.2.2.2 ha hd) V hV
      have kr := fun V hV => ofreeZ b n hn e M i good.1 hT V hV
      obtain ⟨⟨i0, i1⟩, ⟨k0, k1⟩, c1, c2⟩ := good
      have bg := Bool.toNat_le g
      have s1 := oside i.toNat (by omega) false
      have s2 := oside k.toNat (by omega) g
      rw [show ((i.toNat : Nat) : Int) = i by omega] at s1
      rw [show ((k.toNat : Nat) : Int) = k by omega] at s2
      change ∀ w : World, Calls Try.prog _ _ w fun r w' => r = .returned (.int .i64 (sdn i false : Int)) ∧ w' = w at s1
      change ∀ w : World, Calls Try.prog _ _ w fun r w' => r = .returned (.int .i64 (sdn k g : Int)) ∧ w' = w at s2
      have x16 : sdn i false < 16 := by unfold sdn; simp; omega
      have y16 : sdn k g < 16 := by unfold sdn; omega
      have ox : ot (sdn i false) < 16 := ot_lt (n := 8) x16
      have oy : ot (sdn k g) < 16 := ot_lt (n := 8) y16
      have t1 := oother (sdn i false) x16
      have t2 := oother (sdn k g) y16
      have kl1 := fun V M1 hV => olowerZ b n e M1 (sdn i false) (ot (sdn k g)) x16 oy c V hV
      have kl2 := fun V M1 hV => olowerZ b n e M1 (ot (sdn i false)) (sdn k g) ox y16 (-c) V hV
      have wn : IntKind.i64.wrap (-c) = -c := by rw [IntKind.wrap_i64]; omega
      have neq : sdn i false ≠ ot (sdn i false) := by unfold ot; split <;> omega
      have nexy : sdn i false ≠ sdn k g := by unfold sdn; simp; omega
      clear hT bg h kf i0 i1 k0 k1 c1 c2 x16 y16 ox oy
      generalize fgt i.toNat M = F at *
      generalize ot (sdn i false) = x2 at *
      generalize ot (sdn k g) = y2 at *
      generalize sdn i false = x at *
      generalize sdn k g = y at *
      go_enter Try.func49, Try.ntmps49
      go_wp2_with (first
        | (go_at_call 55; refine kf2.mono ?_; rintro r w2 ⟨rfl, hw2⟩; subst w2)
        | (go_at_call 79; refine (kr _ hO).mono ?_; rintro r w3 ⟨rfl, ⟨M1, hO1, q1⟩, c3⟩; replace cc := cc.trans c3; clear c3)
        | (go_at_call 53; with_reducible refine (s1 _).mono ?_; rintro r v3 ⟨rfl, hw3⟩; subst v3; clear s1)
        | (go_at_call 53; with_reducible refine (s2 _).mono ?_; rintro r v3 ⟨rfl, hw3⟩; subst v3; clear s2)
        | (go_at_call_of 80 y; refine (t2 _).mono ?_; rintro r v4 ⟨rfl, hw4⟩; subst v4; clear t2)
        | (go_at_call_of 80 x; refine (t1 _).mono ?_; rintro r v4 ⟨rfl, hw4⟩; subst v4; clear t1)
        | (go_at_call 58; with_reducible refine (kl1 _ _ hO1).mono ?_; rintro r w4 ⟨rfl, ⟨M2, hO2, q2⟩, c4⟩; replace cc := cc.trans c4; clear c4 kl1)
        | (go_at_call 58; with_reducible refine (kl2 _ _ hO2).mono ?_; rintro r w5 ⟨rfl, ⟨M3, hO3, q3⟩, c5⟩; replace cc := cc.trans c5; clear c5 kl2)
        | (go_at_call 59; refine (kt _ M1 M2 M3 q1 q2 q3 hO3).mono ?_; rintro r w6 ⟨rfl, ⟨e6, T6, hO4, r6⟩, c6⟩; replace cc := cc.trans c6; clear c6)
        | fail)
      go_ret
      exact ⟨⟨0, e6, T6, rfl, hO4, (hA M1 M2 M3 e6 T6 q1 q2 q3 r6).out⟩, cc⟩
  · have kf2 : Calls Try.prog 55 #[.pointer (some ⟨b, 0, none⟩), .int .i64 c, .int .i64 8589934592, .slice (some ⟨w.heap.size, 0, none⟩) 2 2] (w.alloc (.cells #[.int .i64 i, .int .i64 k] 3)) fun r w' => r = .returned (.int .i64 2) ∧ w' = w.alloc (.cells #[.int .i64 i, .int .i64 k] 3) := kf.mono fun r w' p => by
      obtain ⟨⟨v, rfl, hv⟩, hw⟩ := p
      rcases hv with ⟨rfl, p⟩ | ⟨rfl, p⟩
      · exact absurd p good
      · exact ⟨rfl, hw⟩
    have hA : Hid (Act5 n (CpyBad n i k c) (CpyGo n i k g c) e M 2 e M) := Or.inl ⟨Or.inl good, rfl, rfl, fun _ _ _ _ _ => rfl⟩
    clear kf hT h good
    go_enter Try.func49, Try.ntmps49
    go_wp2_with (first
      | (go_at_call 55; refine kf2.mono ?_; rintro r w2 ⟨rfl, hw2⟩; subst w2)
      | fail)
    go_ret
    exact ⟨⟨2, e, M, rfl, hO, hA.out⟩, cc⟩
def ShfBad (n : Nat) (i c : Int) : Prop := ¬ (Isv n i ∧ -8589934592 ≤ c ∧ c ≤ 8589934592)
def ShfGo (n : Nat) (i : Int) (g : Bool) (c : Int) (T : Mx) (e' : Bool) (T' : Mx) : Prop := Res n (clp (mv g i.toNat c T)) e' T'
set_option maxRecDepth 100000 in
theorem omoveX (b n : Nat) (M : Mx) (i : Int) (g : Bool) (c : Int) (w : World) (h : OctAt w b n true M) :
    Calls Try.prog 81 #[.pointer (some ⟨b, 0, none⟩), .int .i64 i, .bool g, .int .i64 c] w fun r w' => r = .returned (.tuple #[]) ∧ OctAt w' b n true M ∧ Onl b w w' := by
  have hO := ob_new (ob_new (ob_new h (.cells #[.int .i64 i] 3)) (.cells #[.bool g] 4)) (.cells #[.int .i64 c] 2)
  have cc : Onl b w (((w.alloc (.cells #[.int .i64 i] 3)).alloc (.cells #[.bool g] 4)).alloc (.cells #[.int .i64 c] 2)) := Onl.of (((Below.refl _ _).alloc (Nat.le_refl _) _).alloc (by simp) _ |>.alloc (by simp; omega) _)
  have he := hO.he
  generalize hW : ((w.alloc (.cells #[.int .i64 i] 3)).alloc (.cells #[.bool g] 4)).alloc (.cells #[.int .i64 c] 2) = W at *
  go_enter Try.func81, Try.ntmps81
  go_upto_region 1 with fail
  (try rw [hW])
  clear hW h
  go_wp2_with fail
  exact bodyPost_ret (results_none rfl _ _ _) rfl ⟨rfl, hO, cc⟩
theorem omoveZ (b n : Nat) (hn : n ≤ 8) (e : Bool) (M : Mx) (i : Nat) (hi : i < n) (g : Bool) (c : Int) (hc : -8589934592 ≤ c ∧ c ≤ 8589934592) (hT : e = false → Tt n M) (w : World) (h : OctAt w b n e M) :
    Calls Try.prog 81 #[.pointer (some ⟨b, 0, none⟩), .int .i64 i, .bool g, .int .i64 c] w fun r w' => r = .returned (.tuple #[]) ∧ (∃ M1, OctAt w' b n e M1 ∧ (e = false → Agr n M1 (mv g i c M))) ∧ Onl b w w' := by
  cases e
  · exact (omove b n hn M i hi g c hc (fun a d ha hd => by have := (hT rfl).up a d ha hd; have := (hT rfl).low ha hd; omega) w h).mono fun r w' q => ⟨q.1, ⟨_, q.2.1, fun _ => pm_agr n _ _⟩, q.2.2⟩
  · exact (omoveX b n M i g c w h).mono fun r w' q => ⟨q.1, ⟨M, q.2.1, fun k => by cases k⟩, q.2.2⟩
theorem Agr.low1 {n : Nat} {A B : Mx} (h : Agr n A B) {x y : Nat} (hx : x < 2 * n) (hy : y < 2 * n) (v : Int) : Agr n (low1 A x y v) (low1 B x y v) := fun a c ha hc => by
  show up1 A x y (min (A x y) v) a c = up1 B x y (min (B x y) v) a c
  unfold up1
  rw [h x y hx hy, h a c ha hc]
theorem Agr.low {n : Nat} {A B : Mx} (h : Agr n A B) {x y : Nat} (hx : x < 2 * n) (hy : y < 2 * n) (v : Int) : Agr n (low A x y v) (low B x y v) := (h.low1 hx hy v).low1 hy hx v
theorem Agr.le_iff {n : Nat} {A B : Mx} (h : Agr n A B) (X : Mx) : Le n X A ↔ Le n X B := ⟨fun l a b ha hb => by rw [← h a b ha hb]; exact l a b ha hb, fun l a b ha hb => by rw [h a b ha hb]; exact l a b ha hb⟩
set_option maxRecDepth 100000 in
set_option maxHeartbeats 1600000 in
theorem oshiftZ (b n : Nat) (hn : n ≤ 8) (e : Bool) (M : Mx) (i : Int) (g : Bool) (c : Int) (hT : e = false → Tt n M) (w : World) (h : OctAt w b n e M) :
    Calls Try.prog 50 #[.pointer (some ⟨b, 0, none⟩), .int .i64 i, .bool g, .int .i64 c] w fun r w' => (∃ er e' T', r = .returned (.int .i64 er) ∧ OctAt w' b n e' T' ∧ Act5 n (ShfBad n i c) (ShfGo n i g c) e M er e' T') ∧ Onl b w w' := by
  have hO := ob_new h (.cells #[.int .i64 i] 3)
  have cc : Onl b w (w.alloc (.cells #[.int .i64 i] 3)) := Onl.of ((Below.refl _ _).alloc (Nat.le_refl _) _)
  have kf := fault1 b n e M c 8589934592 (by omega) (by omega) i w.heap.size _ hO (by simp [go_sem])
  by_cases good : Isv n i ∧ -8589934592 ≤ c ∧ c ≤ 8589934592
  · have kf2 : Calls Try.prog 55 #[.pointer (some ⟨b, 0, none⟩), .int .i64 c, .int .i64 8589934592, .slice (some ⟨w.heap.size, 0, none⟩) 1 1] (w.alloc (.cells #[.int .i64 i] 3)) fun r w' => r = .returned (.int .i64 0) ∧ w' = w.alloc (.cells #[.int .i64 i] 3) := kf.mono fun r w' p => by
      obtain ⟨⟨v, rfl, hv⟩, hw⟩ := p
      rcases hv with ⟨rfl, _⟩ | ⟨rfl, p⟩
      · exact ⟨rfl, hw⟩
      · exact absurd good p
    obtain ⟨j, rfl⟩ : ∃ j : Nat, i = j := ⟨i.toNat, by unfold Isv at good; omega⟩
    have hj : j < n := by unfold Isv at good; omega
    have agS : ∀ M1 M2 M3, (e = false → Agr n M1 (mv g j c M)) → (e = false → M2 = low M1 (2 * j) (2 * j) 17179869184) → (e = false → M3 = low M2 (2 * j + 1) (2 * j + 1) 17179869184) → e = false → Agr n M3 (shS g j c M) := fun M1 M2 M3 q1 q2 q3 he => by
      rw [q3 he, q2 he]
      exact ((q1 he).low (by omega) (by omega) _).low (by omega) (by omega) _
    have hA : ∀ M1 M2 M3 e' T', (e = false → Agr n M1 (mv g j c M)) → (e = false → M2 = low M1 (2 * j) (2 * j) 17179869184) → (e = false → M3 = low M2 (2 * j + 1) (2 * j + 1) 17179869184) → RsE n e M3 e' T' → Hid (Act5 n (ShfBad n j c) (ShfGo n j g c) e M 0 e' T') := fun M1 M2 M3 e' T' q1 q2 q3 r => Or.inr ⟨fun p => p good, rfl, by
      rcases r with r | ⟨he, r⟩
      · exact Or.inl r
      · exact Or.inr ⟨he, r.at fun X cX => ((agS M1 M2 M3 q1 q2 q3 he).le_iff X).trans (shS_clp (hT he) g c X cX)⟩⟩
    have kt := fun V M1 M2 M3 (q1 : e = false → Agr n M1 (mv g j c M)) (q2 : e = false → M2 = low M1 (2 * j) (2 * j) 17179869184) (q3 : e = false → M3 = low M2 (2 * j + 1) (2 * j + 1) 17179869184) hV => otightZ b n hn e M3 (fun he a d ha hd => by
      rw [agS M1 M2 M3 q1 q2 q3 he a d ha hd]
      exact shS_bd (hT he) g good.2.1 good.2.2 ha hd) V hV
    have km := fun V hV => omoveZ b n hn e M j hj g c good.2 hT V hV
    have s1 := oside j (by omega) false
    have s2 := oside j (by omega) true
    have e1 : 2 * j + false.toNat = 2 * j := rfl
    have e2 : 2 * j + true.toNat = 2 * j + 1 := rfl
    rw [e1] at s1
    rw [e2] at s2
    have kl1 := fun V M1 hV => olowerZ b n e M1 (2 * j) (2 * j) (by omega) (by omega) 17179869184 V hV
    have kl2 := fun V M1 hV => olowerZ b n e M1 (2 * j + 1) (2 * j + 1) (by omega) (by omega) 17179869184 V hV
    clear e1 e2 hT h kf agS good
    generalize 2 * j + 1 = y at *
    generalize 2 * j = x at *
    go_enter Try.func50, Try.ntmps50
    go_wp2_with (first
      | (go_at_call 55; refine kf2.mono ?_; rintro r w2 ⟨rfl, hw2⟩; subst w2)
      | (go_at_call 81; refine (km _ hO).mono ?_; rintro r w3 ⟨rfl, ⟨M1, hO1, q1⟩, c3⟩; replace cc := cc.trans c3; clear c3)
      | (go_at_call_of 53 false; refine (s1 _).mono ?_; rintro r v4 ⟨rfl, hw4⟩; subst v4)
      | (go_at_call_of 53 true; refine (s2 _).mono ?_; rintro r v4 ⟨rfl, hw4⟩; subst v4)
      | (go_at_call 58; with_reducible refine (kl1 _ _ hO1).mono ?_; rintro r w4 ⟨rfl, ⟨M2, hO2, q2⟩, c4⟩; replace cc := cc.trans c4; clear c4 kl1)
      | (go_at_call 58; with_reducible refine (kl2 _ _ hO2).mono ?_; rintro r w5 ⟨rfl, ⟨M3, hO3, q3⟩, c5⟩; replace cc := cc.trans c5; clear c5 kl2)
      | (go_at_call 59; refine (kt _ M1 M2 M3 q1 q2 q3 hO3).mono ?_; rintro r w6 ⟨rfl, ⟨e6, T6, hO4, r6⟩, c6⟩; replace cc := cc.trans c6; clear c6)
      | fail)
    go_ret
    exact ⟨⟨0, e6, T6, rfl, hO4, (hA M1 M2 M3 e6 T6 q1 q2 q3 r6).out⟩, cc⟩
  · have kf2 : Calls Try.prog 55 #[.pointer (some ⟨b, 0, none⟩), .int .i64 c, .int .i64 8589934592, .slice (some ⟨w.heap.size, 0, none⟩) 1 1] (w.alloc (.cells #[.int .i64 i] 3)) fun r w' => r = .returned (.int .i64 2) ∧ w' = w.alloc (.cells #[.int .i64 i] 3) := kf.mono fun r w' p => by
      obtain ⟨⟨v, rfl, hv⟩, hw⟩ := p
      rcases hv with ⟨rfl, p⟩ | ⟨rfl, p⟩
      · exact absurd p good
      · exact ⟨rfl, hw⟩
    have hA : Hid (Act5 n (ShfBad n i c) (ShfGo n i g c) e M 2 e M) := Or.inl ⟨good, rfl, rfl, fun _ _ _ _ _ => rfl⟩
    clear kf hT h good
    go_enter Try.func50, Try.ntmps50
    go_wp2_with (first
      | (go_at_call 55; refine kf2.mono ?_; rintro r w2 ⟨rfl, hw2⟩; subst w2)
      | fail)
    go_ret
    exact ⟨⟨2, e, M, rfl, hO, hA.out⟩, cc⟩
end Go.Proofs.Ytpcbammncaeimaa


namespace Go.Proofs.Ytpcbammncaeimaa
open Go.RowKit
set_option linter.unusedVariables false
set_option linter.unusedSimpArgs false
theorem right_rI (e : Bool) (x y : Int) : rightP WyI (e, x, y) = rI e x y := by
  unfold rightP rI
  cases e
  · simp only [Bool.false_eq_true, if_false]
    show (in32 x && (in32 y && decide (cmpI x y ≤ 0))) = _
    have c : decide (cmpI x y ≤ 0) = decide (x ≤ y) := by
      unfold cmpI
      split
      · simp; omega
      · split <;> simp <;> omega
    rw [c]
    unfold in32
    rw [Bool.eq_iff_iff]
    simp
    omega
  · rfl
def SetBad (n : Nat) (i : Int) (ea : Bool) (lo hh : Int) : Prop := ¬ (Isv n i ∧ rI ea lo hh = true)
def stS (i : Nat) (lo hh : Int) (M : Mx) : Mx := low (low M (2 * i) (2 * i) (2 * hh)) (2 * i + 1) (2 * i + 1) (-2 * lo)
def SetGo (n : Nat) (i : Int) (ea : Bool) (lo hh : Int) (T : Mx) (e' : Bool) (T' : Mx) : Prop := (ea = true ∧ e' = true) ∨ (ea = false ∧ Res n (stS i.toNat lo hh T) e' T')
theorem rI_num {lo hh : Int} (h : rI false lo hh = true) : -2147483648 ≤ lo ∧ lo ≤ hh ∧ hh ≤ 2147483647 := by
  unfold rI at h
  simp at h
  omega
theorem stS_bd {n : Nat} {M : Mx} (t : Tt n M) {i : Nat} {lo hh : Int} (h : rI false lo hh = true) {a d : Nat} (ha : a < 2 * n) (hd : d < 2 * n) : -68719476736 ≤ stS i lo hh M a d ∧ stS i lo hh M a d ≤ 68719476736 := by
  have h := rI_num h
  refine ⟨low_ge (fun a d ha hd => low_ge (fun a d ha hd => by have := t.low ha hd; omega) (by omega) ha hd) (by omega) ha hd, ?_⟩
  have q1 := low_le (low M (2 * i) (2 * i) (2 * hh)) (2 * i + 1) (2 * i + 1) (-2 * lo) a d
  have q2 := low_le M (2 * i) (2 * i) (2 * hh) a d
  have q3 := t.up a d ha hd
  unfold stS
  omega
set_option maxRecDepth 100000 in
set_option maxHeartbeats 3200000 in
theorem osetZ (b n : Nat) (hn : n ≤ 8) (e : Bool) (M : Mx) (i : Int) (ea : Bool) (lo hh : Int) (l1 : -9223372036854775808 ≤ lo ∧ lo ≤ 9223372036854775807) (l2 : -9223372036854775808 ≤ hh ∧ hh ≤ 9223372036854775807) (hT : e = false → Tt n M) (w : World) (h : OctAt w b n e M) :
    Calls Try.prog 26 #[.pointer (some ⟨b, 0, none⟩), .int .i64 i, .agg #[.bool ea, .int .i64 lo, .int .i64 hh]] w fun r w' => (∃ er e' T', r = .returned (.int .i64 er) ∧ OctAt w' b n e' T' ∧ Act5 n (SetBad n i ea lo hh) (SetGo n i ea lo hh) e M er e' T') ∧ Onl b w w' := by
  have hb : b < w.heap.size := World.block_lt_of_cell? w _ h.hv
  obtain ⟨W, hW⟩ : ∃ W, (w.alloc (.cells #[.bool ea, .int .i64 lo, .int .i64 hh] 39)).alloc (.cells #[.int .i64 i] 3) = W := ⟨_, rfl⟩
  have gW : Below w.heap.size w W := by rw [← hW]; exact ((Below.refl _ _).alloc (Nat.le_refl _) _).alloc (by simp) _
  have a0 : W.cell? ⟨w.heap.size, 0, none⟩ = some (.bool ea) := by rw [← hW]; simp [go_sem]
  have a1 : W.cell? ⟨w.heap.size, 1, none⟩ = some (.int .i64 lo) := by rw [← hW]; simp [go_sem]
  have a2 : W.cell? ⟨w.heap.size, 2, none⟩ = some (.int .i64 hh) := by rw [← hW]; simp [go_sem]
  have p0 : W.cell? ⟨w.heap.size + 1, 0, none⟩ = some (.int .i64 i) := by rw [← hW]; simp [go_sem]
  have hO := h.on gW
  have cc : Onl b w W := Onl.of gW
  have nb : w.heap.size ≠ b := by omega
  have kf := fault1 b n e M 0 0 (by omega) (by omega) i (w.heap.size + 1) W hO p0
  have kr := intRight_of ea lo hh _ (fun V => right_i (acts_i V) ea lo hh (domI_of (by omega) (by omega)) (domI_of (by omega) (by omega)) V (Below.refl _ _))
  rw [right_rI] at kr
  have A1 : SetBad n i ea lo hh → Hid (Act5 n (SetBad n i ea lo hh) (SetGo n i ea lo hh) e M 2 e M) := fun q => Or.inl ⟨q, rfl, rfl, fun _ _ _ _ _ => rfl⟩
  by_cases q : Isv n i
  · have kf2 : Calls Try.prog 55 #[.pointer (some ⟨b, 0, none⟩), .int .i64 0, .int .i64 0, .slice (some ⟨w.heap.size + 1, 0, none⟩) 1 1] W fun r w' => r = .returned (.int .i64 0) ∧ w' = W := kf.mono fun r w' p => by
      obtain ⟨⟨v, rfl, hv⟩, hw⟩ := p
      rcases hv with ⟨rfl, _⟩ | ⟨rfl, p⟩
      · exact ⟨rfl, hw⟩
      · exact absurd ⟨q, by omega, by omega⟩ p
    cases hr : rI ea lo hh
    · have hA := A1 (fun p => by rw [hr] at p; exact absurd p.2 (by simp))
      rw [hr] at kr
      clear kf A1 hT h hr q
      go_enter Try.func26, Try.ntmps26
      go_wp2_with (first
        | (go_at_call 55; (try rw [hW]); refine kf2.mono ?_; rintro r v2 ⟨rfl, hw2⟩; subst v2; clear kf2 hW gW)
        | (go_at_call 56; refine (kr _).mono ?_; rintro r v3 ⟨rfl, g⟩; replace a0 := sO g a0; replace a1 := sO g a1; replace a2 := sO g a2; replace hO := hO.on g; replace cc := cc.on g; clear g kr)
        | fail)
      go_ret
      exact ⟨⟨2, e, M, rfl, hO, hA.out⟩, cc⟩
    · have nbad : ¬ SetBad n i ea lo hh := fun p => p ⟨q, hr⟩
      cases ea
      · obtain ⟨j, rfl⟩ : ∃ j : Nat, i = j := ⟨i.toNat, by unfold Isv at q; omega⟩
        have hj : j < n := by unfold Isv at q; omega
        have hA : ∀ M1 M2 e' T', (e = false → M1 = low M (2 * j) (2 * j) (2 * hh)) → (e = false → M2 = low M1 (2 * j + 1) (2 * j + 1) (-2 * lo)) → RsE n e M2 e' T' → Hid (Act5 n (SetBad n j false lo hh) (SetGo n j false lo hh) e M 0 e' T') := fun M1 M2 e' T' q1 q2 r => Or.inr ⟨nbad, rfl, by
          rcases r with r | ⟨he, r⟩
          · exact Or.inl r
          · rw [q2 he, q1 he] at r
            exact Or.inr ⟨he, Or.inr ⟨rfl, r⟩⟩⟩
        have kt := fun V M1 M2 (q1 : e = false → M1 = low M (2 * j) (2 * j) (2 * hh)) (q2 : e = false → M2 = low M1 (2 * j + 1) (2 * j + 1) (-2 * lo)) hV => otightZ b n hn e M2 (fun he a d ha hd => by
          rw [q2 he, q1 he]
          exact stS_bd (hT he) hr ha hd) V hV
        have s1 := oside j (by omega) false
        have s2 := oside j (by omega) true
        have kl1 := fun V M1 hV => olowerZ b n e M1 (2 * j) (2 * j) (by omega) (by omega) (2 * hh) V hV
        have kl2 := fun V M1 hV => olowerZ b n e M1 (2 * j + 1) (2 * j + 1) (by omega) (by omega) (-2 * lo) V hV
        have hnum := rI_num hr
        have w1 : IntKind.i64.wrap (2 * hh) = 2 * hh := by rw [IntKind.wrap_i64]; omega
        have w2 : IntKind.i64.wrap (-2 * lo) = -2 * lo := by rw [IntKind.wrap_i64]; omega
        rw [hr] at kr
        have e1 : 2 * j + false.toNat = 2 * j := rfl
        have e2 : 2 * j + true.toNat = 2 * j + 1 := rfl
        rw [e1] at s1
        rw [e2] at s2
        clear e1 e2 kf A1 hT h hr q nbad hnum l1 l2
        generalize 2 * j + 1 = y at *
        generalize 2 * j = x at *
        go_enter Try.func26, Try.ntmps26
        go_upto_region 9 with (first
          | (go_at_call 55; (try rw [hW]); refine kf2.mono ?_; rintro r v2 ⟨rfl, hw2⟩; subst v2; clear kf2 hW gW)
          | (go_at_call 56; refine (kr _).mono ?_; rintro r v3 ⟨rfl, g⟩; replace a0 := sO g a0; replace a1 := sO g a1; replace a2 := sO g a2; replace hO := hO.on g; replace cc := cc.on g; clear g kr)
          | fail)
        clear p0 a0
        go_cut [30] from 22 to 30 (fun s X => ∃ W1 M1, W1 = X ∧ s = .tuple #[] ∧ OctAt X b n e M1 ∧ Hid (e = false → M1 = low M x x (2 * hh)) ∧ X.cell? ⟨w.heap.size, 1, none⟩ = some (.int .i64 lo) ∧ Onl b w X)
        case first =>
          go_region_with
            (first
              | (go_at_call 53; refine (s1 _).mono ?_; rintro r v4 ⟨rfl, hw4⟩; subst v4)
              | (go_at_call 58; refine (kl1 _ _ (by first | exact hO | exact hO.drew | exact hO.drewN _)).mono ?_; rintro r v5 ⟨rfl, ⟨M1, hO2, hM1⟩, c5⟩; replace cc := (show Onl b w _ by first | exact cc | exact cc.drew | exact cc.drewN _).trans c5; replace a1 := c5.cell nb (show World.cell? _ ⟨w.heap.size, 1, none⟩ = _ from a1); clear c5)
              | fail)
          all_goals go_wp2_with fail
          all_goals go_meet
          all_goals exact ⟨_, M1, rfl, rfl, hO2, hM1, a1, cc⟩
        case rest =>
          obtain ⟨W1, M1, rfl, rfl, hO2, hM1, b1, c2⟩ := hcut
          clear hO cc a1 a2 s1 kl1
          go_upto_region 10 with fail
          go_cut [39] from 31 to 39 (fun s X => ∃ W2 M2, W2 = X ∧ s = .tuple #[] ∧ OctAt X b n e M2 ∧ Hid (e = false → M2 = low M1 y y (-2 * lo)) ∧ Onl b w X)
          case first =>
            go_region_with
              (first
                | (go_at_call 53; refine (s2 _).mono ?_; rintro r v4 ⟨rfl, hw4⟩; subst v4)
                | (go_at_call 58; refine (kl2 _ _ (by first | exact hO2 | exact hO2.drew | exact hO2.drewN _)).mono ?_; rintro r v5 ⟨rfl, ⟨M2, hO3, hM2⟩, c5⟩; replace c2 := (show Onl b w _ by first | exact c2 | exact c2.drew | exact c2.drewN _).trans c5; clear c5)
                | fail)
            all_goals go_wp2_with fail
            all_goals go_meet
            all_goals exact ⟨_, M2, rfl, rfl, hO3, hM2, c2⟩
          case rest =>
            obtain ⟨W2, M2, rfl, rfl, hO3, hM2, c3⟩ := hcut
            clear hO2 c2 b1 s2 kl2
            go_wp2_with (first
              | (go_at_call 59; refine (kt _ M1 M2 hM1.out hM2.out hO3).mono ?_; rintro r v6 ⟨rfl, ⟨e6, T6, hO4, r6⟩, c6⟩; replace c3 := c3.trans c6; clear c6)
              | fail)
            go_ret
            exact ⟨⟨0, e6, T6, rfl, hO4, (hA M1 M2 e6 T6 hM1.out hM2.out r6).out⟩, c3⟩
      · have hA : ∀ M1, Hid (Act5 n (SetBad n i true lo hh) (SetGo n i true lo hh) e M 0 true M1) := fun M1 => Or.inr ⟨nbad, rfl, by
          cases e
          · exact Or.inr ⟨rfl, Or.inl ⟨rfl, rfl⟩⟩
          · exact Or.inl ⟨rfl, rfl⟩⟩
        have kd := fun V hV => odrain b n e M V hV
        rw [hr] at kr
        clear kf A1 hT h hr q nbad
        go_enter Try.func26, Try.ntmps26
        go_wp2_with (first
          | (go_at_call 55; (try rw [hW]); refine kf2.mono ?_; rintro r v2 ⟨rfl, hw2⟩; subst v2; clear kf2 hW gW)
          | (go_at_call 56; refine (kr _).mono ?_; rintro r v3 ⟨rfl, g⟩; replace a0 := sO g a0; replace a1 := sO g a1; replace a2 := sO g a2; replace hO := hO.on g; replace cc := cc.on g; clear g kr)
          | (go_at_call 57; refine (kd _ hO).mono ?_; rintro r v4 ⟨rfl, hO4, c4⟩; replace cc := cc.trans c4; clear c4)
          | fail)
        go_ret
        exact ⟨⟨0, true, _, rfl, hO4, (hA _).out⟩, cc⟩
  · have kf2 : Calls Try.prog 55 #[.pointer (some ⟨b, 0, none⟩), .int .i64 0, .int .i64 0, .slice (some ⟨w.heap.size + 1, 0, none⟩) 1 1] W fun r w' => r = .returned (.int .i64 2) ∧ w' = W := kf.mono fun r w' p => by
      obtain ⟨⟨v, rfl, hv⟩, hw⟩ := p
      rcases hv with ⟨rfl, p, _⟩ | ⟨rfl, p⟩
      · exact absurd p q
      · exact ⟨rfl, hw⟩
    have hA := A1 (fun p => q p.1)
    clear kf A1 hT h q kr
    go_enter Try.func26, Try.ntmps26
    go_wp2_with (first
      | (go_at_call 55; (try rw [hW]); refine kf2.mono ?_; rintro r v2 ⟨rfl, hw2⟩; subst v2; clear kf2 hW gW)
      | fail)
    go_ret
    exact ⟨⟨2, e, M, rfl, hO, hA.out⟩, cc⟩
end Go.Proofs.Ytpcbammncaeimaa


