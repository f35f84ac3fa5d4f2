/- The walk of LinearTurns. -/
import Derived.Test.YteafnkimcidkhaaGreatYG4
import Derived.Deep.DeepCutAuto
namespace Go.Proofs.YteafnkimcidkhaaGreat
open Go.RowKit
set_option linter.unusedVariables false
set_option linter.unusedSimpArgs false
set_option maxRecDepth 100000 in
set_option maxHeartbeats 6400000 in
theorem lifew3 (wa ae : Bool) (al ah : Int) (v : Value) (ls : List (Int × Bool × Int × Int)) (w : World) (hv : TAt w v ls) :
  Calls Tryz.prog 18 #[.agg #[.bool wa, .bool ae, .int .u64 al, .int .u64 ah, v]] w fun e w' => ((ls.length ≤ 40 ∧ e = .returned (.agg #[.bool wa, .bool ae, .int .u64 al, .int .u64 ah, v])) ∨ (40 < ls.length ∧ ∃ b o ca, v = .slice (some ⟨b, o, none⟩) ls.length ca ∧ e = .returned (.agg #[.bool wa, .bool ae, .int .u64 al, .int .u64 ah, .slice (some ⟨b, o, none⟩) 40 ca]))) ∧ Below w.heap.size w w' := by
 have hv0 := hv
 obtain ⟨pa, ca, rfl⟩ := hv.len
 by_cases h40 : ls.length ≤ 40
 ·have h40' : ¬ (40 : Int) < (ls.length : Int) := by omega
  go_enter Tryz.func18, Tryz.ntmps18
  go_upto_region 1 with fail
  obtain ⟨W, hW⟩ : ∃ W, ((w.alloc (.cells #[.bool wa, .bool ae, .int .u64 al, .int .u64 ah, .slice pa ls.length ca] 31)).alloc (.cells #[.bool false, .bool false, .int .u64 0, .int .u64 0, .slice none 0 0] 31)) = W := ⟨_, rfl⟩
  have a0 : W.cell? ⟨w.heap.size, 0, none⟩ = some (.bool wa) := by rw [← hW]; simp [go_sem]
  have a1 : W.cell? ⟨w.heap.size, 1, none⟩ = some (.bool ae) := by rw [← hW]; simp [go_sem]
  have a2 : W.cell? ⟨w.heap.size, 2, none⟩ = some (.int .u64 al) := by rw [← hW]; simp [go_sem]
  have a3 : W.cell? ⟨w.heap.size, 3, none⟩ = some (.int .u64 ah) := by rw [← hW]; simp [go_sem]
  have a4 : W.cell? ⟨w.heap.size, 4, none⟩ = some (.slice pa ls.length ca) := by rw [← hW]; simp [go_sem]
  have r0 : W.cell? ⟨w.heap.size + 1, 0, none⟩ = some (.bool false) := by rw [← hW]; simp [go_sem]
  have r1 : W.cell? ⟨w.heap.size + 1, 1, none⟩ = some (.bool false) := by rw [← hW]; simp [go_sem]
  have r2 : W.cell? ⟨w.heap.size + 1, 2, none⟩ = some (.int .u64 0) := by rw [← hW]; simp [go_sem]
  have r3 : W.cell? ⟨w.heap.size + 1, 3, none⟩ = some (.int .u64 0) := by rw [← hW]; simp [go_sem]
  have r4 : W.cell? ⟨w.heap.size + 1, 4, none⟩ = some (.slice none 0 0) := by rw [← hW]; simp [go_sem]
  have bW : Below w.heap.size w W := by rw [← hW]; exact (sp_new (sp_new (Below.refl _ _) _) _)
  have zW : W.heap.size = w.heap.size + 2 := by rw [← hW]; simp
  have fz : ∀ j, W.frozen? ⟨w.heap.size + 1, j, none⟩ = false := by intro j; rw [← hW]; simp [go_sem]
  rw [hW]
  clear hW
  replace zW := Nat.le_of_eq zW.symm
  go_wp2_with fail
  exact bodyPost_ret (v := .agg #[.bool wa, .bool ae, .int .u64 al, .int .u64 ah, .slice pa ls.length ca]) (by simp [results, Tryz.results18, go_sem, r0, r1, r2, r3, r4]) rfl ⟨Or.inl (by first | exact ⟨h40, rfl⟩ | exact rfl), (by (repeat (first | with_reducible assumption | with_reducible refine li_set1 ?_ (by omega) _ | with_reducible refine sp_new ?_ _)))⟩
 ·have h40' : (40 : Int) < (ls.length : Int) := by omega
  rcases hv with ⟨_, h0⟩ | ⟨b, o, cap, hs, hc, hcells⟩
  ·rw [h0] at h40; simp at h40
  ·cases hs
   have hc' : (40 : Int) ≤ (ca : Int) := by omega
   have hc2 : 40 ≤ ca := by omega
   have ht : TAt w (.slice (some ⟨b, o, none⟩) 40 ca) (ls.take 40) := by
    have e40 : (ls.take 40).length = 40 := by simp; omega
    refine Or.inr ⟨b, o, ca, by rw [e40], by omega, fun j t hj => hcells j t ?_⟩
    rw [List.getElem?_take] at hj
    split at hj
    ·exact hj
    ·cases hj
   go_enter Tryz.func18, Tryz.ntmps18
   go_upto_region 1 with fail
   obtain ⟨W, hW⟩ : ∃ W, ((w.alloc (.cells #[.bool wa, .bool ae, .int .u64 al, .int .u64 ah, .slice (some ⟨b, o, none⟩) ls.length ca] 31)).alloc (.cells #[.bool false, .bool false, .int .u64 0, .int .u64 0, .slice none 0 0] 31)) = W := ⟨_, rfl⟩
   have a0 : W.cell? ⟨w.heap.size, 0, none⟩ = some (.bool wa) := by rw [← hW]; simp [go_sem]
   have a1 : W.cell? ⟨w.heap.size, 1, none⟩ = some (.bool ae) := by rw [← hW]; simp [go_sem]
   have a2 : W.cell? ⟨w.heap.size, 2, none⟩ = some (.int .u64 al) := by rw [← hW]; simp [go_sem]
   have a3 : W.cell? ⟨w.heap.size, 3, none⟩ = some (.int .u64 ah) := by rw [← hW]; simp [go_sem]
   have a4 : W.cell? ⟨w.heap.size, 4, none⟩ = some (.slice (some ⟨b, o, none⟩) ls.length ca) := by rw [← hW]; simp [go_sem]
   have r0 : W.cell? ⟨w.heap.size + 1, 0, none⟩ = some (.bool false) := by rw [← hW]; simp [go_sem]
   have r1 : W.cell? ⟨w.heap.size + 1, 1, none⟩ = some (.bool false) := by rw [← hW]; simp [go_sem]
   have r2 : W.cell? ⟨w.heap.size + 1, 2, none⟩ = some (.int .u64 0) := by rw [← hW]; simp [go_sem]
   have r3 : W.cell? ⟨w.heap.size + 1, 3, none⟩ = some (.int .u64 0) := by rw [← hW]; simp [go_sem]
   have r4 : W.cell? ⟨w.heap.size + 1, 4, none⟩ = some (.slice none 0 0) := by rw [← hW]; simp [go_sem]
   have bW : Below w.heap.size w W := by rw [← hW]; exact (sp_new (sp_new (Below.refl _ _) _) _)
   have zW : W.heap.size = w.heap.size + 2 := by rw [← hW]; simp
   have fa : ∀ j, W.frozen? ⟨w.heap.size, j, none⟩ = false := by intro j; rw [← hW]; simp [go_sem]
   have fz : ∀ j, W.frozen? ⟨w.heap.size + 1, j, none⟩ = false := by intro j; rw [← hW]; simp [go_sem]
   rw [hW]
   clear hW
   replace zW := Nat.le_of_eq zW.symm
   go_wp2_with fail
   exact bodyPost_ret (v := .agg #[.bool wa, .bool ae, .int .u64 al, .int .u64 ah, .slice (some ⟨b, o, none⟩) 40 ca]) (by simp [results, Tryz.results18, go_sem, r0, r1, r2, r3, r4]) rfl ⟨Or.inr ⟨by omega, b, o, ca, rfl, rfl⟩, (by (repeat (first | with_reducible assumption | with_reducible refine li_set1 ?_ (by omega) _ | with_reducible refine sp_new ?_ _)))⟩
set_option maxRecDepth 100000 in
set_option maxHeartbeats 6400000 in
theorem lifew2 (aw ae : Bool) (al ah : Int) (v : Value) (ls : List (Int × Bool × Int × Int)) (w : World) (hv : TAt w v ls) :
  Calls Tryz.prog 18 #[.agg #[.bool aw, .bool ae, .int .u64 al, .int .u64 ah, v]] w fun e w' => (∃ u, e = .returned (.agg #[.bool aw, .bool ae, .int .u64 al, .int .u64 ah, u]) ∧ ∀ W0, TAt W0 v ls → TAt W0 u (ls.take 40)) ∧ Below w.heap.size w w' := by
 by_cases h40 : ls.length ≤ 40
 ·refine (lifew3 aw ae al ah v ls w hv).mono fun e w' q => ⟨?_, q.2⟩
  rcases q.1 with ⟨_, he⟩ | ⟨h, _⟩
  ·exact ⟨v, he, fun W0 h0 => by rw [List.take_of_length_le h40]; exact h0⟩
  ·omega
 ·refine (lifew3 aw ae al ah v ls w hv).mono fun e w' q => ⟨?_, q.2⟩
  rcases q.1 with ⟨h, _⟩ | ⟨_, b, o, ca, hv2, he⟩
  ·omega
  ·refine ⟨_, he, fun W0 h0 => ?_⟩
   subst hv2
   rcases h0 with ⟨h1, _⟩ | ⟨b', o', cap, h1, hc, hcells⟩
   ·cases h1
   ·cases h1
    have e40 : (ls.take 40).length = 40 := by simp; omega
    refine Or.inr ⟨b, o, ca, by rw [e40], by omega, fun j t hj => hcells j t ?_⟩
    rw [List.getElem?_take] at hj
    split at hj
    ·exact hj
    ·cases hj
set_option maxRecDepth 100000 in
set_option maxHeartbeats 6400000 in
theorem litu (aw ae : Bool) (al ah : Int) (va : Value) (la : List (Int × Bool × Int × Int)) (bw be : Bool) (bl bh : Int) (vb : Value) (lb : List (Int × Bool × Int × Int)) (Xa Xb : List (Int × Bool × Int × Int)) (sw se : Bool) (sl sh : Int) (XS : List (Int × Bool × Int × Int)) (dw de : Bool) (dl dh : Int) (XD : List (Int × Bool × Int × Int))
   (kf : ∀ V, TAt V va la → Calls Tryz.prog 18 #[.agg #[.bool aw, .bool ae, .int .u64 al, .int .u64 ah, va]] V fun e w' => (∃ v, e = .returned (.agg #[.bool aw, .bool ae, .int .u64 al, .int .u64 ah, v]) ∧ ∀ W0, TAt W0 va la → TAt W0 v Xa) ∧ Below V.heap.size V w')
   (kg : ∀ V, TAt V vb lb → Calls Tryz.prog 18 #[.agg #[.bool bw, .bool be, .int .u64 bl, .int .u64 bh, vb]] V fun e w' => (∃ v, e = .returned (.agg #[.bool bw, .bool be, .int .u64 bl, .int .u64 bh, v]) ∧ ∀ W0, TAt W0 vb lb → TAt W0 v Xb) ∧ Below V.heap.size V w')
   (k1 : ∀ V v u, TAt V v Xa → TAt V u Xb → Calls Tryz.prog 29 #[.agg #[.bool aw, .bool ae, .int .u64 al, .int .u64 ah, v], .agg #[.bool bw, .bool be, .int .u64 bl, .int .u64 bh, u]] V fun e w' => (∃ rv, e = .returned (.agg #[.bool sw, .bool se, .int .u64 sl, .int .u64 sh, rv]) ∧ TAt w' rv XS ∧ Up V.heap.size rv) ∧ Below V.heap.size V w')
   (k2 : ∀ V v u, TAt V v Xb → TAt V u Xa → Calls Tryz.prog 29 #[.agg #[.bool bw, .bool be, .int .u64 bl, .int .u64 bh, v], .agg #[.bool aw, .bool ae, .int .u64 al, .int .u64 ah, u]] V fun e w' => (∃ rv, e = .returned (.agg #[.bool sw, .bool se, .int .u64 sl, .int .u64 sh, rv]) ∧ TAt w' rv XS ∧ Up V.heap.size rv) ∧ Below V.heap.size V w')
   (k3 : ∀ V v u, TAt V v Xa → TAt V u Xa → Calls Tryz.prog 31 #[.agg #[.bool aw, .bool ae, .int .u64 al, .int .u64 ah, v], .agg #[.bool aw, .bool ae, .int .u64 al, .int .u64 ah, u]] V fun e w' => (∃ rv, e = .returned (.agg #[.bool dw, .bool de, .int .u64 dl, .int .u64 dh, rv]) ∧ TAt w' rv XD ∧ Up V.heap.size rv) ∧ Below V.heap.size V w')
   (kl : ∀ V, Calls Tryz.prog 17 #[] V fun e w' => e = .returned (.bool true) ∧ Below V.heap.size V w') (ks : ∀ V v u, TAt V v XS → TAt V u XS → Calls Tryz.prog 27 #[.agg #[.bool sw, .bool se, .int .u64 sl, .int .u64 sh, v], .agg #[.bool sw, .bool se, .int .u64 sl, .int .u64 sh, u]] V fun e w' => e = .returned (.bool true) ∧ Below V.heap.size V w')
   (kh : dw = false → ∀ V, Calls Tryz.prog 41 #[.int .i64 0, .agg #[.bool de, .int .u64 dl, .int .u64 dh], .int .u64 0] V fun e w' => e = .returned (.bool true) ∧ Below V.heap.size V w') (w : World) (ta : TAt w va la) (tb : TAt w vb lb) :
   Calls Tryz.prog 7 #[.agg #[.bool aw, .bool ae, .int .u64 al, .int .u64 ah, va], .agg #[.bool bw, .bool be, .int .u64 bl, .int .u64 bh, vb]] w fun e w' => e = .returned (.bool true) ∧ Below w.heap.size w w' := by
 obtain ⟨pa, ca, rfl⟩ := ta.len
 obtain ⟨pb, cb, rfl⟩ := tb.len
 obtain ⟨na, hna⟩ : ∃ na, na = la.length := ⟨_, rfl⟩
 obtain ⟨nb, hnb⟩ : ∃ nb, nb = lb.length := ⟨_, rfl⟩
 rw [← hna] at ta kf ⊢
 rw [← hnb] at tb kg ⊢
 clear hna hnb
 go_enter Tryz.func7, Tryz.ntmps7
 go_upto_region 1 with fail
 obtain ⟨W, hW⟩ : ∃ W, (w.alloc (.cells #[.bool aw, .bool ae, .int .u64 al, .int .u64 ah, .slice pa na ca] 31)).alloc (.cells #[.bool bw, .bool be, .int .u64 bl, .int .u64 bh, .slice pb nb cb] 31) = W := ⟨_, rfl⟩
 have a0 : W.cell? ⟨w.heap.size, 0, none⟩ = some (.bool aw) := by rw [← hW]; simp [go_sem]
 have a1 : W.cell? ⟨w.heap.size, 1, none⟩ = some (.bool ae) := by rw [← hW]; simp [go_sem]
 have a2 : W.cell? ⟨w.heap.size, 2, none⟩ = some (.int .u64 al) := by rw [← hW]; simp [go_sem]
 have a3 : W.cell? ⟨w.heap.size, 3, none⟩ = some (.int .u64 ah) := by rw [← hW]; simp [go_sem]
 have a4 : W.cell? ⟨w.heap.size, 4, none⟩ = some (.slice pa na ca) := by rw [← hW]; simp [go_sem]
 have b0 : W.cell? ⟨w.heap.size + 1, 0, none⟩ = some (.bool bw) := by rw [← hW]; simp [go_sem]
 have b1 : W.cell? ⟨w.heap.size + 1, 1, none⟩ = some (.bool be) := by rw [← hW]; simp [go_sem]
 have b2 : W.cell? ⟨w.heap.size + 1, 2, none⟩ = some (.int .u64 bl) := by rw [← hW]; simp [go_sem]
 have b3 : W.cell? ⟨w.heap.size + 1, 3, none⟩ = some (.int .u64 bh) := by rw [← hW]; simp [go_sem]
 have b4 : W.cell? ⟨w.heap.size + 1, 4, none⟩ = some (.slice pb nb cb) := by rw [← hW]; simp [go_sem]
 have bW : Below w.heap.size w W := by rw [← hW]; exact sp_new (sp_new (Below.refl _ _) _) _
 replace ta := ta.on bW
 replace tb := tb.on bW
 rw [hW]
 clear hW
 have cc : Below W.heap.size W W.drew := (Below.refl _ _).drew
 go_cut [5, 6] from 10 to 13 (fun s u X => ∃ (W1 : World) (b5 b6 : Nat) (p5 : Option Addr) (c5 : Nat) (p6 : Option Addr) (c6 : Nat), W1 = X ∧ s = .pointer (some ⟨b5, 0, none⟩) ∧ u = .pointer (some ⟨b6, 0, none⟩) ∧ X.heap[b5]? = some (.cells #[.bool aw, .bool ae, .int .u64 al, .int .u64 ah, .slice p5 Xa.length c5] 31) ∧ X.heap[b6]? = some (.cells #[.bool bw, .bool be, .int .u64 bl, .int .u64 bh, .slice p6 Xb.length c6] 31) ∧ TAt X (.slice p5 Xa.length c5) Xa ∧ TAt X (.slice p6 Xb.length c6) Xb ∧ Below W.heap.size W X)
 case first =>
  have hall : ∀ X9, Below W.heap.size W X9 → (X9.cell? ⟨w.heap.size, 0, none⟩ = some (.bool aw) ∧ X9.cell? ⟨w.heap.size, 1, none⟩ = some (.bool ae) ∧ X9.cell? ⟨w.heap.size, 2, none⟩ = some (.int .u64 al) ∧ X9.cell? ⟨w.heap.size, 3, none⟩ = some (.int .u64 ah) ∧ X9.cell? ⟨w.heap.size, 4, none⟩ = some (.slice pa na ca) ∧ X9.cell? ⟨w.heap.size + 1, 0, none⟩ = some (.bool bw) ∧ X9.cell? ⟨w.heap.size + 1, 1, none⟩ = some (.bool be) ∧ X9.cell? ⟨w.heap.size + 1, 2, none⟩ = some (.int .u64 bl) ∧ X9.cell? ⟨w.heap.size + 1, 3, none⟩ = some (.int .u64 bh) ∧ X9.cell? ⟨w.heap.size + 1, 4, none⟩ = some (.slice pb nb cb)) := fun X9 cc => ⟨sO cc a0, sO cc a1, sO cc a2, sO cc a3, sO cc a4, sO cc b0, sO cc b1, sO cc b2, sO cc b3, sO cc b4⟩
  refine wp_region_held_drew (S := (fun w' => w'.cell? ⟨w.heap.size, 0, none⟩ = some (.bool aw) ∧ w'.cell? ⟨w.heap.size, 1, none⟩ = some (.bool ae) ∧ w'.cell? ⟨w.heap.size, 2, none⟩ = some (.int .u64 al) ∧ w'.cell? ⟨w.heap.size, 3, none⟩ = some (.int .u64 ah) ∧ w'.cell? ⟨w.heap.size, 4, none⟩ = some (.slice pa na ca) ∧ w'.cell? ⟨w.heap.size + 1, 0, none⟩ = some (.bool bw) ∧ w'.cell? ⟨w.heap.size + 1, 1, none⟩ = some (.bool be) ∧ w'.cell? ⟨w.heap.size + 1, 2, none⟩ = some (.int .u64 bl) ∧ w'.cell? ⟨w.heap.size + 1, 3, none⟩ = some (.int .u64 bh) ∧ w'.cell? ⟨w.heap.size + 1, 4, none⟩ = some (.slice pb nb cb))) (by kernel_rfl) (hall _ cc) (fun hH => ?_)
  refine wpAnyH_take (i := 0) (oi := _) (v := .agg #[.bool aw, .bool ae, .int .u64 al, .int .u64 ah, .slice pa na ca]) rfl (by kernel_rfl) (by kernel_rfl) (by kernel_rfl) (fun _ _ _ h => h) (Or.inl ⟨by rfl, fun w' hSw => by obtain ⟨za0, za1, za2, za3, za4, zb0, zb1, zb2, zb3, zb4⟩ := hSw; go_simp⟩) hH ?_
  simp only [Act.put, gA, gB, gC, gD, gE, gG]
  refine wpAnyH_take (i := 2) (oi := _) (v := .agg #[.bool bw, .bool be, .int .u64 bl, .int .u64 bh, .slice pb nb cb]) rfl (by kernel_rfl) (by kernel_rfl) (by kernel_rfl) (fun _ _ _ h => h) (Or.inl ⟨by rfl, fun w' hSw => by obtain ⟨za0, za1, za2, za3, za4, zb0, zb1, zb2, zb3, zb4⟩ := hSw; go_simp⟩) hH ?_
  simp only [Act.put, gA, gB, gC, gD, gE, gG]
  generalize hY : W.drew = Y0 at *
  clear hY
  refine wpAnyH_ready (rs := [1, 4, 5]) (by kernel_rfl) (by simp) (AllReadyH.cons (o := _) rfl (fun K hK => ?_) (AllReadyH.cons (o := _) rfl (fun K hK => ?_) (AllReadyH.cons (o := _) rfl (fun K hK => ?_) AllReadyH.nil)))
  ·skip
   go_simp
   refine (kf _ (TAt.on ta cc)).mono ?_
   rintro e Y1 ⟨⟨v, rfl, h5⟩, g⟩
   have h50 := h5 _ ta
   obtain ⟨p5, c5, rfl⟩ := h50.len
   clear h50
   replace cc := sp_call cc g
   clear g
   go_wp2_with fail
   refine hK.out _ _ (hall _ cc) (fun hH => ?_)
   clear hK K
   try simp only [Act.put, gA, gB, gC, gD, gE, gG]
   refine wpAnyH_ready (rs := [3, 4, 5]) (by kernel_rfl) (by simp) (AllReadyH.cons (o := _) rfl (fun K hK => ?_) (AllReadyH.cons (o := _) rfl (fun K hK => ?_) (AllReadyH.cons (o := _) rfl (fun K hK => ?_) AllReadyH.nil)))
   ·skip
    go_simp
    refine (kg _ (TAt.on tb cc)).mono ?_
    rintro e Y2 ⟨⟨v, rfl, h6⟩, g⟩
    have h60 := h6 _ tb
    obtain ⟨p6, c6, rfl⟩ := h60.len
    clear h60
    replace cc := sp_call cc g
    clear g
    go_wp2_with fail
    refine hK.out _ _ (hall _ cc) (fun hH => ?_)
    clear hK K
    try simp only [Act.put, gA, gB, gC, gD, gE, gG]
    refine wpAnyH_ready (rs := [4, 5]) (by kernel_rfl) (by simp) (AllReadyH.cons (o := _) rfl (fun K hK => ?_) (AllReadyH.cons (o := _) rfl (fun K hK => ?_) AllReadyH.nil))
    ·skip
     go_simp
     have zz0 := cc.size
     have q0 := World.alloc_heap_new Y2 (.cells #[.bool false, .bool false, .int .u64 0, .int .u64 0, .slice none 0 0] 31)
     replace cc := sp_new cc (.cells #[.bool false, .bool false, .int .u64 0, .int .u64 0, .slice none 0 0] 31)
     generalize hY : Y2.alloc (.cells #[.bool false, .bool false, .int .u64 0, .int .u64 0, .slice none 0 0] 31) = Y3 at *
     clear hY
     refine hK.out _ _ (hall _ cc) (fun hH => ?_)
     clear hK K
     try simp only [Act.put, gA, gB, gC, gD, gE, gG]
     refine wpAnyH_ready (rs := [5]) (by kernel_rfl) (by simp) (AllReadyH.cons (o := _) rfl (fun K hK => ?_) AllReadyH.nil)
     go_simp
     have zz1 := cc.size
     have ne0_1 : Y2.heap.size ≠ Y3.heap.size := Nat.ne_of_lt (lw_lt q0)
     replace q0 := lw_old q0 (.cells #[.bool false, .bool false, .int .u64 0, .int .u64 0, .slice none 0 0] 31)
     have q1 := World.alloc_heap_new Y3 (.cells #[.bool false, .bool false, .int .u64 0, .int .u64 0, .slice none 0 0] 31)
     replace cc := sp_new cc (.cells #[.bool false, .bool false, .int .u64 0, .int .u64 0, .slice none 0 0] 31)
     generalize hY : Y3.alloc (.cells #[.bool false, .bool false, .int .u64 0, .int .u64 0, .slice none 0 0] 31) = Y4 at *
     clear hY
     refine hK.out _ _ (hall _ cc) (fun hH => ?_)
     clear hK K
     try simp only [Act.put, gA, gB, gC, gD, gE, gG]
     refine wpAnyH_ready (rs := [6]) (by kernel_rfl) (by simp) (AllReadyH.cons (o := _) rfl (fun K hK => ?_) AllReadyH.nil)
     obtain ⟨q_0, q_1, q_2, q_3, q_4, qf⟩ := lw_cells5 q0
     go_simp
     clear q_0 q_1 q_2 q_3 q_4 qf
     replace q1 := lw_far5 (b := Y2.heap.size) q1 (.bool aw) (.bool ae) (.int .u64 al) (.int .u64 ah) (.slice p5 Xa.length c5) (by first | assumption | exact Ne.symm (by assumption))
     replace q0 := lw_set5 q0 (.bool aw) (.bool ae) (.int .u64 al) (.int .u64 ah) (.slice p5 Xa.length c5)
     replace cc := lw_sp5 (b := Y2.heap.size) cc zz0 (.bool aw) (.bool ae) (.int .u64 al) (.int .u64 ah) (.slice p5 Xa.length c5)
     rw [show (((((Y4.setCell ⟨Y2.heap.size, 0, none⟩ (.bool aw)).setCell ⟨Y2.heap.size, 1, none⟩ (.bool ae)).setCell ⟨Y2.heap.size, 2, none⟩ (.int .u64 al)).setCell ⟨Y2.heap.size, 3, none⟩ (.int .u64 ah)).setCell ⟨Y2.heap.size, 4, none⟩ (.slice p5 Xa.length c5)) = set5 Y4 Y2.heap.size (.bool aw) (.bool ae) (.int .u64 al) (.int .u64 ah) (.slice p5 Xa.length c5) from rfl]
     generalize hY : set5 Y4 Y2.heap.size (.bool aw) (.bool ae) (.int .u64 al) (.int .u64 ah) (.slice p5 Xa.length c5) = Y5 at *
     clear hY
     refine hK.out _ _ (hall _ cc) (fun hH => ?_)
     clear hK K
     try simp only [Act.put, gA, gB, gC, gD, gE, gG]
     refine wpAnyH_ready (rs := [7]) (by kernel_rfl) (by simp) (AllReadyH.cons (o := _) rfl (fun K hK => ?_) AllReadyH.nil)
     obtain ⟨q_0, q_1, q_2, q_3, q_4, qf⟩ := lw_cells5 q1
     go_simp
     clear q_0 q_1 q_2 q_3 q_4 qf
     replace q0 := lw_far5 (b := Y3.heap.size) q0 (.bool bw) (.bool be) (.int .u64 bl) (.int .u64 bh) (.slice p6 Xb.length c6) (by first | assumption | exact Ne.symm (by assumption))
     replace q1 := lw_set5 q1 (.bool bw) (.bool be) (.int .u64 bl) (.int .u64 bh) (.slice p6 Xb.length c6)
     replace cc := lw_sp5 (b := Y3.heap.size) cc zz1 (.bool bw) (.bool be) (.int .u64 bl) (.int .u64 bh) (.slice p6 Xb.length c6)
     rw [show (((((Y5.setCell ⟨Y3.heap.size, 0, none⟩ (.bool bw)).setCell ⟨Y3.heap.size, 1, none⟩ (.bool be)).setCell ⟨Y3.heap.size, 2, none⟩ (.int .u64 bl)).setCell ⟨Y3.heap.size, 3, none⟩ (.int .u64 bh)).setCell ⟨Y3.heap.size, 4, none⟩ (.slice p6 Xb.length c6)) = set5 Y5 Y3.heap.size (.bool bw) (.bool be) (.int .u64 bl) (.int .u64 bh) (.slice p6 Xb.length c6) from rfl]
     generalize hY : set5 Y5 Y3.heap.size (.bool bw) (.bool be) (.int .u64 bl) (.int .u64 bh) (.slice p6 Xb.length c6) = Y6 at *
     clear hY
     refine hK.out _ _ (hall _ cc) (fun hH => ?_)
     clear hK K
     try simp only [Act.put, gA, gB, gC, gD, gE, gG]
     refine wpAnyH_done (by kernel_rfl) ?_ _
     go_wp2_with fail
     go_meet
     exact ⟨_, Y2.heap.size, Y3.heap.size, p5, c5, p6, c6, rfl, rfl, rfl, q0, q1, h5 _ (ta.on cc), h6 _ (tb.on cc), cc⟩
    ·skip
     go_simp
     have zz1 := cc.size
     have q1 := World.alloc_heap_new Y2 (.cells #[.bool false, .bool false, .int .u64 0, .int .u64 0, .slice none 0 0] 31)
     replace cc := sp_new cc (.cells #[.bool false, .bool false, .int .u64 0, .int .u64 0, .slice none 0 0] 31)
     generalize hY : Y2.alloc (.cells #[.bool false, .bool false, .int .u64 0, .int .u64 0, .slice none 0 0] 31) = Y7 at *
     clear hY
     refine hK.out _ _ (hall _ cc) (fun hH => ?_)
     clear hK K
     try simp only [Act.put, gA, gB, gC, gD, gE, gG]
     refine wpAnyH_ready (rs := [4]) (by kernel_rfl) (by simp) (AllReadyH.cons (o := _) rfl (fun K hK => ?_) AllReadyH.nil)
     go_simp
     have zz0 := cc.size
     have ne0_1 : Y2.heap.size ≠ Y7.heap.size := Nat.ne_of_lt (lw_lt q1)
     replace q1 := lw_old q1 (.cells #[.bool false, .bool false, .int .u64 0, .int .u64 0, .slice none 0 0] 31)
     have q0 := World.alloc_heap_new Y7 (.cells #[.bool false, .bool false, .int .u64 0, .int .u64 0, .slice none 0 0] 31)
     replace cc := sp_new cc (.cells #[.bool false, .bool false, .int .u64 0, .int .u64 0, .slice none 0 0] 31)
     generalize hY : Y7.alloc (.cells #[.bool false, .bool false, .int .u64 0, .int .u64 0, .slice none 0 0] 31) = Y8 at *
     clear hY
     refine hK.out _ _ (hall _ cc) (fun hH => ?_)
     clear hK K
     try simp only [Act.put, gA, gB, gC, gD, gE, gG]
     refine wpAnyH_ready (rs := [6]) (by kernel_rfl) (by simp) (AllReadyH.cons (o := _) rfl (fun K hK => ?_) AllReadyH.nil)
     obtain ⟨q_0, q_1, q_2, q_3, q_4, qf⟩ := lw_cells5 q0
     go_simp
     clear q_0 q_1 q_2 q_3 q_4 qf
     replace q1 := lw_far5 (b := Y7.heap.size) q1 (.bool aw) (.bool ae) (.int .u64 al) (.int .u64 ah) (.slice p5 Xa.length c5) (by first | assumption | exact Ne.symm (by assumption))
     replace q0 := lw_set5 q0 (.bool aw) (.bool ae) (.int .u64 al) (.int .u64 ah) (.slice p5 Xa.length c5)
     replace cc := lw_sp5 (b := Y7.heap.size) cc zz0 (.bool aw) (.bool ae) (.int .u64 al) (.int .u64 ah) (.slice p5 Xa.length c5)
     rw [show (((((Y8.setCell ⟨Y7.heap.size, 0, none⟩ (.bool aw)).setCell ⟨Y7.heap.size, 1, none⟩ (.bool ae)).setCell ⟨Y7.heap.size, 2, none⟩ (.int .u64 al)).setCell ⟨Y7.heap.size, 3, none⟩ (.int .u64 ah)).setCell ⟨Y7.heap.size, 4, none⟩ (.slice p5 Xa.length c5)) = set5 Y8 Y7.heap.size (.bool aw) (.bool ae) (.int .u64 al) (.int .u64 ah) (.slice p5 Xa.length c5) from rfl]
     generalize hY : set5 Y8 Y7.heap.size (.bool aw) (.bool ae) (.int .u64 al) (.int .u64 ah) (.slice p5 Xa.length c5) = Y9 at *
     clear hY
     refine hK.out _ _ (hall _ cc) (fun hH => ?_)
     clear hK K
     try simp only [Act.put, gA, gB, gC, gD, gE, gG]
     refine wpAnyH_ready (rs := [7]) (by kernel_rfl) (by simp) (AllReadyH.cons (o := _) rfl (fun K hK => ?_) AllReadyH.nil)
     obtain ⟨q_0, q_1, q_2, q_3, q_4, qf⟩ := lw_cells5 q1
     go_simp
     clear q_0 q_1 q_2 q_3 q_4 qf
     replace q0 := lw_far5 (b := Y2.heap.size) q0 (.bool bw) (.bool be) (.int .u64 bl) (.int .u64 bh) (.slice p6 Xb.length c6) (by first | assumption | exact Ne.symm (by assumption))
     replace q1 := lw_set5 q1 (.bool bw) (.bool be) (.int .u64 bl) (.int .u64 bh) (.slice p6 Xb.length c6)
     replace cc := lw_sp5 (b := Y2.heap.size) cc zz1 (.bool bw) (.bool be) (.int .u64 bl) (.int .u64 bh) (.slice p6 Xb.length c6)
     rw [show (((((Y9.setCell ⟨Y2.heap.size, 0, none⟩ (.bool bw)).setCell ⟨Y2.heap.size, 1, none⟩ (.bool be)).setCell ⟨Y2.heap.size, 2, none⟩ (.int .u64 bl)).setCell ⟨Y2.heap.size, 3, none⟩ (.int .u64 bh)).setCell ⟨Y2.heap.size, 4, none⟩ (.slice p6 Xb.length c6)) = set5 Y9 Y2.heap.size (.bool bw) (.bool be) (.int .u64 bl) (.int .u64 bh) (.slice p6 Xb.length c6) from rfl]
     generalize hY : set5 Y9 Y2.heap.size (.bool bw) (.bool be) (.int .u64 bl) (.int .u64 bh) (.slice p6 Xb.length c6) = Y10 at *
     clear hY
     refine hK.out _ _ (hall _ cc) (fun hH => ?_)
     clear hK K
     try simp only [Act.put, gA, gB, gC, gD, gE, gG]
     refine wpAnyH_done (by kernel_rfl) ?_ _
     go_wp2_with fail
     go_meet
     exact ⟨_, Y7.heap.size, Y2.heap.size, p5, c5, p6, c6, rfl, rfl, rfl, q0, q1, h5 _ (ta.on cc), h6 _ (tb.on cc), cc⟩
   ·skip
    go_simp
    have zz0 := cc.size
    have q0 := World.alloc_heap_new Y1 (.cells #[.bool false, .bool false, .int .u64 0, .int .u64 0, .slice none 0 0] 31)
    replace cc := sp_new cc (.cells #[.bool false, .bool false, .int .u64 0, .int .u64 0, .slice none 0 0] 31)
    generalize hY : Y1.alloc (.cells #[.bool false, .bool false, .int .u64 0, .int .u64 0, .slice none 0 0] 31) = Y11 at *
    clear hY
    refine hK.out _ _ (hall _ cc) (fun hH => ?_)
    clear hK K
    try simp only [Act.put, gA, gB, gC, gD, gE, gG]
    refine wpAnyH_ready (rs := [3, 5]) (by kernel_rfl) (by simp) (AllReadyH.cons (o := _) rfl (fun K hK => ?_) (AllReadyH.cons (o := _) rfl (fun K hK => ?_) AllReadyH.nil))
    ·skip
     go_simp
     refine (kg _ (TAt.on tb cc)).mono ?_
     rintro e Y12 ⟨⟨v, rfl, h6⟩, g⟩
     have h60 := h6 _ tb
     obtain ⟨p6, c6, rfl⟩ := h60.len
     clear h60
     replace cc := sp_call cc g
     replace q0 := lw_on g q0
     clear g
     go_wp2_with fail
     refine hK.out _ _ (hall _ cc) (fun hH => ?_)
     clear hK K
     try simp only [Act.put, gA, gB, gC, gD, gE, gG]
     refine wpAnyH_ready (rs := [5]) (by kernel_rfl) (by simp) (AllReadyH.cons (o := _) rfl (fun K hK => ?_) AllReadyH.nil)
     go_simp
     have zz1 := cc.size
     have ne0_1 : Y1.heap.size ≠ Y12.heap.size := Nat.ne_of_lt (lw_lt q0)
     replace q0 := lw_old q0 (.cells #[.bool false, .bool false, .int .u64 0, .int .u64 0, .slice none 0 0] 31)
     have q1 := World.alloc_heap_new Y12 (.cells #[.bool false, .bool false, .int .u64 0, .int .u64 0, .slice none 0 0] 31)
     replace cc := sp_new cc (.cells #[.bool false, .bool false, .int .u64 0, .int .u64 0, .slice none 0 0] 31)
     generalize hY : Y12.alloc (.cells #[.bool false, .bool false, .int .u64 0, .int .u64 0, .slice none 0 0] 31) = Y13 at *
     clear hY
     refine hK.out _ _ (hall _ cc) (fun hH => ?_)
     clear hK K
     try simp only [Act.put, gA, gB, gC, gD, gE, gG]
     refine wpAnyH_ready (rs := [6]) (by kernel_rfl) (by simp) (AllReadyH.cons (o := _) rfl (fun K hK => ?_) AllReadyH.nil)
     obtain ⟨q_0, q_1, q_2, q_3, q_4, qf⟩ := lw_cells5 q0
     go_simp
     clear q_0 q_1 q_2 q_3 q_4 qf
     replace q1 := lw_far5 (b := Y1.heap.size) q1 (.bool aw) (.bool ae) (.int .u64 al) (.int .u64 ah) (.slice p5 Xa.length c5) (by first | assumption | exact Ne.symm (by assumption))
     replace q0 := lw_set5 q0 (.bool aw) (.bool ae) (.int .u64 al) (.int .u64 ah) (.slice p5 Xa.length c5)
     replace cc := lw_sp5 (b := Y1.heap.size) cc zz0 (.bool aw) (.bool ae) (.int .u64 al) (.int .u64 ah) (.slice p5 Xa.length c5)
     rw [show (((((Y13.setCell ⟨Y1.heap.size, 0, none⟩ (.bool aw)).setCell ⟨Y1.heap.size, 1, none⟩ (.bool ae)).setCell ⟨Y1.heap.size, 2, none⟩ (.int .u64 al)).setCell ⟨Y1.heap.size, 3, none⟩ (.int .u64 ah)).setCell ⟨Y1.heap.size, 4, none⟩ (.slice p5 Xa.length c5)) = set5 Y13 Y1.heap.size (.bool aw) (.bool ae) (.int .u64 al) (.int .u64 ah) (.slice p5 Xa.length c5) from rfl]
     generalize hY : set5 Y13 Y1.heap.size (.bool aw) (.bool ae) (.int .u64 al) (.int .u64 ah) (.slice p5 Xa.length c5) = Y14 at *
     clear hY
     refine hK.out _ _ (hall _ cc) (fun hH => ?_)
     clear hK K
     try simp only [Act.put, gA, gB, gC, gD, gE, gG]
     refine wpAnyH_ready (rs := [7]) (by kernel_rfl) (by simp) (AllReadyH.cons (o := _) rfl (fun K hK => ?_) AllReadyH.nil)
     obtain ⟨q_0, q_1, q_2, q_3, q_4, qf⟩ := lw_cells5 q1
     go_simp
     clear q_0 q_1 q_2 q_3 q_4 qf
     replace q0 := lw_far5 (b := Y12.heap.size) q0 (.bool bw) (.bool be) (.int .u64 bl) (.int .u64 bh) (.slice p6 Xb.length c6) (by first | assumption | exact Ne.symm (by assumption))
     replace q1 := lw_set5 q1 (.bool bw) (.bool be) (.int .u64 bl) (.int .u64 bh) (.slice p6 Xb.length c6)
     replace cc := lw_sp5 (b := Y12.heap.size) cc zz1 (.bool bw) (.bool be) (.int .u64 bl) (.int .u64 bh) (.slice p6 Xb.length c6)
     rw [show (((((Y14.setCell ⟨Y12.heap.size, 0, none⟩ (.bool bw)).setCell ⟨Y12.heap.size, 1, none⟩ (.bool be)).setCell ⟨Y12.heap.size, 2, none⟩ (.int .u64 bl)).setCell ⟨Y12.heap.size, 3, none⟩ (.int .u64 bh)).setCell ⟨Y12.heap.size, 4, none⟩ (.slice p6 Xb.length c6)) = set5 Y14 Y12.heap.size (.bool bw) (.bool be) (.int .u64 bl) (.int .u64 bh) (.slice p6 Xb.length c6) from rfl]
     generalize hY : set5 Y14 Y12.heap.size (.bool bw) (.bool be) (.int .u64 bl) (.int .u64 bh) (.slice p6 Xb.length c6) = Y15 at *
     clear hY
     refine hK.out _ _ (hall _ cc) (fun hH => ?_)
     clear hK K
     try simp only [Act.put, gA, gB, gC, gD, gE, gG]
     refine wpAnyH_done (by kernel_rfl) ?_ _
     go_wp2_with fail
     go_meet
     exact ⟨_, Y1.heap.size, Y12.heap.size, p5, c5, p6, c6, rfl, rfl, rfl, q0, q1, h5 _ (ta.on cc), h6 _ (tb.on cc), cc⟩
    ·skip
     go_simp
     have zz1 := cc.size
     have ne0_1 : Y1.heap.size ≠ Y11.heap.size := Nat.ne_of_lt (lw_lt q0)
     replace q0 := lw_old q0 (.cells #[.bool false, .bool false, .int .u64 0, .int .u64 0, .slice none 0 0] 31)
     have q1 := World.alloc_heap_new Y11 (.cells #[.bool false, .bool false, .int .u64 0, .int .u64 0, .slice none 0 0] 31)
     replace cc := sp_new cc (.cells #[.bool false, .bool false, .int .u64 0, .int .u64 0, .slice none 0 0] 31)
     generalize hY : Y11.alloc (.cells #[.bool false, .bool false, .int .u64 0, .int .u64 0, .slice none 0 0] 31) = Y16 at *
     clear hY
     refine hK.out _ _ (hall _ cc) (fun hH => ?_)
     clear hK K
     try simp only [Act.put, gA, gB, gC, gD, gE, gG]
     refine wpAnyH_ready (rs := [3]) (by kernel_rfl) (by simp) (AllReadyH.cons (o := _) rfl (fun K hK => ?_) AllReadyH.nil)
     go_simp
     refine (kg _ (TAt.on tb cc)).mono ?_
     rintro e Y17 ⟨⟨v, rfl, h6⟩, g⟩
     have h60 := h6 _ tb
     obtain ⟨p6, c6, rfl⟩ := h60.len
     clear h60
     replace cc := sp_call cc g
     replace q0 := lw_on g q0
     replace q1 := lw_on g q1
     clear g
     go_wp2_with fail
     refine hK.out _ _ (hall _ cc) (fun hH => ?_)
     clear hK K
     try simp only [Act.put, gA, gB, gC, gD, gE, gG]
     refine wpAnyH_ready (rs := [6]) (by kernel_rfl) (by simp) (AllReadyH.cons (o := _) rfl (fun K hK => ?_) AllReadyH.nil)
     obtain ⟨q_0, q_1, q_2, q_3, q_4, qf⟩ := lw_cells5 q0
     go_simp
     clear q_0 q_1 q_2 q_3 q_4 qf
     replace q1 := lw_far5 (b := Y1.heap.size) q1 (.bool aw) (.bool ae) (.int .u64 al) (.int .u64 ah) (.slice p5 Xa.length c5) (by first | assumption | exact Ne.symm (by assumption))
     replace q0 := lw_set5 q0 (.bool aw) (.bool ae) (.int .u64 al) (.int .u64 ah) (.slice p5 Xa.length c5)
     replace cc := lw_sp5 (b := Y1.heap.size) cc zz0 (.bool aw) (.bool ae) (.int .u64 al) (.int .u64 ah) (.slice p5 Xa.length c5)
     rw [show (((((Y17.setCell ⟨Y1.heap.size, 0, none⟩ (.bool aw)).setCell ⟨Y1.heap.size, 1, none⟩ (.bool ae)).setCell ⟨Y1.heap.size, 2, none⟩ (.int .u64 al)).setCell ⟨Y1.heap.size, 3, none⟩ (.int .u64 ah)).setCell ⟨Y1.heap.size, 4, none⟩ (.slice p5 Xa.length c5)) = set5 Y17 Y1.heap.size (.bool aw) (.bool ae) (.int .u64 al) (.int .u64 ah) (.slice p5 Xa.length c5) from rfl]
     generalize hY : set5 Y17 Y1.heap.size (.bool aw) (.bool ae) (.int .u64 al) (.int .u64 ah) (.slice p5 Xa.length c5) = Y18 at *
     clear hY
     refine hK.out _ _ (hall _ cc) (fun hH => ?_)
     clear hK K
     try simp only [Act.put, gA, gB, gC, gD, gE, gG]
     refine wpAnyH_ready (rs := [7]) (by kernel_rfl) (by simp) (AllReadyH.cons (o := _) rfl (fun K hK => ?_) AllReadyH.nil)
     obtain ⟨q_0, q_1, q_2, q_3, q_4, qf⟩ := lw_cells5 q1
     go_simp
     clear q_0 q_1 q_2 q_3 q_4 qf
     replace q0 := lw_far5 (b := Y11.heap.size) q0 (.bool bw) (.bool be) (.int .u64 bl) (.int .u64 bh) (.slice p6 Xb.length c6) (by first | assumption | exact Ne.symm (by assumption))
     replace q1 := lw_set5 q1 (.bool bw) (.bool be) (.int .u64 bl) (.int .u64 bh) (.slice p6 Xb.length c6)
     replace cc := lw_sp5 (b := Y11.heap.size) cc zz1 (.bool bw) (.bool be) (.int .u64 bl) (.int .u64 bh) (.slice p6 Xb.length c6)
     rw [show (((((Y18.setCell ⟨Y11.heap.size, 0, none⟩ (.bool bw)).setCell ⟨Y11.heap.size, 1, none⟩ (.bool be)).setCell ⟨Y11.heap.size, 2, none⟩ (.int .u64 bl)).setCell ⟨Y11.heap.size, 3, none⟩ (.int .u64 bh)).setCell ⟨Y11.heap.size, 4, none⟩ (.slice p6 Xb.length c6)) = set5 Y18 Y11.heap.size (.bool bw) (.bool be) (.int .u64 bl) (.int .u64 bh) (.slice p6 Xb.length c6) from rfl]
     generalize hY : set5 Y18 Y11.heap.size (.bool bw) (.bool be) (.int .u64 bl) (.int .u64 bh) (.slice p6 Xb.length c6) = Y19 at *
     clear hY
     refine hK.out _ _ (hall _ cc) (fun hH => ?_)
     clear hK K
     try simp only [Act.put, gA, gB, gC, gD, gE, gG]
     refine wpAnyH_done (by kernel_rfl) ?_ _
     go_wp2_with fail
     go_meet
     exact ⟨_, Y1.heap.size, Y11.heap.size, p5, c5, p6, c6, rfl, rfl, rfl, q0, q1, h5 _ (ta.on cc), h6 _ (tb.on cc), cc⟩
   ·skip
    go_simp
    have zz1 := cc.size
    have q1 := World.alloc_heap_new Y1 (.cells #[.bool false, .bool false, .int .u64 0, .int .u64 0, .slice none 0 0] 31)
    replace cc := sp_new cc (.cells #[.bool false, .bool false, .int .u64 0, .int .u64 0, .slice none 0 0] 31)
    generalize hY : Y1.alloc (.cells #[.bool false, .bool false, .int .u64 0, .int .u64 0, .slice none 0 0] 31) = Y20 at *
    clear hY
    refine hK.out _ _ (hall _ cc) (fun hH => ?_)
    clear hK K
    try simp only [Act.put, gA, gB, gC, gD, gE, gG]
    refine wpAnyH_ready (rs := [3, 4]) (by kernel_rfl) (by simp) (AllReadyH.cons (o := _) rfl (fun K hK => ?_) (AllReadyH.cons (o := _) rfl (fun K hK => ?_) AllReadyH.nil))
    ·skip
     go_simp
     refine (kg _ (TAt.on tb cc)).mono ?_
     rintro e Y21 ⟨⟨v, rfl, h6⟩, g⟩
     have h60 := h6 _ tb
     obtain ⟨p6, c6, rfl⟩ := h60.len
     clear h60
     replace cc := sp_call cc g
     replace q1 := lw_on g q1
     clear g
     go_wp2_with fail
     refine hK.out _ _ (hall _ cc) (fun hH => ?_)
     clear hK K
     try simp only [Act.put, gA, gB, gC, gD, gE, gG]
     refine wpAnyH_ready (rs := [4]) (by kernel_rfl) (by simp) (AllReadyH.cons (o := _) rfl (fun K hK => ?_) AllReadyH.nil)
     go_simp
     have zz0 := cc.size
     have ne0_1 : Y1.heap.size ≠ Y21.heap.size := Nat.ne_of_lt (lw_lt q1)
     replace q1 := lw_old q1 (.cells #[.bool false, .bool false, .int .u64 0, .int .u64 0, .slice none 0 0] 31)
     have q0 := World.alloc_heap_new Y21 (.cells #[.bool false, .bool false, .int .u64 0, .int .u64 0, .slice none 0 0] 31)
     replace cc := sp_new cc (.cells #[.bool false, .bool false, .int .u64 0, .int .u64 0, .slice none 0 0] 31)
     generalize hY : Y21.alloc (.cells #[.bool false, .bool false, .int .u64 0, .int .u64 0, .slice none 0 0] 31) = Y22 at *
     clear hY
     refine hK.out _ _ (hall _ cc) (fun hH => ?_)
     clear hK K
     try simp only [Act.put, gA, gB, gC, gD, gE, gG]
     refine wpAnyH_ready (rs := [6]) (by kernel_rfl) (by simp) (AllReadyH.cons (o := _) rfl (fun K hK => ?_) AllReadyH.nil)
     obtain ⟨q_0, q_1, q_2, q_3, q_4, qf⟩ := lw_cells5 q0
     go_simp
     clear q_0 q_1 q_2 q_3 q_4 qf
     replace q1 := lw_far5 (b := Y21.heap.size) q1 (.bool aw) (.bool ae) (.int .u64 al) (.int .u64 ah) (.slice p5 Xa.length c5) (by first | assumption | exact Ne.symm (by assumption))
     replace q0 := lw_set5 q0 (.bool aw) (.bool ae) (.int .u64 al) (.int .u64 ah) (.slice p5 Xa.length c5)
     replace cc := lw_sp5 (b := Y21.heap.size) cc zz0 (.bool aw) (.bool ae) (.int .u64 al) (.int .u64 ah) (.slice p5 Xa.length c5)
     rw [show (((((Y22.setCell ⟨Y21.heap.size, 0, none⟩ (.bool aw)).setCell ⟨Y21.heap.size, 1, none⟩ (.bool ae)).setCell ⟨Y21.heap.size, 2, none⟩ (.int .u64 al)).setCell ⟨Y21.heap.size, 3, none⟩ (.int .u64 ah)).setCell ⟨Y21.heap.size, 4, none⟩ (.slice p5 Xa.length c5)) = set5 Y22 Y21.heap.size (.bool aw) (.bool ae) (.int .u64 al) (.int .u64 ah) (.slice p5 Xa.length c5) from rfl]
     generalize hY : set5 Y22 Y21.heap.size (.bool aw) (.bool ae) (.int .u64 al) (.int .u64 ah) (.slice p5 Xa.length c5) = Y23 at *
     clear hY
     refine hK.out _ _ (hall _ cc) (fun hH => ?_)
     clear hK K
     try simp only [Act.put, gA, gB, gC, gD, gE, gG]
     refine wpAnyH_ready (rs := [7]) (by kernel_rfl) (by simp) (AllReadyH.cons (o := _) rfl (fun K hK => ?_) AllReadyH.nil)
     obtain ⟨q_0, q_1, q_2, q_3, q_4, qf⟩ := lw_cells5 q1
     go_simp
     clear q_0 q_1 q_2 q_3 q_4 qf
     replace q0 := lw_far5 (b := Y1.heap.size) q0 (.bool bw) (.bool be) (.int .u64 bl) (.int .u64 bh) (.slice p6 Xb.length c6) (by first | assumption | exact Ne.symm (by assumption))
     replace q1 := lw_set5 q1 (.bool bw) (.bool be) (.int .u64 bl) (.int .u64 bh) (.slice p6 Xb.length c6)
     replace cc := lw_sp5 (b := Y1.heap.size) cc zz1 (.bool bw) (.bool be) (.int .u64 bl) (.int .u64 bh) (.slice p6 Xb.length c6)
     rw [show (((((Y23.setCell ⟨Y1.heap.size, 0, none⟩ (.bool bw)).setCell ⟨Y1.heap.size, 1, none⟩ (.bool be)).setCell ⟨Y1.heap.size, 2, none⟩ (.int .u64 bl)).setCell ⟨Y1.heap.size, 3, none⟩ (.int .u64 bh)).setCell ⟨Y1.heap.size, 4, none⟩ (.slice p6 Xb.length c6)) = set5 Y23 Y1.heap.size (.bool bw) (.bool be) (.int .u64 bl) (.int .u64 bh) (.slice p6 Xb.length c6) from rfl]
     generalize hY : set5 Y23 Y1.heap.size (.bool bw) (.bool be) (.int .u64 bl) (.int .u64 bh) (.slice p6 Xb.length c6) = Y24 at *
     clear hY
     refine hK.out _ _ (hall _ cc) (fun hH => ?_)
     clear hK K
     try simp only [Act.put, gA, gB, gC, gD, gE, gG]
     refine wpAnyH_done (by kernel_rfl) ?_ _
     go_wp2_with fail
     go_meet
     exact ⟨_, Y21.heap.size, Y1.heap.size, p5, c5, p6, c6, rfl, rfl, rfl, q0, q1, h5 _ (ta.on cc), h6 _ (tb.on cc), cc⟩
    ·skip
     go_simp
     have zz0 := cc.size
     have ne0_1 : Y1.heap.size ≠ Y20.heap.size := Nat.ne_of_lt (lw_lt q1)
     replace q1 := lw_old q1 (.cells #[.bool false, .bool false, .int .u64 0, .int .u64 0, .slice none 0 0] 31)
     have q0 := World.alloc_heap_new Y20 (.cells #[.bool false, .bool false, .int .u64 0, .int .u64 0, .slice none 0 0] 31)
     replace cc := sp_new cc (.cells #[.bool false, .bool false, .int .u64 0, .int .u64 0, .slice none 0 0] 31)
     generalize hY : Y20.alloc (.cells #[.bool false, .bool false, .int .u64 0, .int .u64 0, .slice none 0 0] 31) = Y25 at *
     clear hY
     refine hK.out _ _ (hall _ cc) (fun hH => ?_)
     clear hK K
     try simp only [Act.put, gA, gB, gC, gD, gE, gG]
     refine wpAnyH_ready (rs := [3]) (by kernel_rfl) (by simp) (AllReadyH.cons (o := _) rfl (fun K hK => ?_) AllReadyH.nil)
     go_simp
     refine (kg _ (TAt.on tb cc)).mono ?_
     rintro e Y26 ⟨⟨v, rfl, h6⟩, g⟩
     have h60 := h6 _ tb
     obtain ⟨p6, c6, rfl⟩ := h60.len
     clear h60
     replace cc := sp_call cc g
     replace q0 := lw_on g q0
     replace q1 := lw_on g q1
     clear g
     go_wp2_with fail
     refine hK.out _ _ (hall _ cc) (fun hH => ?_)
     clear hK K
     try simp only [Act.put, gA, gB, gC, gD, gE, gG]
     refine wpAnyH_ready (rs := [6]) (by kernel_rfl) (by simp) (AllReadyH.cons (o := _) rfl (fun K hK => ?_) AllReadyH.nil)
     obtain ⟨q_0, q_1, q_2, q_3, q_4, qf⟩ := lw_cells5 q0
     go_simp
     clear q_0 q_1 q_2 q_3 q_4 qf
     replace q1 := lw_far5 (b := Y20.heap.size) q1 (.bool aw) (.bool ae) (.int .u64 al) (.int .u64 ah) (.slice p5 Xa.length c5) (by first | assumption | exact Ne.symm (by assumption))
     replace q0 := lw_set5 q0 (.bool aw) (.bool ae) (.int .u64 al) (.int .u64 ah) (.slice p5 Xa.length c5)
     replace cc := lw_sp5 (b := Y20.heap.size) cc zz0 (.bool aw) (.bool ae) (.int .u64 al) (.int .u64 ah) (.slice p5 Xa.length c5)
     rw [show (((((Y26.setCell ⟨Y20.heap.size, 0, none⟩ (.bool aw)).setCell ⟨Y20.heap.size, 1, none⟩ (.bool ae)).setCell ⟨Y20.heap.size, 2, none⟩ (.int .u64 al)).setCell ⟨Y20.heap.size, 3, none⟩ (.int .u64 ah)).setCell ⟨Y20.heap.size, 4, none⟩ (.slice p5 Xa.length c5)) = set5 Y26 Y20.heap.size (.bool aw) (.bool ae) (.int .u64 al) (.int .u64 ah) (.slice p5 Xa.length c5) from rfl]
     generalize hY : set5 Y26 Y20.heap.size (.bool aw) (.bool ae) (.int .u64 al) (.int .u64 ah) (.slice p5 Xa.length c5) = Y27 at *
     clear hY
     refine hK.out _ _ (hall _ cc) (fun hH => ?_)
     clear hK K
     try simp only [Act.put, gA, gB, gC, gD, gE, gG]
     refine wpAnyH_ready (rs := [7]) (by kernel_rfl) (by simp) (AllReadyH.cons (o := _) rfl (fun K hK => ?_) AllReadyH.nil)
     obtain ⟨q_0, q_1, q_2, q_3, q_4, qf⟩ := lw_cells5 q1
     go_simp
     clear q_0 q_1 q_2 q_3 q_4 qf
     replace q0 := lw_far5 (b := Y1.heap.size) q0 (.bool bw) (.bool be) (.int .u64 bl) (.int .u64 bh) (.slice p6 Xb.length c6) (by first | assumption | exact Ne.symm (by assumption))
     replace q1 := lw_set5 q1 (.bool bw) (.bool be) (.int .u64 bl) (.int .u64 bh) (.slice p6 Xb.length c6)
     replace cc := lw_sp5 (b := Y1.heap.size) cc zz1 (.bool bw) (.bool be) (.int .u64 bl) (.int .u64 bh) (.slice p6 Xb.length c6)
     rw [show (((((Y27.setCell ⟨Y1.heap.size, 0, none⟩ (.bool bw)).setCell ⟨Y1.heap.size, 1, none⟩ (.bool be)).setCell ⟨Y1.heap.size, 2, none⟩ (.int .u64 bl)).setCell ⟨Y1.heap.size, 3, none⟩ (.int .u64 bh)).setCell ⟨Y1.heap.size, 4, none⟩ (.slice p6 Xb.length c6)) = set5 Y27 Y1.heap.size (.bool bw) (.bool be) (.int .u64 bl) (.int .u64 bh) (.slice p6 Xb.length c6) from rfl]
     generalize hY : set5 Y27 Y1.heap.size (.bool bw) (.bool be) (.int .u64 bl) (.int .u64 bh) (.slice p6 Xb.length c6) = Y28 at *
     clear hY
     refine hK.out _ _ (hall _ cc) (fun hH => ?_)
     clear hK K
     try simp only [Act.put, gA, gB, gC, gD, gE, gG]
     refine wpAnyH_done (by kernel_rfl) ?_ _
     go_wp2_with fail
     go_meet
     exact ⟨_, Y20.heap.size, Y1.heap.size, p5, c5, p6, c6, rfl, rfl, rfl, q0, q1, h5 _ (ta.on cc), h6 _ (tb.on cc), cc⟩
  ·skip
   go_simp
   have zz0 := cc.size
   have q0 := World.alloc_heap_new Y0 (.cells #[.bool false, .bool false, .int .u64 0, .int .u64 0, .slice none 0 0] 31)
   replace cc := sp_new cc (.cells #[.bool false, .bool false, .int .u64 0, .int .u64 0, .slice none 0 0] 31)
   generalize hY : Y0.alloc (.cells #[.bool false, .bool false, .int .u64 0, .int .u64 0, .slice none 0 0] 31) = Y29 at *
   clear hY
   refine hK.out _ _ (hall _ cc) (fun hH => ?_)
   clear hK K
   try simp only [Act.put, gA, gB, gC, gD, gE, gG]
   refine wpAnyH_ready (rs := [1, 5]) (by kernel_rfl) (by simp) (AllReadyH.cons (o := _) rfl (fun K hK => ?_) (AllReadyH.cons (o := _) rfl (fun K hK => ?_) AllReadyH.nil))
   ·skip
    go_simp
    refine (kf _ (TAt.on ta cc)).mono ?_
    rintro e Y30 ⟨⟨v, rfl, h5⟩, g⟩
    have h50 := h5 _ ta
    obtain ⟨p5, c5, rfl⟩ := h50.len
    clear h50
    replace cc := sp_call cc g
    replace q0 := lw_on g q0
    clear g
    go_wp2_with fail
    refine hK.out _ _ (hall _ cc) (fun hH => ?_)
    clear hK K
    try simp only [Act.put, gA, gB, gC, gD, gE, gG]
    refine wpAnyH_ready (rs := [3, 5]) (by kernel_rfl) (by simp) (AllReadyH.cons (o := _) rfl (fun K hK => ?_) (AllReadyH.cons (o := _) rfl (fun K hK => ?_) AllReadyH.nil))
    ·skip
     go_simp
     refine (kg _ (TAt.on tb cc)).mono ?_
     rintro e Y31 ⟨⟨v, rfl, h6⟩, g⟩
     have h60 := h6 _ tb
     obtain ⟨p6, c6, rfl⟩ := h60.len
     clear h60
     replace cc := sp_call cc g
     replace q0 := lw_on g q0
     clear g
     go_wp2_with fail
     refine hK.out _ _ (hall _ cc) (fun hH => ?_)
     clear hK K
     try simp only [Act.put, gA, gB, gC, gD, gE, gG]
     refine wpAnyH_ready (rs := [5]) (by kernel_rfl) (by simp) (AllReadyH.cons (o := _) rfl (fun K hK => ?_) AllReadyH.nil)
     go_simp
     have zz1 := cc.size
     have ne0_1 : Y0.heap.size ≠ Y31.heap.size := Nat.ne_of_lt (lw_lt q0)
     replace q0 := lw_old q0 (.cells #[.bool false, .bool false, .int .u64 0, .int .u64 0, .slice none 0 0] 31)
     have q1 := World.alloc_heap_new Y31 (.cells #[.bool false, .bool false, .int .u64 0, .int .u64 0, .slice none 0 0] 31)
     replace cc := sp_new cc (.cells #[.bool false, .bool false, .int .u64 0, .int .u64 0, .slice none 0 0] 31)
     generalize hY : Y31.alloc (.cells #[.bool false, .bool false, .int .u64 0, .int .u64 0, .slice none 0 0] 31) = Y32 at *
     clear hY
     refine hK.out _ _ (hall _ cc) (fun hH => ?_)
     clear hK K
     try simp only [Act.put, gA, gB, gC, gD, gE, gG]
     refine wpAnyH_ready (rs := [6]) (by kernel_rfl) (by simp) (AllReadyH.cons (o := _) rfl (fun K hK => ?_) AllReadyH.nil)
     obtain ⟨q_0, q_1, q_2, q_3, q_4, qf⟩ := lw_cells5 q0
     go_simp
     clear q_0 q_1 q_2 q_3 q_4 qf
     replace q1 := lw_far5 (b := Y0.heap.size) q1 (.bool aw) (.bool ae) (.int .u64 al) (.int .u64 ah) (.slice p5 Xa.length c5) (by first | assumption | exact Ne.symm (by assumption))
     replace q0 := lw_set5 q0 (.bool aw) (.bool ae) (.int .u64 al) (.int .u64 ah) (.slice p5 Xa.length c5)
     replace cc := lw_sp5 (b := Y0.heap.size) cc zz0 (.bool aw) (.bool ae) (.int .u64 al) (.int .u64 ah) (.slice p5 Xa.length c5)
     rw [show (((((Y32.setCell ⟨Y0.heap.size, 0, none⟩ (.bool aw)).setCell ⟨Y0.heap.size, 1, none⟩ (.bool ae)).setCell ⟨Y0.heap.size, 2, none⟩ (.int .u64 al)).setCell ⟨Y0.heap.size, 3, none⟩ (.int .u64 ah)).setCell ⟨Y0.heap.size, 4, none⟩ (.slice p5 Xa.length c5)) = set5 Y32 Y0.heap.size (.bool aw) (.bool ae) (.int .u64 al) (.int .u64 ah) (.slice p5 Xa.length c5) from rfl]
     generalize hY : set5 Y32 Y0.heap.size (.bool aw) (.bool ae) (.int .u64 al) (.int .u64 ah) (.slice p5 Xa.length c5) = Y33 at *
     clear hY
     refine hK.out _ _ (hall _ cc) (fun hH => ?_)
     clear hK K
     try simp only [Act.put, gA, gB, gC, gD, gE, gG]
     refine wpAnyH_ready (rs := [7]) (by kernel_rfl) (by simp) (AllReadyH.cons (o := _) rfl (fun K hK => ?_) AllReadyH.nil)
     obtain ⟨q_0, q_1, q_2, q_3, q_4, qf⟩ := lw_cells5 q1
     go_simp
     clear q_0 q_1 q_2 q_3 q_4 qf
     replace q0 := lw_far5 (b := Y31.heap.size) q0 (.bool bw) (.bool be) (.int .u64 bl) (.int .u64 bh) (.slice p6 Xb.length c6) (by first | assumption | exact Ne.symm (by assumption))
     replace q1 := lw_set5 q1 (.bool bw) (.bool be) (.int .u64 bl) (.int .u64 bh) (.slice p6 Xb.length c6)
     replace cc := lw_sp5 (b := Y31.heap.size) cc zz1 (.bool bw) (.bool be) (.int .u64 bl) (.int .u64 bh) (.slice p6 Xb.length c6)
     rw [show (((((Y33.setCell ⟨Y31.heap.size, 0, none⟩ (.bool bw)).setCell ⟨Y31.heap.size, 1, none⟩ (.bool be)).setCell ⟨Y31.heap.size, 2, none⟩ (.int .u64 bl)).setCell ⟨Y31.heap.size, 3, none⟩ (.int .u64 bh)).setCell ⟨Y31.heap.size, 4, none⟩ (.slice p6 Xb.length c6)) = set5 Y33 Y31.heap.size (.bool bw) (.bool be) (.int .u64 bl) (.int .u64 bh) (.slice p6 Xb.length c6) from rfl]
     generalize hY : set5 Y33 Y31.heap.size (.bool bw) (.bool be) (.int .u64 bl) (.int .u64 bh) (.slice p6 Xb.length c6) = Y34 at *
     clear hY
     refine hK.out _ _ (hall _ cc) (fun hH => ?_)
     clear hK K
     try simp only [Act.put, gA, gB, gC, gD, gE, gG]
     refine wpAnyH_done (by kernel_rfl) ?_ _
     go_wp2_with fail
     go_meet
     exact ⟨_, Y0.heap.size, Y31.heap.size, p5, c5, p6, c6, rfl, rfl, rfl, q0, q1, h5 _ (ta.on cc), h6 _ (tb.on cc), cc⟩
    ·skip
     go_simp
     have zz1 := cc.size
     have ne0_1 : Y0.heap.size ≠ Y30.heap.size := Nat.ne_of_lt (lw_lt q0)
     replace q0 := lw_old q0 (.cells #[.bool false, .bool false, .int .u64 0, .int .u64 0, .slice none 0 0] 31)
     have q1 := World.alloc_heap_new Y30 (.cells #[.bool false, .bool false, .int .u64 0, .int .u64 0, .slice none 0 0] 31)
     replace cc := sp_new cc (.cells #[.bool false, .bool false, .int .u64 0, .int .u64 0, .slice none 0 0] 31)
     generalize hY : Y30.alloc (.cells #[.bool false, .bool false, .int .u64 0, .int .u64 0, .slice none 0 0] 31) = Y35 at *
     clear hY
     refine hK.out _ _ (hall _ cc) (fun hH => ?_)
     clear hK K
     try simp only [Act.put, gA, gB, gC, gD, gE, gG]
     refine wpAnyH_ready (rs := [3]) (by kernel_rfl) (by simp) (AllReadyH.cons (o := _) rfl (fun K hK => ?_) AllReadyH.nil)
     go_simp
     refine (kg _ (TAt.on tb cc)).mono ?_
     rintro e Y36 ⟨⟨v, rfl, h6⟩, g⟩
     have h60 := h6 _ tb
     obtain ⟨p6, c6, rfl⟩ := h60.len
     clear h60
     replace cc := sp_call cc g
     replace q0 := lw_on g q0
     replace q1 := lw_on g q1
     clear g
     go_wp2_with fail
     refine hK.out _ _ (hall _ cc) (fun hH => ?_)
     clear hK K
     try simp only [Act.put, gA, gB, gC, gD, gE, gG]
     refine wpAnyH_ready (rs := [6]) (by kernel_rfl) (by simp) (AllReadyH.cons (o := _) rfl (fun K hK => ?_) AllReadyH.nil)
     obtain ⟨q_0, q_1, q_2, q_3, q_4, qf⟩ := lw_cells5 q0
     go_simp
     clear q_0 q_1 q_2 q_3 q_4 qf
     replace q1 := lw_far5 (b := Y0.heap.size) q1 (.bool aw) (.bool ae) (.int .u64 al) (.int .u64 ah) (.slice p5 Xa.length c5) (by first | assumption | exact Ne.symm (by assumption))
     replace q0 := lw_set5 q0 (.bool aw) (.bool ae) (.int .u64 al) (.int .u64 ah) (.slice p5 Xa.length c5)
     replace cc := lw_sp5 (b := Y0.heap.size) cc zz0 (.bool aw) (.bool ae) (.int .u64 al) (.int .u64 ah) (.slice p5 Xa.length c5)
     rw [show (((((Y36.setCell ⟨Y0.heap.size, 0, none⟩ (.bool aw)).setCell ⟨Y0.heap.size, 1, none⟩ (.bool ae)).setCell ⟨Y0.heap.size, 2, none⟩ (.int .u64 al)).setCell ⟨Y0.heap.size, 3, none⟩ (.int .u64 ah)).setCell ⟨Y0.heap.size, 4, none⟩ (.slice p5 Xa.length c5)) = set5 Y36 Y0.heap.size (.bool aw) (.bool ae) (.int .u64 al) (.int .u64 ah) (.slice p5 Xa.length c5) from rfl]
     generalize hY : set5 Y36 Y0.heap.size (.bool aw) (.bool ae) (.int .u64 al) (.int .u64 ah) (.slice p5 Xa.length c5) = Y37 at *
     clear hY
     refine hK.out _ _ (hall _ cc) (fun hH => ?_)
     clear hK K
     try simp only [Act.put, gA, gB, gC, gD, gE, gG]
     refine wpAnyH_ready (rs := [7]) (by kernel_rfl) (by simp) (AllReadyH.cons (o := _) rfl (fun K hK => ?_) AllReadyH.nil)
     obtain ⟨q_0, q_1, q_2, q_3, q_4, qf⟩ := lw_cells5 q1
     go_simp
     clear q_0 q_1 q_2 q_3 q_4 qf
     replace q0 := lw_far5 (b := Y30.heap.size) q0 (.bool bw) (.bool be) (.int .u64 bl) (.int .u64 bh) (.slice p6 Xb.length c6) (by first | assumption | exact Ne.symm (by assumption))
     replace q1 := lw_set5 q1 (.bool bw) (.bool be) (.int .u64 bl) (.int .u64 bh) (.slice p6 Xb.length c6)
     replace cc := lw_sp5 (b := Y30.heap.size) cc zz1 (.bool bw) (.bool be) (.int .u64 bl) (.int .u64 bh) (.slice p6 Xb.length c6)
     rw [show (((((Y37.setCell ⟨Y30.heap.size, 0, none⟩ (.bool bw)).setCell ⟨Y30.heap.size, 1, none⟩ (.bool be)).setCell ⟨Y30.heap.size, 2, none⟩ (.int .u64 bl)).setCell ⟨Y30.heap.size, 3, none⟩ (.int .u64 bh)).setCell ⟨Y30.heap.size, 4, none⟩ (.slice p6 Xb.length c6)) = set5 Y37 Y30.heap.size (.bool bw) (.bool be) (.int .u64 bl) (.int .u64 bh) (.slice p6 Xb.length c6) from rfl]
     generalize hY : set5 Y37 Y30.heap.size (.bool bw) (.bool be) (.int .u64 bl) (.int .u64 bh) (.slice p6 Xb.length c6) = Y38 at *
     clear hY
     refine hK.out _ _ (hall _ cc) (fun hH => ?_)
     clear hK K
     try simp only [Act.put, gA, gB, gC, gD, gE, gG]
     refine wpAnyH_done (by kernel_rfl) ?_ _
     go_wp2_with fail
     go_meet
     exact ⟨_, Y0.heap.size, Y30.heap.size, p5, c5, p6, c6, rfl, rfl, rfl, q0, q1, h5 _ (ta.on cc), h6 _ (tb.on cc), cc⟩
   ·skip
    go_simp
    have zz1 := cc.size
    have ne0_1 : Y0.heap.size ≠ Y29.heap.size := Nat.ne_of_lt (lw_lt q0)
    replace q0 := lw_old q0 (.cells #[.bool false, .bool false, .int .u64 0, .int .u64 0, .slice none 0 0] 31)
    have q1 := World.alloc_heap_new Y29 (.cells #[.bool false, .bool false, .int .u64 0, .int .u64 0, .slice none 0 0] 31)
    replace cc := sp_new cc (.cells #[.bool false, .bool false, .int .u64 0, .int .u64 0, .slice none 0 0] 31)
    generalize hY : Y29.alloc (.cells #[.bool false, .bool false, .int .u64 0, .int .u64 0, .slice none 0 0] 31) = Y39 at *
    clear hY
    refine hK.out _ _ (hall _ cc) (fun hH => ?_)
    clear hK K
    try simp only [Act.put, gA, gB, gC, gD, gE, gG]
    refine wpAnyH_ready (rs := [1]) (by kernel_rfl) (by simp) (AllReadyH.cons (o := _) rfl (fun K hK => ?_) AllReadyH.nil)
    go_simp
    refine (kf _ (TAt.on ta cc)).mono ?_
    rintro e Y40 ⟨⟨v, rfl, h5⟩, g⟩
    have h50 := h5 _ ta
    obtain ⟨p5, c5, rfl⟩ := h50.len
    clear h50
    replace cc := sp_call cc g
    replace q0 := lw_on g q0
    replace q1 := lw_on g q1
    clear g
    go_wp2_with fail
    refine hK.out _ _ (hall _ cc) (fun hH => ?_)
    clear hK K
    try simp only [Act.put, gA, gB, gC, gD, gE, gG]
    refine wpAnyH_ready (rs := [3]) (by kernel_rfl) (by simp) (AllReadyH.cons (o := _) rfl (fun K hK => ?_) AllReadyH.nil)
    go_simp
    refine (kg _ (TAt.on tb cc)).mono ?_
    rintro e Y41 ⟨⟨v, rfl, h6⟩, g⟩
    have h60 := h6 _ tb
    obtain ⟨p6, c6, rfl⟩ := h60.len
    clear h60
    replace cc := sp_call cc g
    replace q0 := lw_on g q0
    replace q1 := lw_on g q1
    clear g
    go_wp2_with fail
    refine hK.out _ _ (hall _ cc) (fun hH => ?_)
    clear hK K
    try simp only [Act.put, gA, gB, gC, gD, gE, gG]
    refine wpAnyH_ready (rs := [6]) (by kernel_rfl) (by simp) (AllReadyH.cons (o := _) rfl (fun K hK => ?_) AllReadyH.nil)
    obtain ⟨q_0, q_1, q_2, q_3, q_4, qf⟩ := lw_cells5 q0
    go_simp
    clear q_0 q_1 q_2 q_3 q_4 qf
    replace q1 := lw_far5 (b := Y0.heap.size) q1 (.bool aw) (.bool ae) (.int .u64 al) (.int .u64 ah) (.slice p5 Xa.length c5) (by first | assumption | exact Ne.symm (by assumption))
    replace q0 := lw_set5 q0 (.bool aw) (.bool ae) (.int .u64 al) (.int .u64 ah) (.slice p5 Xa.length c5)
    replace cc := lw_sp5 (b := Y0.heap.size) cc zz0 (.bool aw) (.bool ae) (.int .u64 al) (.int .u64 ah) (.slice p5 Xa.length c5)
    rw [show (((((Y41.setCell ⟨Y0.heap.size, 0, none⟩ (.bool aw)).setCell ⟨Y0.heap.size, 1, none⟩ (.bool ae)).setCell ⟨Y0.heap.size, 2, none⟩ (.int .u64 al)).setCell ⟨Y0.heap.size, 3, none⟩ (.int .u64 ah)).setCell ⟨Y0.heap.size, 4, none⟩ (.slice p5 Xa.length c5)) = set5 Y41 Y0.heap.size (.bool aw) (.bool ae) (.int .u64 al) (.int .u64 ah) (.slice p5 Xa.length c5) from rfl]
    generalize hY : set5 Y41 Y0.heap.size (.bool aw) (.bool ae) (.int .u64 al) (.int .u64 ah) (.slice p5 Xa.length c5) = Y42 at *
    clear hY
    refine hK.out _ _ (hall _ cc) (fun hH => ?_)
    clear hK K
    try simp only [Act.put, gA, gB, gC, gD, gE, gG]
    refine wpAnyH_ready (rs := [7]) (by kernel_rfl) (by simp) (AllReadyH.cons (o := _) rfl (fun K hK => ?_) AllReadyH.nil)
    obtain ⟨q_0, q_1, q_2, q_3, q_4, qf⟩ := lw_cells5 q1
    go_simp
    clear q_0 q_1 q_2 q_3 q_4 qf
    replace q0 := lw_far5 (b := Y29.heap.size) q0 (.bool bw) (.bool be) (.int .u64 bl) (.int .u64 bh) (.slice p6 Xb.length c6) (by first | assumption | exact Ne.symm (by assumption))
    replace q1 := lw_set5 q1 (.bool bw) (.bool be) (.int .u64 bl) (.int .u64 bh) (.slice p6 Xb.length c6)
    replace cc := lw_sp5 (b := Y29.heap.size) cc zz1 (.bool bw) (.bool be) (.int .u64 bl) (.int .u64 bh) (.slice p6 Xb.length c6)
    rw [show (((((Y42.setCell ⟨Y29.heap.size, 0, none⟩ (.bool bw)).setCell ⟨Y29.heap.size, 1, none⟩ (.bool be)).setCell ⟨Y29.heap.size, 2, none⟩ (.int .u64 bl)).setCell ⟨Y29.heap.size, 3, none⟩ (.int .u64 bh)).setCell ⟨Y29.heap.size, 4, none⟩ (.slice p6 Xb.length c6)) = set5 Y42 Y29.heap.size (.bool bw) (.bool be) (.int .u64 bl) (.int .u64 bh) (.slice p6 Xb.length c6) from rfl]
    generalize hY : set5 Y42 Y29.heap.size (.bool bw) (.bool be) (.int .u64 bl) (.int .u64 bh) (.slice p6 Xb.length c6) = Y43 at *
    clear hY
    refine hK.out _ _ (hall _ cc) (fun hH => ?_)
    clear hK K
    try simp only [Act.put, gA, gB, gC, gD, gE, gG]
    refine wpAnyH_done (by kernel_rfl) ?_ _
    go_wp2_with fail
    go_meet
    exact ⟨_, Y0.heap.size, Y29.heap.size, p5, c5, p6, c6, rfl, rfl, rfl, q0, q1, h5 _ (ta.on cc), h6 _ (tb.on cc), cc⟩
  ·skip
   go_simp
   have zz1 := cc.size
   have q1 := World.alloc_heap_new Y0 (.cells #[.bool false, .bool false, .int .u64 0, .int .u64 0, .slice none 0 0] 31)
   replace cc := sp_new cc (.cells #[.bool false, .bool false, .int .u64 0, .int .u64 0, .slice none 0 0] 31)
   generalize hY : Y0.alloc (.cells #[.bool false, .bool false, .int .u64 0, .int .u64 0, .slice none 0 0] 31) = Y44 at *
   clear hY
   refine hK.out _ _ (hall _ cc) (fun hH => ?_)
   clear hK K
   try simp only [Act.put, gA, gB, gC, gD, gE, gG]
   refine wpAnyH_ready (rs := [1, 4]) (by kernel_rfl) (by simp) (AllReadyH.cons (o := _) rfl (fun K hK => ?_) (AllReadyH.cons (o := _) rfl (fun K hK => ?_) AllReadyH.nil))
   ·skip
    go_simp
    refine (kf _ (TAt.on ta cc)).mono ?_
    rintro e Y45 ⟨⟨v, rfl, h5⟩, g⟩
    have h50 := h5 _ ta
    obtain ⟨p5, c5, rfl⟩ := h50.len
    clear h50
    replace cc := sp_call cc g
    replace q1 := lw_on g q1
    clear g
    go_wp2_with fail
    refine hK.out _ _ (hall _ cc) (fun hH => ?_)
    clear hK K
    try simp only [Act.put, gA, gB, gC, gD, gE, gG]
    refine wpAnyH_ready (rs := [3, 4]) (by kernel_rfl) (by simp) (AllReadyH.cons (o := _) rfl (fun K hK => ?_) (AllReadyH.cons (o := _) rfl (fun K hK => ?_) AllReadyH.nil))
    ·skip
     go_simp
     refine (kg _ (TAt.on tb cc)).mono ?_
     rintro e Y46 ⟨⟨v, rfl, h6⟩, g⟩
     have h60 := h6 _ tb
     obtain ⟨p6, c6, rfl⟩ := h60.len
     clear h60
     replace cc := sp_call cc g
     replace q1 := lw_on g q1
     clear g
     go_wp2_with fail
     refine hK.out _ _ (hall _ cc) (fun hH => ?_)
     clear hK K
     try simp only [Act.put, gA, gB, gC, gD, gE, gG]
     refine wpAnyH_ready (rs := [4]) (by kernel_rfl) (by simp) (AllReadyH.cons (o := _) rfl (fun K hK => ?_) AllReadyH.nil)
     go_simp
     have zz0 := cc.size
     have ne0_1 : Y0.heap.size ≠ Y46.heap.size := Nat.ne_of_lt (lw_lt q1)
     replace q1 := lw_old q1 (.cells #[.bool false, .bool false, .int .u64 0, .int .u64 0, .slice none 0 0] 31)
     have q0 := World.alloc_heap_new Y46 (.cells #[.bool false, .bool false, .int .u64 0, .int .u64 0, .slice none 0 0] 31)
     replace cc := sp_new cc (.cells #[.bool false, .bool false, .int .u64 0, .int .u64 0, .slice none 0 0] 31)
     generalize hY : Y46.alloc (.cells #[.bool false, .bool false, .int .u64 0, .int .u64 0, .slice none 0 0] 31) = Y47 at *
     clear hY
     refine hK.out _ _ (hall _ cc) (fun hH => ?_)
     clear hK K
     try simp only [Act.put, gA, gB, gC, gD, gE, gG]
     refine wpAnyH_ready (rs := [6]) (by kernel_rfl) (by simp) (AllReadyH.cons (o := _) rfl (fun K hK => ?_) AllReadyH.nil)
     obtain ⟨q_0, q_1, q_2, q_3, q_4, qf⟩ := lw_cells5 q0
     go_simp
     clear q_0 q_1 q_2 q_3 q_4 qf
     replace q1 := lw_far5 (b := Y46.heap.size) q1 (.bool aw) (.bool ae) (.int .u64 al) (.int .u64 ah) (.slice p5 Xa.length c5) (by first | assumption | exact Ne.symm (by assumption))
     replace q0 := lw_set5 q0 (.bool aw) (.bool ae) (.int .u64 al) (.int .u64 ah) (.slice p5 Xa.length c5)
     replace cc := lw_sp5 (b := Y46.heap.size) cc zz0 (.bool aw) (.bool ae) (.int .u64 al) (.int .u64 ah) (.slice p5 Xa.length c5)
     rw [show (((((Y47.setCell ⟨Y46.heap.size, 0, none⟩ (.bool aw)).setCell ⟨Y46.heap.size, 1, none⟩ (.bool ae)).setCell ⟨Y46.heap.size, 2, none⟩ (.int .u64 al)).setCell ⟨Y46.heap.size, 3, none⟩ (.int .u64 ah)).setCell ⟨Y46.heap.size, 4, none⟩ (.slice p5 Xa.length c5)) = set5 Y47 Y46.heap.size (.bool aw) (.bool ae) (.int .u64 al) (.int .u64 ah) (.slice p5 Xa.length c5) from rfl]
     generalize hY : set5 Y47 Y46.heap.size (.bool aw) (.bool ae) (.int .u64 al) (.int .u64 ah) (.slice p5 Xa.length c5) = Y48 at *
     clear hY
     refine hK.out _ _ (hall _ cc) (fun hH => ?_)
     clear hK K
     try simp only [Act.put, gA, gB, gC, gD, gE, gG]
     refine wpAnyH_ready (rs := [7]) (by kernel_rfl) (by simp) (AllReadyH.cons (o := _) rfl (fun K hK => ?_) AllReadyH.nil)
     obtain ⟨q_0, q_1, q_2, q_3, q_4, qf⟩ := lw_cells5 q1
     go_simp
     clear q_0 q_1 q_2 q_3 q_4 qf
     replace q0 := lw_far5 (b := Y0.heap.size) q0 (.bool bw) (.bool be) (.int .u64 bl) (.int .u64 bh) (.slice p6 Xb.length c6) (by first | assumption | exact Ne.symm (by assumption))
     replace q1 := lw_set5 q1 (.bool bw) (.bool be) (.int .u64 bl) (.int .u64 bh) (.slice p6 Xb.length c6)
     replace cc := lw_sp5 (b := Y0.heap.size) cc zz1 (.bool bw) (.bool be) (.int .u64 bl) (.int .u64 bh) (.slice p6 Xb.length c6)
     rw [show (((((Y48.setCell ⟨Y0.heap.size, 0, none⟩ (.bool bw)).setCell ⟨Y0.heap.size, 1, none⟩ (.bool be)).setCell ⟨Y0.heap.size, 2, none⟩ (.int .u64 bl)).setCell ⟨Y0.heap.size, 3, none⟩ (.int .u64 bh)).setCell ⟨Y0.heap.size, 4, none⟩ (.slice p6 Xb.length c6)) = set5 Y48 Y0.heap.size (.bool bw) (.bool be) (.int .u64 bl) (.int .u64 bh) (.slice p6 Xb.length c6) from rfl]
     generalize hY : set5 Y48 Y0.heap.size (.bool bw) (.bool be) (.int .u64 bl) (.int .u64 bh) (.slice p6 Xb.length c6) = Y49 at *
     clear hY
     refine hK.out _ _ (hall _ cc) (fun hH => ?_)
     clear hK K
     try simp only [Act.put, gA, gB, gC, gD, gE, gG]
     refine wpAnyH_done (by kernel_rfl) ?_ _
     go_wp2_with fail
     go_meet
     exact ⟨_, Y46.heap.size, Y0.heap.size, p5, c5, p6, c6, rfl, rfl, rfl, q0, q1, h5 _ (ta.on cc), h6 _ (tb.on cc), cc⟩
    ·skip
     go_simp
     have zz0 := cc.size
     have ne0_1 : Y0.heap.size ≠ Y45.heap.size := Nat.ne_of_lt (lw_lt q1)
     replace q1 := lw_old q1 (.cells #[.bool false, .bool false, .int .u64 0, .int .u64 0, .slice none 0 0] 31)
     have q0 := World.alloc_heap_new Y45 (.cells #[.bool false, .bool false, .int .u64 0, .int .u64 0, .slice none 0 0] 31)
     replace cc := sp_new cc (.cells #[.bool false, .bool false, .int .u64 0, .int .u64 0, .slice none 0 0] 31)
     generalize hY : Y45.alloc (.cells #[.bool false, .bool false, .int .u64 0, .int .u64 0, .slice none 0 0] 31) = Y50 at *
     clear hY
     refine hK.out _ _ (hall _ cc) (fun hH => ?_)
     clear hK K
     try simp only [Act.put, gA, gB, gC, gD, gE, gG]
     refine wpAnyH_ready (rs := [3]) (by kernel_rfl) (by simp) (AllReadyH.cons (o := _) rfl (fun K hK => ?_) AllReadyH.nil)
     go_simp
     refine (kg _ (TAt.on tb cc)).mono ?_
     rintro e Y51 ⟨⟨v, rfl, h6⟩, g⟩
     have h60 := h6 _ tb
     obtain ⟨p6, c6, rfl⟩ := h60.len
     clear h60
     replace cc := sp_call cc g
     replace q0 := lw_on g q0
     replace q1 := lw_on g q1
     clear g
     go_wp2_with fail
     refine hK.out _ _ (hall _ cc) (fun hH => ?_)
     clear hK K
     try simp only [Act.put, gA, gB, gC, gD, gE, gG]
     refine wpAnyH_ready (rs := [6]) (by kernel_rfl) (by simp) (AllReadyH.cons (o := _) rfl (fun K hK => ?_) AllReadyH.nil)
     obtain ⟨q_0, q_1, q_2, q_3, q_4, qf⟩ := lw_cells5 q0
     go_simp
     clear q_0 q_1 q_2 q_3 q_4 qf
     replace q1 := lw_far5 (b := Y45.heap.size) q1 (.bool aw) (.bool ae) (.int .u64 al) (.int .u64 ah) (.slice p5 Xa.length c5) (by first | assumption | exact Ne.symm (by assumption))
     replace q0 := lw_set5 q0 (.bool aw) (.bool ae) (.int .u64 al) (.int .u64 ah) (.slice p5 Xa.length c5)
     replace cc := lw_sp5 (b := Y45.heap.size) cc zz0 (.bool aw) (.bool ae) (.int .u64 al) (.int .u64 ah) (.slice p5 Xa.length c5)
     rw [show (((((Y51.setCell ⟨Y45.heap.size, 0, none⟩ (.bool aw)).setCell ⟨Y45.heap.size, 1, none⟩ (.bool ae)).setCell ⟨Y45.heap.size, 2, none⟩ (.int .u64 al)).setCell ⟨Y45.heap.size, 3, none⟩ (.int .u64 ah)).setCell ⟨Y45.heap.size, 4, none⟩ (.slice p5 Xa.length c5)) = set5 Y51 Y45.heap.size (.bool aw) (.bool ae) (.int .u64 al) (.int .u64 ah) (.slice p5 Xa.length c5) from rfl]
     generalize hY : set5 Y51 Y45.heap.size (.bool aw) (.bool ae) (.int .u64 al) (.int .u64 ah) (.slice p5 Xa.length c5) = Y52 at *
     clear hY
     refine hK.out _ _ (hall _ cc) (fun hH => ?_)
     clear hK K
     try simp only [Act.put, gA, gB, gC, gD, gE, gG]
     refine wpAnyH_ready (rs := [7]) (by kernel_rfl) (by simp) (AllReadyH.cons (o := _) rfl (fun K hK => ?_) AllReadyH.nil)
     obtain ⟨q_0, q_1, q_2, q_3, q_4, qf⟩ := lw_cells5 q1
     go_simp
     clear q_0 q_1 q_2 q_3 q_4 qf
     replace q0 := lw_far5 (b := Y0.heap.size) q0 (.bool bw) (.bool be) (.int .u64 bl) (.int .u64 bh) (.slice p6 Xb.length c6) (by first | assumption | exact Ne.symm (by assumption))
     replace q1 := lw_set5 q1 (.bool bw) (.bool be) (.int .u64 bl) (.int .u64 bh) (.slice p6 Xb.length c6)
     replace cc := lw_sp5 (b := Y0.heap.size) cc zz1 (.bool bw) (.bool be) (.int .u64 bl) (.int .u64 bh) (.slice p6 Xb.length c6)
     rw [show (((((Y52.setCell ⟨Y0.heap.size, 0, none⟩ (.bool bw)).setCell ⟨Y0.heap.size, 1, none⟩ (.bool be)).setCell ⟨Y0.heap.size, 2, none⟩ (.int .u64 bl)).setCell ⟨Y0.heap.size, 3, none⟩ (.int .u64 bh)).setCell ⟨Y0.heap.size, 4, none⟩ (.slice p6 Xb.length c6)) = set5 Y52 Y0.heap.size (.bool bw) (.bool be) (.int .u64 bl) (.int .u64 bh) (.slice p6 Xb.length c6) from rfl]
     generalize hY : set5 Y52 Y0.heap.size (.bool bw) (.bool be) (.int .u64 bl) (.int .u64 bh) (.slice p6 Xb.length c6) = Y53 at *
     clear hY
     refine hK.out _ _ (hall _ cc) (fun hH => ?_)
     clear hK K
     try simp only [Act.put, gA, gB, gC, gD, gE, gG]
     refine wpAnyH_done (by kernel_rfl) ?_ _
     go_wp2_with fail
     go_meet
     exact ⟨_, Y45.heap.size, Y0.heap.size, p5, c5, p6, c6, rfl, rfl, rfl, q0, q1, h5 _ (ta.on cc), h6 _ (tb.on cc), cc⟩
   ·skip
    go_simp
    have zz0 := cc.size
    have ne0_1 : Y0.heap.size ≠ Y44.heap.size := Nat.ne_of_lt (lw_lt q1)
    replace q1 := lw_old q1 (.cells #[.bool false, .bool false, .int .u64 0, .int .u64 0, .slice none 0 0] 31)
    have q0 := World.alloc_heap_new Y44 (.cells #[.bool false, .bool false, .int .u64 0, .int .u64 0, .slice none 0 0] 31)
    replace cc := sp_new cc (.cells #[.bool false, .bool false, .int .u64 0, .int .u64 0, .slice none 0 0] 31)
    generalize hY : Y44.alloc (.cells #[.bool false, .bool false, .int .u64 0, .int .u64 0, .slice none 0 0] 31) = Y54 at *
    clear hY
    refine hK.out _ _ (hall _ cc) (fun hH => ?_)
    clear hK K
    try simp only [Act.put, gA, gB, gC, gD, gE, gG]
    refine wpAnyH_ready (rs := [1]) (by kernel_rfl) (by simp) (AllReadyH.cons (o := _) rfl (fun K hK => ?_) AllReadyH.nil)
    go_simp
    refine (kf _ (TAt.on ta cc)).mono ?_
    rintro e Y55 ⟨⟨v, rfl, h5⟩, g⟩
    have h50 := h5 _ ta
    obtain ⟨p5, c5, rfl⟩ := h50.len
    clear h50
    replace cc := sp_call cc g
    replace q0 := lw_on g q0
    replace q1 := lw_on g q1
    clear g
    go_wp2_with fail
    refine hK.out _ _ (hall _ cc) (fun hH => ?_)
    clear hK K
    try simp only [Act.put, gA, gB, gC, gD, gE, gG]
    refine wpAnyH_ready (rs := [3]) (by kernel_rfl) (by simp) (AllReadyH.cons (o := _) rfl (fun K hK => ?_) AllReadyH.nil)
    go_simp
    refine (kg _ (TAt.on tb cc)).mono ?_
    rintro e Y56 ⟨⟨v, rfl, h6⟩, g⟩
    have h60 := h6 _ tb
    obtain ⟨p6, c6, rfl⟩ := h60.len
    clear h60
    replace cc := sp_call cc g
    replace q0 := lw_on g q0
    replace q1 := lw_on g q1
    clear g
    go_wp2_with fail
    refine hK.out _ _ (hall _ cc) (fun hH => ?_)
    clear hK K
    try simp only [Act.put, gA, gB, gC, gD, gE, gG]
    refine wpAnyH_ready (rs := [6]) (by kernel_rfl) (by simp) (AllReadyH.cons (o := _) rfl (fun K hK => ?_) AllReadyH.nil)
    obtain ⟨q_0, q_1, q_2, q_3, q_4, qf⟩ := lw_cells5 q0
    go_simp
    clear q_0 q_1 q_2 q_3 q_4 qf
    replace q1 := lw_far5 (b := Y44.heap.size) q1 (.bool aw) (.bool ae) (.int .u64 al) (.int .u64 ah) (.slice p5 Xa.length c5) (by first | assumption | exact Ne.symm (by assumption))
    replace q0 := lw_set5 q0 (.bool aw) (.bool ae) (.int .u64 al) (.int .u64 ah) (.slice p5 Xa.length c5)
    replace cc := lw_sp5 (b := Y44.heap.size) cc zz0 (.bool aw) (.bool ae) (.int .u64 al) (.int .u64 ah) (.slice p5 Xa.length c5)
    rw [show (((((Y56.setCell ⟨Y44.heap.size, 0, none⟩ (.bool aw)).setCell ⟨Y44.heap.size, 1, none⟩ (.bool ae)).setCell ⟨Y44.heap.size, 2, none⟩ (.int .u64 al)).setCell ⟨Y44.heap.size, 3, none⟩ (.int .u64 ah)).setCell ⟨Y44.heap.size, 4, none⟩ (.slice p5 Xa.length c5)) = set5 Y56 Y44.heap.size (.bool aw) (.bool ae) (.int .u64 al) (.int .u64 ah) (.slice p5 Xa.length c5) from rfl]
    generalize hY : set5 Y56 Y44.heap.size (.bool aw) (.bool ae) (.int .u64 al) (.int .u64 ah) (.slice p5 Xa.length c5) = Y57 at *
    clear hY
    refine hK.out _ _ (hall _ cc) (fun hH => ?_)
    clear hK K
    try simp only [Act.put, gA, gB, gC, gD, gE, gG]
    refine wpAnyH_ready (rs := [7]) (by kernel_rfl) (by simp) (AllReadyH.cons (o := _) rfl (fun K hK => ?_) AllReadyH.nil)
    obtain ⟨q_0, q_1, q_2, q_3, q_4, qf⟩ := lw_cells5 q1
    go_simp
    clear q_0 q_1 q_2 q_3 q_4 qf
    replace q0 := lw_far5 (b := Y0.heap.size) q0 (.bool bw) (.bool be) (.int .u64 bl) (.int .u64 bh) (.slice p6 Xb.length c6) (by first | assumption | exact Ne.symm (by assumption))
    replace q1 := lw_set5 q1 (.bool bw) (.bool be) (.int .u64 bl) (.int .u64 bh) (.slice p6 Xb.length c6)
    replace cc := lw_sp5 (b := Y0.heap.size) cc zz1 (.bool bw) (.bool be) (.int .u64 bl) (.int .u64 bh) (.slice p6 Xb.length c6)
    rw [show (((((Y57.setCell ⟨Y0.heap.size, 0, none⟩ (.bool bw)).setCell ⟨Y0.heap.size, 1, none⟩ (.bool be)).setCell ⟨Y0.heap.size, 2, none⟩ (.int .u64 bl)).setCell ⟨Y0.heap.size, 3, none⟩ (.int .u64 bh)).setCell ⟨Y0.heap.size, 4, none⟩ (.slice p6 Xb.length c6)) = set5 Y57 Y0.heap.size (.bool bw) (.bool be) (.int .u64 bl) (.int .u64 bh) (.slice p6 Xb.length c6) from rfl]
    generalize hY : set5 Y57 Y0.heap.size (.bool bw) (.bool be) (.int .u64 bl) (.int .u64 bh) (.slice p6 Xb.length c6) = Y58 at *
    clear hY
    refine hK.out _ _ (hall _ cc) (fun hH => ?_)
    clear hK K
    try simp only [Act.put, gA, gB, gC, gD, gE, gG]
    refine wpAnyH_done (by kernel_rfl) ?_ _
    go_wp2_with fail
    go_meet
    exact ⟨_, Y44.heap.size, Y0.heap.size, p5, c5, p6, c6, rfl, rfl, rfl, q0, q1, h5 _ (ta.on cc), h6 _ (tb.on cc), cc⟩
 case rest =>
  obtain ⟨W1, b5, b6, p5, c5, p6, c6, rfl, rfl, rfl, q5, q6, t5, t6, cX⟩ := hcut
  replace bW := sp_call bW cX
  clear cX cc a0 a1 a2 a3 a4 b0 b1 b2 b3 b4 kf kg ta tb
  obtain ⟨x0, x1, x2, x3, x4, _⟩ := lw_cells5 q5
  obtain ⟨y0, y1, y2, y3, y4, _⟩ := lw_cells5 q6
  clear q5 q6
  have cc : Below W1.heap.size W1 W1.drew := (Below.refl _ _).drew
  go_upto_region 2 with fail
  go_cut [7, 8] from 14 to 19 (fun s u X => ∃ (W2 : World) (b7 b8 : Nat) (p7 : Option Addr) (c7 : Nat) (p8 : Option Addr) (c8 : Nat), W2 = X ∧ s = .pointer (some ⟨b7, 0, none⟩) ∧ u = .pointer (some ⟨b8, 0, none⟩) ∧ X.heap[b7]? = some (.cells #[.bool sw, .bool se, .int .u64 sl, .int .u64 sh, .slice p7 XS.length c7] 31) ∧ X.heap[b8]? = some (.cells #[.bool sw, .bool se, .int .u64 sl, .int .u64 sh, .slice p8 XS.length c8] 31) ∧ TAt X (.slice p7 XS.length c7) XS ∧ TAt X (.slice p8 XS.length c8) XS ∧ Below W1.heap.size W1 X)
  case first =>
   have hall : ∀ X9, Below W1.heap.size W1 X9 → (X9.cell? ⟨b5, 0, none⟩ = some (.bool aw) ∧ X9.cell? ⟨b5, 1, none⟩ = some (.bool ae) ∧ X9.cell? ⟨b5, 2, none⟩ = some (.int .u64 al) ∧ X9.cell? ⟨b5, 3, none⟩ = some (.int .u64 ah) ∧ X9.cell? ⟨b5, 4, none⟩ = some (.slice p5 Xa.length c5) ∧ X9.cell? ⟨b6, 0, none⟩ = some (.bool bw) ∧ X9.cell? ⟨b6, 1, none⟩ = some (.bool be) ∧ X9.cell? ⟨b6, 2, none⟩ = some (.int .u64 bl) ∧ X9.cell? ⟨b6, 3, none⟩ = some (.int .u64 bh) ∧ X9.cell? ⟨b6, 4, none⟩ = some (.slice p6 Xb.length c6)) := fun X9 cc => ⟨sO cc x0, sO cc x1, sO cc x2, sO cc x3, sO cc x4, sO cc y0, sO cc y1, sO cc y2, sO cc y3, sO cc y4⟩
   refine wp_region_held_drew (S := (fun w' => w'.cell? ⟨b5, 0, none⟩ = some (.bool aw) ∧ w'.cell? ⟨b5, 1, none⟩ = some (.bool ae) ∧ w'.cell? ⟨b5, 2, none⟩ = some (.int .u64 al) ∧ w'.cell? ⟨b5, 3, none⟩ = some (.int .u64 ah) ∧ w'.cell? ⟨b5, 4, none⟩ = some (.slice p5 Xa.length c5) ∧ w'.cell? ⟨b6, 0, none⟩ = some (.bool bw) ∧ w'.cell? ⟨b6, 1, none⟩ = some (.bool be) ∧ w'.cell? ⟨b6, 2, none⟩ = some (.int .u64 bl) ∧ w'.cell? ⟨b6, 3, none⟩ = some (.int .u64 bh) ∧ w'.cell? ⟨b6, 4, none⟩ = some (.slice p6 Xb.length c6))) (by kernel_rfl) (hall _ cc) (fun hH => ?_)
   refine wpAnyH_take (i := 0) (oi := _) (v := .agg #[.bool aw, .bool ae, .int .u64 al, .int .u64 ah, .slice p5 Xa.length c5]) rfl (by kernel_rfl) (by kernel_rfl) (by kernel_rfl) (fun _ _ _ h => h) (Or.inl ⟨by rfl, fun w' hSw => by obtain ⟨zx0, zx1, zx2, zx3, zx4, zy0, zy1, zy2, zy3, zy4⟩ := hSw; go_simp⟩) hH ?_
   simp only [Act.put, gA, gB, gC, gD, gE, gG]
   refine wpAnyH_take (i := 1) (oi := _) (v := .agg #[.bool bw, .bool be, .int .u64 bl, .int .u64 bh, .slice p6 Xb.length c6]) rfl (by kernel_rfl) (by kernel_rfl) (by kernel_rfl) (fun _ _ _ h => h) (Or.inl ⟨by rfl, fun w' hSw => by obtain ⟨zx0, zx1, zx2, zx3, zx4, zy0, zy1, zy2, zy3, zy4⟩ := hSw; go_simp⟩) hH ?_
   simp only [Act.put, gA, gB, gC, gD, gE, gG]
   refine wpAnyH_take (i := 3) (oi := _) (v := .agg #[.bool bw, .bool be, .int .u64 bl, .int .u64 bh, .slice p6 Xb.length c6]) rfl (by kernel_rfl) (by kernel_rfl) (by kernel_rfl) (fun _ _ _ h => h) (Or.inl ⟨by rfl, fun w' hSw => by obtain ⟨zx0, zx1, zx2, zx3, zx4, zy0, zy1, zy2, zy3, zy4⟩ := hSw; go_simp⟩) hH ?_
   simp only [Act.put, gA, gB, gC, gD, gE, gG]
   refine wpAnyH_take (i := 4) (oi := _) (v := .agg #[.bool aw, .bool ae, .int .u64 al, .int .u64 ah, .slice p5 Xa.length c5]) rfl (by kernel_rfl) (by kernel_rfl) (by kernel_rfl) (fun _ _ _ h => h) (Or.inl ⟨by rfl, fun w' hSw => by obtain ⟨zx0, zx1, zx2, zx3, zx4, zy0, zy1, zy2, zy3, zy4⟩ := hSw; go_simp⟩) hH ?_
   simp only [Act.put, gA, gB, gC, gD, gE, gG]
   generalize hY : W1.drew = Y0 at *
   clear hY
   refine wpAnyH_ready (rs := [2, 6, 7]) (by kernel_rfl) (by simp) (AllReadyH.cons (o := _) rfl (fun K hK => ?_) (AllReadyH.cons (o := _) rfl (fun K hK => ?_) (AllReadyH.cons (o := _) rfl (fun K hK => ?_) AllReadyH.nil)))
   ·skip
    go_simp
    refine (k1 _ _ _ (t5.on cc) (t6.on cc)).mono ?_
    rintro e Y1 ⟨⟨v, rfl, t7, u7⟩, g⟩
    obtain ⟨p7, c7, rfl⟩ := t7.len
    replace cc := sp_call cc g
    clear g
    go_wp2_with fail
    refine hK.out _ _ (hall _ cc) (fun hH => ?_)
    clear hK K
    try simp only [Act.put, gA, gB, gC, gD, gE, gG]
    refine wpAnyH_ready (rs := [5, 6, 7]) (by kernel_rfl) (by simp) (AllReadyH.cons (o := _) rfl (fun K hK => ?_) (AllReadyH.cons (o := _) rfl (fun K hK => ?_) (AllReadyH.cons (o := _) rfl (fun K hK => ?_) AllReadyH.nil)))
    ·skip
     go_simp
     refine (k2 _ _ _ (t6.on cc) (t5.on cc)).mono ?_
     rintro e Y2 ⟨⟨v, rfl, t8, u8⟩, g⟩
     obtain ⟨p8, c8, rfl⟩ := t8.len
     replace cc := sp_call cc g
     replace t7 := t7.on g
     clear g
     go_wp2_with fail
     refine hK.out _ _ (hall _ cc) (fun hH => ?_)
     clear hK K
     try simp only [Act.put, gA, gB, gC, gD, gE, gG]
     refine wpAnyH_ready (rs := [6, 7]) (by kernel_rfl) (by simp) (AllReadyH.cons (o := _) rfl (fun K hK => ?_) (AllReadyH.cons (o := _) rfl (fun K hK => ?_) AllReadyH.nil))
     ·skip
      go_simp
      have zz0 := cc.size
      have f0_0 := far_new t7
      replace t7 := t7.on (sp_new (Below.refl _ _) (.cells #[.bool false, .bool false, .int .u64 0, .int .u64 0, .slice none 0 0] 31))
      have f1_0 := far_new t8
      replace t8 := t8.on (sp_new (Below.refl _ _) (.cells #[.bool false, .bool false, .int .u64 0, .int .u64 0, .slice none 0 0] 31))
      have q0 := World.alloc_heap_new Y2 (.cells #[.bool false, .bool false, .int .u64 0, .int .u64 0, .slice none 0 0] 31)
      replace cc := sp_new cc (.cells #[.bool false, .bool false, .int .u64 0, .int .u64 0, .slice none 0 0] 31)
      generalize hY : Y2.alloc (.cells #[.bool false, .bool false, .int .u64 0, .int .u64 0, .slice none 0 0] 31) = Y3 at *
      clear hY
      refine hK.out _ _ (hall _ cc) (fun hH => ?_)
      clear hK K
      try simp only [Act.put, gA, gB, gC, gD, gE, gG]
      refine wpAnyH_ready (rs := [7]) (by kernel_rfl) (by simp) (AllReadyH.cons (o := _) rfl (fun K hK => ?_) AllReadyH.nil)
      go_simp
      have zz1 := cc.size
      have ne0_1 : Y2.heap.size ≠ Y3.heap.size := Nat.ne_of_lt (lw_lt q0)
      replace q0 := lw_old q0 (.cells #[.bool false, .bool false, .int .u64 0, .int .u64 0, .slice none 0 0] 31)
      have f0_1 := far_new t7
      replace t7 := t7.on (sp_new (Below.refl _ _) (.cells #[.bool false, .bool false, .int .u64 0, .int .u64 0, .slice none 0 0] 31))
      have f1_1 := far_new t8
      replace t8 := t8.on (sp_new (Below.refl _ _) (.cells #[.bool false, .bool false, .int .u64 0, .int .u64 0, .slice none 0 0] 31))
      have q1 := World.alloc_heap_new Y3 (.cells #[.bool false, .bool false, .int .u64 0, .int .u64 0, .slice none 0 0] 31)
      replace cc := sp_new cc (.cells #[.bool false, .bool false, .int .u64 0, .int .u64 0, .slice none 0 0] 31)
      generalize hY : Y3.alloc (.cells #[.bool false, .bool false, .int .u64 0, .int .u64 0, .slice none 0 0] 31) = Y4 at *
      clear hY
      refine hK.out _ _ (hall _ cc) (fun hH => ?_)
      clear hK K
      try simp only [Act.put, gA, gB, gC, gD, gE, gG]
      refine wpAnyH_ready (rs := [8]) (by kernel_rfl) (by simp) (AllReadyH.cons (o := _) rfl (fun K hK => ?_) AllReadyH.nil)
      obtain ⟨q_0, q_1, q_2, q_3, q_4, qf⟩ := lw_cells5 q0
      go_simp
      clear q_0 q_1 q_2 q_3 q_4 qf
      replace q1 := lw_far5 (b := Y2.heap.size) q1 (.bool sw) (.bool se) (.int .u64 sl) (.int .u64 sh) (.slice p7 XS.length c7) (by first | assumption | exact Ne.symm (by assumption))
      replace t7 := t7.far5 f0_0 (.bool sw) (.bool se) (.int .u64 sl) (.int .u64 sh) (.slice p7 XS.length c7)
      replace t8 := t8.far5 f1_0 (.bool sw) (.bool se) (.int .u64 sl) (.int .u64 sh) (.slice p7 XS.length c7)
      replace q0 := lw_set5 q0 (.bool sw) (.bool se) (.int .u64 sl) (.int .u64 sh) (.slice p7 XS.length c7)
      replace cc := lw_sp5 (b := Y2.heap.size) cc zz0 (.bool sw) (.bool se) (.int .u64 sl) (.int .u64 sh) (.slice p7 XS.length c7)
      rw [show (((((Y4.setCell ⟨Y2.heap.size, 0, none⟩ (.bool sw)).setCell ⟨Y2.heap.size, 1, none⟩ (.bool se)).setCell ⟨Y2.heap.size, 2, none⟩ (.int .u64 sl)).setCell ⟨Y2.heap.size, 3, none⟩ (.int .u64 sh)).setCell ⟨Y2.heap.size, 4, none⟩ (.slice p7 XS.length c7)) = set5 Y4 Y2.heap.size (.bool sw) (.bool se) (.int .u64 sl) (.int .u64 sh) (.slice p7 XS.length c7) from rfl]
      generalize hY : set5 Y4 Y2.heap.size (.bool sw) (.bool se) (.int .u64 sl) (.int .u64 sh) (.slice p7 XS.length c7) = Y5 at *
      clear hY
      refine hK.out _ _ (hall _ cc) (fun hH => ?_)
      clear hK K
      try simp only [Act.put, gA, gB, gC, gD, gE, gG]
      refine wpAnyH_ready (rs := [9]) (by kernel_rfl) (by simp) (AllReadyH.cons (o := _) rfl (fun K hK => ?_) AllReadyH.nil)
      obtain ⟨q_0, q_1, q_2, q_3, q_4, qf⟩ := lw_cells5 q1
      go_simp
      clear q_0 q_1 q_2 q_3 q_4 qf
      replace q0 := lw_far5 (b := Y3.heap.size) q0 (.bool sw) (.bool se) (.int .u64 sl) (.int .u64 sh) (.slice p8 XS.length c8) (by first | assumption | exact Ne.symm (by assumption))
      replace t7 := t7.far5 f0_1 (.bool sw) (.bool se) (.int .u64 sl) (.int .u64 sh) (.slice p8 XS.length c8)
      replace t8 := t8.far5 f1_1 (.bool sw) (.bool se) (.int .u64 sl) (.int .u64 sh) (.slice p8 XS.length c8)
      replace q1 := lw_set5 q1 (.bool sw) (.bool se) (.int .u64 sl) (.int .u64 sh) (.slice p8 XS.length c8)
      replace cc := lw_sp5 (b := Y3.heap.size) cc zz1 (.bool sw) (.bool se) (.int .u64 sl) (.int .u64 sh) (.slice p8 XS.length c8)
      rw [show (((((Y5.setCell ⟨Y3.heap.size, 0, none⟩ (.bool sw)).setCell ⟨Y3.heap.size, 1, none⟩ (.bool se)).setCell ⟨Y3.heap.size, 2, none⟩ (.int .u64 sl)).setCell ⟨Y3.heap.size, 3, none⟩ (.int .u64 sh)).setCell ⟨Y3.heap.size, 4, none⟩ (.slice p8 XS.length c8)) = set5 Y5 Y3.heap.size (.bool sw) (.bool se) (.int .u64 sl) (.int .u64 sh) (.slice p8 XS.length c8) from rfl]
      generalize hY : set5 Y5 Y3.heap.size (.bool sw) (.bool se) (.int .u64 sl) (.int .u64 sh) (.slice p8 XS.length c8) = Y6 at *
      clear hY
      refine hK.out _ _ (hall _ cc) (fun hH => ?_)
      clear hK K
      try simp only [Act.put, gA, gB, gC, gD, gE, gG]
      refine wpAnyH_done (by kernel_rfl) ?_ _
      go_wp2_with fail
      go_meet
      exact ⟨_, Y2.heap.size, Y3.heap.size, p7, c7, p8, c8, rfl, rfl, rfl, q0, q1, t7, t8, cc⟩
     ·skip
      go_simp
      have zz1 := cc.size
      have f0_1 := far_new t7
      replace t7 := t7.on (sp_new (Below.refl _ _) (.cells #[.bool false, .bool false, .int .u64 0, .int .u64 0, .slice none 0 0] 31))
      have f1_1 := far_new t8
      replace t8 := t8.on (sp_new (Below.refl _ _) (.cells #[.bool false, .bool false, .int .u64 0, .int .u64 0, .slice none 0 0] 31))
      have q1 := World.alloc_heap_new Y2 (.cells #[.bool false, .bool false, .int .u64 0, .int .u64 0, .slice none 0 0] 31)
      replace cc := sp_new cc (.cells #[.bool false, .bool false, .int .u64 0, .int .u64 0, .slice none 0 0] 31)
      generalize hY : Y2.alloc (.cells #[.bool false, .bool false, .int .u64 0, .int .u64 0, .slice none 0 0] 31) = Y7 at *
      clear hY
      refine hK.out _ _ (hall _ cc) (fun hH => ?_)
      clear hK K
      try simp only [Act.put, gA, gB, gC, gD, gE, gG]
      refine wpAnyH_ready (rs := [6]) (by kernel_rfl) (by simp) (AllReadyH.cons (o := _) rfl (fun K hK => ?_) AllReadyH.nil)
      go_simp
      have zz0 := cc.size
      have ne0_1 : Y2.heap.size ≠ Y7.heap.size := Nat.ne_of_lt (lw_lt q1)
      replace q1 := lw_old q1 (.cells #[.bool false, .bool false, .int .u64 0, .int .u64 0, .slice none 0 0] 31)
      have f0_0 := far_new t7
      replace t7 := t7.on (sp_new (Below.refl _ _) (.cells #[.bool false, .bool false, .int .u64 0, .int .u64 0, .slice none 0 0] 31))
      have f1_0 := far_new t8
      replace t8 := t8.on (sp_new (Below.refl _ _) (.cells #[.bool false, .bool false, .int .u64 0, .int .u64 0, .slice none 0 0] 31))
      have q0 := World.alloc_heap_new Y7 (.cells #[.bool false, .bool false, .int .u64 0, .int .u64 0, .slice none 0 0] 31)
      replace cc := sp_new cc (.cells #[.bool false, .bool false, .int .u64 0, .int .u64 0, .slice none 0 0] 31)
      generalize hY : Y7.alloc (.cells #[.bool false, .bool false, .int .u64 0, .int .u64 0, .slice none 0 0] 31) = Y8 at *
      clear hY
      refine hK.out _ _ (hall _ cc) (fun hH => ?_)
      clear hK K
      try simp only [Act.put, gA, gB, gC, gD, gE, gG]
      refine wpAnyH_ready (rs := [8]) (by kernel_rfl) (by simp) (AllReadyH.cons (o := _) rfl (fun K hK => ?_) AllReadyH.nil)
      obtain ⟨q_0, q_1, q_2, q_3, q_4, qf⟩ := lw_cells5 q0
      go_simp
      clear q_0 q_1 q_2 q_3 q_4 qf
      replace q1 := lw_far5 (b := Y7.heap.size) q1 (.bool sw) (.bool se) (.int .u64 sl) (.int .u64 sh) (.slice p7 XS.length c7) (by first | assumption | exact Ne.symm (by assumption))
      replace t7 := t7.far5 f0_0 (.bool sw) (.bool se) (.int .u64 sl) (.int .u64 sh) (.slice p7 XS.length c7)
      replace t8 := t8.far5 f1_0 (.bool sw) (.bool se) (.int .u64 sl) (.int .u64 sh) (.slice p7 XS.length c7)
      replace q0 := lw_set5 q0 (.bool sw) (.bool se) (.int .u64 sl) (.int .u64 sh) (.slice p7 XS.length c7)
      replace cc := lw_sp5 (b := Y7.heap.size) cc zz0 (.bool sw) (.bool se) (.int .u64 sl) (.int .u64 sh) (.slice p7 XS.length c7)
      rw [show (((((Y8.setCell ⟨Y7.heap.size, 0, none⟩ (.bool sw)).setCell ⟨Y7.heap.size, 1, none⟩ (.bool se)).setCell ⟨Y7.heap.size, 2, none⟩ (.int .u64 sl)).setCell ⟨Y7.heap.size, 3, none⟩ (.int .u64 sh)).setCell ⟨Y7.heap.size, 4, none⟩ (.slice p7 XS.length c7)) = set5 Y8 Y7.heap.size (.bool sw) (.bool se) (.int .u64 sl) (.int .u64 sh) (.slice p7 XS.length c7) from rfl]
      generalize hY : set5 Y8 Y7.heap.size (.bool sw) (.bool se) (.int .u64 sl) (.int .u64 sh) (.slice p7 XS.length c7) = Y9 at *
      clear hY
      refine hK.out _ _ (hall _ cc) (fun hH => ?_)
      clear hK K
      try simp only [Act.put, gA, gB, gC, gD, gE, gG]
      refine wpAnyH_ready (rs := [9]) (by kernel_rfl) (by simp) (AllReadyH.cons (o := _) rfl (fun K hK => ?_) AllReadyH.nil)
      obtain ⟨q_0, q_1, q_2, q_3, q_4, qf⟩ := lw_cells5 q1
      go_simp
      clear q_0 q_1 q_2 q_3 q_4 qf
      replace q0 := lw_far5 (b := Y2.heap.size) q0 (.bool sw) (.bool se) (.int .u64 sl) (.int .u64 sh) (.slice p8 XS.length c8) (by first | assumption | exact Ne.symm (by assumption))
      replace t7 := t7.far5 f0_1 (.bool sw) (.bool se) (.int .u64 sl) (.int .u64 sh) (.slice p8 XS.length c8)
      replace t8 := t8.far5 f1_1 (.bool sw) (.bool se) (.int .u64 sl) (.int .u64 sh) (.slice p8 XS.length c8)
      replace q1 := lw_set5 q1 (.bool sw) (.bool se) (.int .u64 sl) (.int .u64 sh) (.slice p8 XS.length c8)
      replace cc := lw_sp5 (b := Y2.heap.size) cc zz1 (.bool sw) (.bool se) (.int .u64 sl) (.int .u64 sh) (.slice p8 XS.length c8)
      rw [show (((((Y9.setCell ⟨Y2.heap.size, 0, none⟩ (.bool sw)).setCell ⟨Y2.heap.size, 1, none⟩ (.bool se)).setCell ⟨Y2.heap.size, 2, none⟩ (.int .u64 sl)).setCell ⟨Y2.heap.size, 3, none⟩ (.int .u64 sh)).setCell ⟨Y2.heap.size, 4, none⟩ (.slice p8 XS.length c8)) = set5 Y9 Y2.heap.size (.bool sw) (.bool se) (.int .u64 sl) (.int .u64 sh) (.slice p8 XS.length c8) from rfl]
      generalize hY : set5 Y9 Y2.heap.size (.bool sw) (.bool se) (.int .u64 sl) (.int .u64 sh) (.slice p8 XS.length c8) = Y10 at *
      clear hY
      refine hK.out _ _ (hall _ cc) (fun hH => ?_)
      clear hK K
      try simp only [Act.put, gA, gB, gC, gD, gE, gG]
      refine wpAnyH_done (by kernel_rfl) ?_ _
      go_wp2_with fail
      go_meet
      exact ⟨_, Y7.heap.size, Y2.heap.size, p7, c7, p8, c8, rfl, rfl, rfl, q0, q1, t7, t8, cc⟩
    ·skip
     go_simp
     have zz0 := cc.size
     have f0_0 := far_new t7
     replace t7 := t7.on (sp_new (Below.refl _ _) (.cells #[.bool false, .bool false, .int .u64 0, .int .u64 0, .slice none 0 0] 31))
     have q0 := World.alloc_heap_new Y1 (.cells #[.bool false, .bool false, .int .u64 0, .int .u64 0, .slice none 0 0] 31)
     replace cc := sp_new cc (.cells #[.bool false, .bool false, .int .u64 0, .int .u64 0, .slice none 0 0] 31)
     generalize hY : Y1.alloc (.cells #[.bool false, .bool false, .int .u64 0, .int .u64 0, .slice none 0 0] 31) = Y11 at *
     clear hY
     refine hK.out _ _ (hall _ cc) (fun hH => ?_)
     clear hK K
     try simp only [Act.put, gA, gB, gC, gD, gE, gG]
     refine wpAnyH_ready (rs := [5, 7]) (by kernel_rfl) (by simp) (AllReadyH.cons (o := _) rfl (fun K hK => ?_) (AllReadyH.cons (o := _) rfl (fun K hK => ?_) AllReadyH.nil))
     ·skip
      go_simp
      refine (k2 _ _ _ (t6.on cc) (t5.on cc)).mono ?_
      rintro e Y12 ⟨⟨v, rfl, t8, u8⟩, g⟩
      obtain ⟨p8, c8, rfl⟩ := t8.len
      replace cc := sp_call cc g
      have f1_0 := far_up u8 (lw_lt q0)
      replace q0 := lw_on g q0
      replace t7 := t7.on g
      clear g
      go_wp2_with fail
      refine hK.out _ _ (hall _ cc) (fun hH => ?_)
      clear hK K
      try simp only [Act.put, gA, gB, gC, gD, gE, gG]
      refine wpAnyH_ready (rs := [7]) (by kernel_rfl) (by simp) (AllReadyH.cons (o := _) rfl (fun K hK => ?_) AllReadyH.nil)
      go_simp
      have zz1 := cc.size
      have ne0_1 : Y1.heap.size ≠ Y12.heap.size := Nat.ne_of_lt (lw_lt q0)
      replace q0 := lw_old q0 (.cells #[.bool false, .bool false, .int .u64 0, .int .u64 0, .slice none 0 0] 31)
      have f0_1 := far_new t7
      replace t7 := t7.on (sp_new (Below.refl _ _) (.cells #[.bool false, .bool false, .int .u64 0, .int .u64 0, .slice none 0 0] 31))
      have f1_1 := far_new t8
      replace t8 := t8.on (sp_new (Below.refl _ _) (.cells #[.bool false, .bool false, .int .u64 0, .int .u64 0, .slice none 0 0] 31))
      have q1 := World.alloc_heap_new Y12 (.cells #[.bool false, .bool false, .int .u64 0, .int .u64 0, .slice none 0 0] 31)
      replace cc := sp_new cc (.cells #[.bool false, .bool false, .int .u64 0, .int .u64 0, .slice none 0 0] 31)
      generalize hY : Y12.alloc (.cells #[.bool false, .bool false, .int .u64 0, .int .u64 0, .slice none 0 0] 31) = Y13 at *
      clear hY
      refine hK.out _ _ (hall _ cc) (fun hH => ?_)
      clear hK K
      try simp only [Act.put, gA, gB, gC, gD, gE, gG]
      refine wpAnyH_ready (rs := [8]) (by kernel_rfl) (by simp) (AllReadyH.cons (o := _) rfl (fun K hK => ?_) AllReadyH.nil)
      obtain ⟨q_0, q_1, q_2, q_3, q_4, qf⟩ := lw_cells5 q0
      go_simp
      clear q_0 q_1 q_2 q_3 q_4 qf
      replace q1 := lw_far5 (b := Y1.heap.size) q1 (.bool sw) (.bool se) (.int .u64 sl) (.int .u64 sh) (.slice p7 XS.length c7) (by first | assumption | exact Ne.symm (by assumption))
      replace t7 := t7.far5 f0_0 (.bool sw) (.bool se) (.int .u64 sl) (.int .u64 sh) (.slice p7 XS.length c7)
      replace t8 := t8.far5 f1_0 (.bool sw) (.bool se) (.int .u64 sl) (.int .u64 sh) (.slice p7 XS.length c7)
      replace q0 := lw_set5 q0 (.bool sw) (.bool se) (.int .u64 sl) (.int .u64 sh) (.slice p7 XS.length c7)
      replace cc := lw_sp5 (b := Y1.heap.size) cc zz0 (.bool sw) (.bool se) (.int .u64 sl) (.int .u64 sh) (.slice p7 XS.length c7)
      rw [show (((((Y13.setCell ⟨Y1.heap.size, 0, none⟩ (.bool sw)).setCell ⟨Y1.heap.size, 1, none⟩ (.bool se)).setCell ⟨Y1.heap.size, 2, none⟩ (.int .u64 sl)).setCell ⟨Y1.heap.size, 3, none⟩ (.int .u64 sh)).setCell ⟨Y1.heap.size, 4, none⟩ (.slice p7 XS.length c7)) = set5 Y13 Y1.heap.size (.bool sw) (.bool se) (.int .u64 sl) (.int .u64 sh) (.slice p7 XS.length c7) from rfl]
      generalize hY : set5 Y13 Y1.heap.size (.bool sw) (.bool se) (.int .u64 sl) (.int .u64 sh) (.slice p7 XS.length c7) = Y14 at *
      clear hY
      refine hK.out _ _ (hall _ cc) (fun hH => ?_)
      clear hK K
      try simp only [Act.put, gA, gB, gC, gD, gE, gG]
      refine wpAnyH_ready (rs := [9]) (by kernel_rfl) (by simp) (AllReadyH.cons (o := _) rfl (fun K hK => ?_) AllReadyH.nil)
      obtain ⟨q_0, q_1, q_2, q_3, q_4, qf⟩ := lw_cells5 q1
      go_simp
      clear q_0 q_1 q_2 q_3 q_4 qf
      replace q0 := lw_far5 (b := Y12.heap.size) q0 (.bool sw) (.bool se) (.int .u64 sl) (.int .u64 sh) (.slice p8 XS.length c8) (by first | assumption | exact Ne.symm (by assumption))
      replace t7 := t7.far5 f0_1 (.bool sw) (.bool se) (.int .u64 sl) (.int .u64 sh) (.slice p8 XS.length c8)
      replace t8 := t8.far5 f1_1 (.bool sw) (.bool se) (.int .u64 sl) (.int .u64 sh) (.slice p8 XS.length c8)
      replace q1 := lw_set5 q1 (.bool sw) (.bool se) (.int .u64 sl) (.int .u64 sh) (.slice p8 XS.length c8)
      replace cc := lw_sp5 (b := Y12.heap.size) cc zz1 (.bool sw) (.bool se) (.int .u64 sl) (.int .u64 sh) (.slice p8 XS.length c8)
      rw [show (((((Y14.setCell ⟨Y12.heap.size, 0, none⟩ (.bool sw)).setCell ⟨Y12.heap.size, 1, none⟩ (.bool se)).setCell ⟨Y12.heap.size, 2, none⟩ (.int .u64 sl)).setCell ⟨Y12.heap.size, 3, none⟩ (.int .u64 sh)).setCell ⟨Y12.heap.size, 4, none⟩ (.slice p8 XS.length c8)) = set5 Y14 Y12.heap.size (.bool sw) (.bool se) (.int .u64 sl) (.int .u64 sh) (.slice p8 XS.length c8) from rfl]
      generalize hY : set5 Y14 Y12.heap.size (.bool sw) (.bool se) (.int .u64 sl) (.int .u64 sh) (.slice p8 XS.length c8) = Y15 at *
      clear hY
      refine hK.out _ _ (hall _ cc) (fun hH => ?_)
      clear hK K
      try simp only [Act.put, gA, gB, gC, gD, gE, gG]
      refine wpAnyH_done (by kernel_rfl) ?_ _
      go_wp2_with fail
      go_meet
      exact ⟨_, Y1.heap.size, Y12.heap.size, p7, c7, p8, c8, rfl, rfl, rfl, q0, q1, t7, t8, cc⟩
     ·skip
      go_simp
      have zz1 := cc.size
      have ne0_1 : Y1.heap.size ≠ Y11.heap.size := Nat.ne_of_lt (lw_lt q0)
      replace q0 := lw_old q0 (.cells #[.bool false, .bool false, .int .u64 0, .int .u64 0, .slice none 0 0] 31)
      have f0_1 := far_new t7
      replace t7 := t7.on (sp_new (Below.refl _ _) (.cells #[.bool false, .bool false, .int .u64 0, .int .u64 0, .slice none 0 0] 31))
      have q1 := World.alloc_heap_new Y11 (.cells #[.bool false, .bool false, .int .u64 0, .int .u64 0, .slice none 0 0] 31)
      replace cc := sp_new cc (.cells #[.bool false, .bool false, .int .u64 0, .int .u64 0, .slice none 0 0] 31)
      generalize hY : Y11.alloc (.cells #[.bool false, .bool false, .int .u64 0, .int .u64 0, .slice none 0 0] 31) = Y16 at *
      clear hY
      refine hK.out _ _ (hall _ cc) (fun hH => ?_)
      clear hK K
      try simp only [Act.put, gA, gB, gC, gD, gE, gG]
      refine wpAnyH_ready (rs := [5]) (by kernel_rfl) (by simp) (AllReadyH.cons (o := _) rfl (fun K hK => ?_) AllReadyH.nil)
      go_simp
      refine (k2 _ _ _ (t6.on cc) (t5.on cc)).mono ?_
      rintro e Y17 ⟨⟨v, rfl, t8, u8⟩, g⟩
      obtain ⟨p8, c8, rfl⟩ := t8.len
      replace cc := sp_call cc g
      have f1_0 := far_up u8 (lw_lt q0)
      replace q0 := lw_on g q0
      have f1_1 := far_up u8 (lw_lt q1)
      replace q1 := lw_on g q1
      replace t7 := t7.on g
      clear g
      go_wp2_with fail
      refine hK.out _ _ (hall _ cc) (fun hH => ?_)
      clear hK K
      try simp only [Act.put, gA, gB, gC, gD, gE, gG]
      refine wpAnyH_ready (rs := [8]) (by kernel_rfl) (by simp) (AllReadyH.cons (o := _) rfl (fun K hK => ?_) AllReadyH.nil)
      obtain ⟨q_0, q_1, q_2, q_3, q_4, qf⟩ := lw_cells5 q0
      go_simp
      clear q_0 q_1 q_2 q_3 q_4 qf
      replace q1 := lw_far5 (b := Y1.heap.size) q1 (.bool sw) (.bool se) (.int .u64 sl) (.int .u64 sh) (.slice p7 XS.length c7) (by first | assumption | exact Ne.symm (by assumption))
      replace t7 := t7.far5 f0_0 (.bool sw) (.bool se) (.int .u64 sl) (.int .u64 sh) (.slice p7 XS.length c7)
      replace t8 := t8.far5 f1_0 (.bool sw) (.bool se) (.int .u64 sl) (.int .u64 sh) (.slice p7 XS.length c7)
      replace q0 := lw_set5 q0 (.bool sw) (.bool se) (.int .u64 sl) (.int .u64 sh) (.slice p7 XS.length c7)
      replace cc := lw_sp5 (b := Y1.heap.size) cc zz0 (.bool sw) (.bool se) (.int .u64 sl) (.int .u64 sh) (.slice p7 XS.length c7)
      rw [show (((((Y17.setCell ⟨Y1.heap.size, 0, none⟩ (.bool sw)).setCell ⟨Y1.heap.size, 1, none⟩ (.bool se)).setCell ⟨Y1.heap.size, 2, none⟩ (.int .u64 sl)).setCell ⟨Y1.heap.size, 3, none⟩ (.int .u64 sh)).setCell ⟨Y1.heap.size, 4, none⟩ (.slice p7 XS.length c7)) = set5 Y17 Y1.heap.size (.bool sw) (.bool se) (.int .u64 sl) (.int .u64 sh) (.slice p7 XS.length c7) from rfl]
      generalize hY : set5 Y17 Y1.heap.size (.bool sw) (.bool se) (.int .u64 sl) (.int .u64 sh) (.slice p7 XS.length c7) = Y18 at *
      clear hY
      refine hK.out _ _ (hall _ cc) (fun hH => ?_)
      clear hK K
      try simp only [Act.put, gA, gB, gC, gD, gE, gG]
      refine wpAnyH_ready (rs := [9]) (by kernel_rfl) (by simp) (AllReadyH.cons (o := _) rfl (fun K hK => ?_) AllReadyH.nil)
      obtain ⟨q_0, q_1, q_2, q_3, q_4, qf⟩ := lw_cells5 q1
      go_simp
      clear q_0 q_1 q_2 q_3 q_4 qf
      replace q0 := lw_far5 (b := Y11.heap.size) q0 (.bool sw) (.bool se) (.int .u64 sl) (.int .u64 sh) (.slice p8 XS.length c8) (by first | assumption | exact Ne.symm (by assumption))
      replace t7 := t7.far5 f0_1 (.bool sw) (.bool se) (.int .u64 sl) (.int .u64 sh) (.slice p8 XS.length c8)
      replace t8 := t8.far5 f1_1 (.bool sw) (.bool se) (.int .u64 sl) (.int .u64 sh) (.slice p8 XS.length c8)
      replace q1 := lw_set5 q1 (.bool sw) (.bool se) (.int .u64 sl) (.int .u64 sh) (.slice p8 XS.length c8)
      replace cc := lw_sp5 (b := Y11.heap.size) cc zz1 (.bool sw) (.bool se) (.int .u64 sl) (.int .u64 sh) (.slice p8 XS.length c8)
      rw [show (((((Y18.setCell ⟨Y11.heap.size, 0, none⟩ (.bool sw)).setCell ⟨Y11.heap.size, 1, none⟩ (.bool se)).setCell ⟨Y11.heap.size, 2, none⟩ (.int .u64 sl)).setCell ⟨Y11.heap.size, 3, none⟩ (.int .u64 sh)).setCell ⟨Y11.heap.size, 4, none⟩ (.slice p8 XS.length c8)) = set5 Y18 Y11.heap.size (.bool sw) (.bool se) (.int .u64 sl) (.int .u64 sh) (.slice p8 XS.length c8) from rfl]
      generalize hY : set5 Y18 Y11.heap.size (.bool sw) (.bool se) (.int .u64 sl) (.int .u64 sh) (.slice p8 XS.length c8) = Y19 at *
      clear hY
      refine hK.out _ _ (hall _ cc) (fun hH => ?_)
      clear hK K
      try simp only [Act.put, gA, gB, gC, gD, gE, gG]
      refine wpAnyH_done (by kernel_rfl) ?_ _
      go_wp2_with fail
      go_meet
      exact ⟨_, Y1.heap.size, Y11.heap.size, p7, c7, p8, c8, rfl, rfl, rfl, q0, q1, t7, t8, cc⟩
    ·skip
     go_simp
     have zz1 := cc.size
     have f0_1 := far_new t7
     replace t7 := t7.on (sp_new (Below.refl _ _) (.cells #[.bool false, .bool false, .int .u64 0, .int .u64 0, .slice none 0 0] 31))
     have q1 := World.alloc_heap_new Y1 (.cells #[.bool false, .bool false, .int .u64 0, .int .u64 0, .slice none 0 0] 31)
     replace cc := sp_new cc (.cells #[.bool false, .bool false, .int .u64 0, .int .u64 0, .slice none 0 0] 31)
     generalize hY : Y1.alloc (.cells #[.bool false, .bool false, .int .u64 0, .int .u64 0, .slice none 0 0] 31) = Y20 at *
     clear hY
     refine hK.out _ _ (hall _ cc) (fun hH => ?_)
     clear hK K
     try simp only [Act.put, gA, gB, gC, gD, gE, gG]
     refine wpAnyH_ready (rs := [5, 6]) (by kernel_rfl) (by simp) (AllReadyH.cons (o := _) rfl (fun K hK => ?_) (AllReadyH.cons (o := _) rfl (fun K hK => ?_) AllReadyH.nil))
     ·skip
      go_simp
      refine (k2 _ _ _ (t6.on cc) (t5.on cc)).mono ?_
      rintro e Y21 ⟨⟨v, rfl, t8, u8⟩, g⟩
      obtain ⟨p8, c8, rfl⟩ := t8.len
      replace cc := sp_call cc g
      have f1_1 := far_up u8 (lw_lt q1)
      replace q1 := lw_on g q1
      replace t7 := t7.on g
      clear g
      go_wp2_with fail
      refine hK.out _ _ (hall _ cc) (fun hH => ?_)
      clear hK K
      try simp only [Act.put, gA, gB, gC, gD, gE, gG]
      refine wpAnyH_ready (rs := [6]) (by kernel_rfl) (by simp) (AllReadyH.cons (o := _) rfl (fun K hK => ?_) AllReadyH.nil)
      go_simp
      have zz0 := cc.size
      have ne0_1 : Y1.heap.size ≠ Y21.heap.size := Nat.ne_of_lt (lw_lt q1)
      replace q1 := lw_old q1 (.cells #[.bool false, .bool false, .int .u64 0, .int .u64 0, .slice none 0 0] 31)
      have f0_0 := far_new t7
      replace t7 := t7.on (sp_new (Below.refl _ _) (.cells #[.bool false, .bool false, .int .u64 0, .int .u64 0, .slice none 0 0] 31))
      have f1_0 := far_new t8
      replace t8 := t8.on (sp_new (Below.refl _ _) (.cells #[.bool false, .bool false, .int .u64 0, .int .u64 0, .slice none 0 0] 31))
      have q0 := World.alloc_heap_new Y21 (.cells #[.bool false, .bool false, .int .u64 0, .int .u64 0, .slice none 0 0] 31)
      replace cc := sp_new cc (.cells #[.bool false, .bool false, .int .u64 0, .int .u64 0, .slice none 0 0] 31)
      generalize hY : Y21.alloc (.cells #[.bool false, .bool false, .int .u64 0, .int .u64 0, .slice none 0 0] 31) = Y22 at *
      clear hY
      refine hK.out _ _ (hall _ cc) (fun hH => ?_)
      clear hK K
      try simp only [Act.put, gA, gB, gC, gD, gE, gG]
      refine wpAnyH_ready (rs := [8]) (by kernel_rfl) (by simp) (AllReadyH.cons (o := _) rfl (fun K hK => ?_) AllReadyH.nil)
      obtain ⟨q_0, q_1, q_2, q_3, q_4, qf⟩ := lw_cells5 q0
      go_simp
      clear q_0 q_1 q_2 q_3 q_4 qf
      replace q1 := lw_far5 (b := Y21.heap.size) q1 (.bool sw) (.bool se) (.int .u64 sl) (.int .u64 sh) (.slice p7 XS.length c7) (by first | assumption | exact Ne.symm (by assumption))
      replace t7 := t7.far5 f0_0 (.bool sw) (.bool se) (.int .u64 sl) (.int .u64 sh) (.slice p7 XS.length c7)
      replace t8 := t8.far5 f1_0 (.bool sw) (.bool se) (.int .u64 sl) (.int .u64 sh) (.slice p7 XS.length c7)
      replace q0 := lw_set5 q0 (.bool sw) (.bool se) (.int .u64 sl) (.int .u64 sh) (.slice p7 XS.length c7)
      replace cc := lw_sp5 (b := Y21.heap.size) cc zz0 (.bool sw) (.bool se) (.int .u64 sl) (.int .u64 sh) (.slice p7 XS.length c7)
      rw [show (((((Y22.setCell ⟨Y21.heap.size, 0, none⟩ (.bool sw)).setCell ⟨Y21.heap.size, 1, none⟩ (.bool se)).setCell ⟨Y21.heap.size, 2, none⟩ (.int .u64 sl)).setCell ⟨Y21.heap.size, 3, none⟩ (.int .u64 sh)).setCell ⟨Y21.heap.size, 4, none⟩ (.slice p7 XS.length c7)) = set5 Y22 Y21.heap.size (.bool sw) (.bool se) (.int .u64 sl) (.int .u64 sh) (.slice p7 XS.length c7) from rfl]
      generalize hY : set5 Y22 Y21.heap.size (.bool sw) (.bool se) (.int .u64 sl) (.int .u64 sh) (.slice p7 XS.length c7) = Y23 at *
      clear hY
      refine hK.out _ _ (hall _ cc) (fun hH => ?_)
      clear hK K
      try simp only [Act.put, gA, gB, gC, gD, gE, gG]
      refine wpAnyH_ready (rs := [9]) (by kernel_rfl) (by simp) (AllReadyH.cons (o := _) rfl (fun K hK => ?_) AllReadyH.nil)
      obtain ⟨q_0, q_1, q_2, q_3, q_4, qf⟩ := lw_cells5 q1
      go_simp
      clear q_0 q_1 q_2 q_3 q_4 qf
      replace q0 := lw_far5 (b := Y1.heap.size) q0 (.bool sw) (.bool se) (.int .u64 sl) (.int .u64 sh) (.slice p8 XS.length c8) (by first | assumption | exact Ne.symm (by assumption))
      replace t7 := t7.far5 f0_1 (.bool sw) (.bool se) (.int .u64 sl) (.int .u64 sh) (.slice p8 XS.length c8)
      replace t8 := t8.far5 f1_1 (.bool sw) (.bool se) (.int .u64 sl) (.int .u64 sh) (.slice p8 XS.length c8)
      replace q1 := lw_set5 q1 (.bool sw) (.bool se) (.int .u64 sl) (.int .u64 sh) (.slice p8 XS.length c8)
      replace cc := lw_sp5 (b := Y1.heap.size) cc zz1 (.bool sw) (.bool se) (.int .u64 sl) (.int .u64 sh) (.slice p8 XS.length c8)
      rw [show (((((Y23.setCell ⟨Y1.heap.size, 0, none⟩ (.bool sw)).setCell ⟨Y1.heap.size, 1, none⟩ (.bool se)).setCell ⟨Y1.heap.size, 2, none⟩ (.int .u64 sl)).setCell ⟨Y1.heap.size, 3, none⟩ (.int .u64 sh)).setCell ⟨Y1.heap.size, 4, none⟩ (.slice p8 XS.length c8)) = set5 Y23 Y1.heap.size (.bool sw) (.bool se) (.int .u64 sl) (.int .u64 sh) (.slice p8 XS.length c8) from rfl]
      generalize hY : set5 Y23 Y1.heap.size (.bool sw) (.bool se) (.int .u64 sl) (.int .u64 sh) (.slice p8 XS.length c8) = Y24 at *
      clear hY
      refine hK.out _ _ (hall _ cc) (fun hH => ?_)
      clear hK K
      try simp only [Act.put, gA, gB, gC, gD, gE, gG]
      refine wpAnyH_done (by kernel_rfl) ?_ _
      go_wp2_with fail
      go_meet
      exact ⟨_, Y21.heap.size, Y1.heap.size, p7, c7, p8, c8, rfl, rfl, rfl, q0, q1, t7, t8, cc⟩
     ·skip
      go_simp
      have zz0 := cc.size
      have ne0_1 : Y1.heap.size ≠ Y20.heap.size := Nat.ne_of_lt (lw_lt q1)
      replace q1 := lw_old q1 (.cells #[.bool false, .bool false, .int .u64 0, .int .u64 0, .slice none 0 0] 31)
      have f0_0 := far_new t7
      replace t7 := t7.on (sp_new (Below.refl _ _) (.cells #[.bool false, .bool false, .int .u64 0, .int .u64 0, .slice none 0 0] 31))
      have q0 := World.alloc_heap_new Y20 (.cells #[.bool false, .bool false, .int .u64 0, .int .u64 0, .slice none 0 0] 31)
      replace cc := sp_new cc (.cells #[.bool false, .bool false, .int .u64 0, .int .u64 0, .slice none 0 0] 31)
      generalize hY : Y20.alloc (.cells #[.bool false, .bool false, .int .u64 0, .int .u64 0, .slice none 0 0] 31) = Y25 at *
      clear hY
      refine hK.out _ _ (hall _ cc) (fun hH => ?_)
      clear hK K
      try simp only [Act.put, gA, gB, gC, gD, gE, gG]
      refine wpAnyH_ready (rs := [5]) (by kernel_rfl) (by simp) (AllReadyH.cons (o := _) rfl (fun K hK => ?_) AllReadyH.nil)
      go_simp
      refine (k2 _ _ _ (t6.on cc) (t5.on cc)).mono ?_
      rintro e Y26 ⟨⟨v, rfl, t8, u8⟩, g⟩
      obtain ⟨p8, c8, rfl⟩ := t8.len
      replace cc := sp_call cc g
      have f1_0 := far_up u8 (lw_lt q0)
      replace q0 := lw_on g q0
      have f1_1 := far_up u8 (lw_lt q1)
      replace q1 := lw_on g q1
      replace t7 := t7.on g
      clear g
      go_wp2_with fail
      refine hK.out _ _ (hall _ cc) (fun hH => ?_)
      clear hK K
      try simp only [Act.put, gA, gB, gC, gD, gE, gG]
      refine wpAnyH_ready (rs := [8]) (by kernel_rfl) (by simp) (AllReadyH.cons (o := _) rfl (fun K hK => ?_) AllReadyH.nil)
      obtain ⟨q_0, q_1, q_2, q_3, q_4, qf⟩ := lw_cells5 q0
      go_simp
      clear q_0 q_1 q_2 q_3 q_4 qf
      replace q1 := lw_far5 (b := Y20.heap.size) q1 (.bool sw) (.bool se) (.int .u64 sl) (.int .u64 sh) (.slice p7 XS.length c7) (by first | assumption | exact Ne.symm (by assumption))
      replace t7 := t7.far5 f0_0 (.bool sw) (.bool se) (.int .u64 sl) (.int .u64 sh) (.slice p7 XS.length c7)
      replace t8 := t8.far5 f1_0 (.bool sw) (.bool se) (.int .u64 sl) (.int .u64 sh) (.slice p7 XS.length c7)
      replace q0 := lw_set5 q0 (.bool sw) (.bool se) (.int .u64 sl) (.int .u64 sh) (.slice p7 XS.length c7)
      replace cc := lw_sp5 (b := Y20.heap.size) cc zz0 (.bool sw) (.bool se) (.int .u64 sl) (.int .u64 sh) (.slice p7 XS.length c7)
      rw [show (((((Y26.setCell ⟨Y20.heap.size, 0, none⟩ (.bool sw)).setCell ⟨Y20.heap.size, 1, none⟩ (.bool se)).setCell ⟨Y20.heap.size, 2, none⟩ (.int .u64 sl)).setCell ⟨Y20.heap.size, 3, none⟩ (.int .u64 sh)).setCell ⟨Y20.heap.size, 4, none⟩ (.slice p7 XS.length c7)) = set5 Y26 Y20.heap.size (.bool sw) (.bool se) (.int .u64 sl) (.int .u64 sh) (.slice p7 XS.length c7) from rfl]
      generalize hY : set5 Y26 Y20.heap.size (.bool sw) (.bool se) (.int .u64 sl) (.int .u64 sh) (.slice p7 XS.length c7) = Y27 at *
      clear hY
      refine hK.out _ _ (hall _ cc) (fun hH => ?_)
      clear hK K
      try simp only [Act.put, gA, gB, gC, gD, gE, gG]
      refine wpAnyH_ready (rs := [9]) (by kernel_rfl) (by simp) (AllReadyH.cons (o := _) rfl (fun K hK => ?_) AllReadyH.nil)
      obtain ⟨q_0, q_1, q_2, q_3, q_4, qf⟩ := lw_cells5 q1
      go_simp
      clear q_0 q_1 q_2 q_3 q_4 qf
      replace q0 := lw_far5 (b := Y1.heap.size) q0 (.bool sw) (.bool se) (.int .u64 sl) (.int .u64 sh) (.slice p8 XS.length c8) (by first | assumption | exact Ne.symm (by assumption))
      replace t7 := t7.far5 f0_1 (.bool sw) (.bool se) (.int .u64 sl) (.int .u64 sh) (.slice p8 XS.length c8)
      replace t8 := t8.far5 f1_1 (.bool sw) (.bool se) (.int .u64 sl) (.int .u64 sh) (.slice p8 XS.length c8)
      replace q1 := lw_set5 q1 (.bool sw) (.bool se) (.int .u64 sl) (.int .u64 sh) (.slice p8 XS.length c8)
      replace cc := lw_sp5 (b := Y1.heap.size) cc zz1 (.bool sw) (.bool se) (.int .u64 sl) (.int .u64 sh) (.slice p8 XS.length c8)
      rw [show (((((Y27.setCell ⟨Y1.heap.size, 0, none⟩ (.bool sw)).setCell ⟨Y1.heap.size, 1, none⟩ (.bool se)).setCell ⟨Y1.heap.size, 2, none⟩ (.int .u64 sl)).setCell ⟨Y1.heap.size, 3, none⟩ (.int .u64 sh)).setCell ⟨Y1.heap.size, 4, none⟩ (.slice p8 XS.length c8)) = set5 Y27 Y1.heap.size (.bool sw) (.bool se) (.int .u64 sl) (.int .u64 sh) (.slice p8 XS.length c8) from rfl]
      generalize hY : set5 Y27 Y1.heap.size (.bool sw) (.bool se) (.int .u64 sl) (.int .u64 sh) (.slice p8 XS.length c8) = Y28 at *
      clear hY
      refine hK.out _ _ (hall _ cc) (fun hH => ?_)
      clear hK K
      try simp only [Act.put, gA, gB, gC, gD, gE, gG]
      refine wpAnyH_done (by kernel_rfl) ?_ _
      go_wp2_with fail
      go_meet
      exact ⟨_, Y20.heap.size, Y1.heap.size, p7, c7, p8, c8, rfl, rfl, rfl, q0, q1, t7, t8, cc⟩
   ·skip
    go_simp
    have zz0 := cc.size
    have q0 := World.alloc_heap_new Y0 (.cells #[.bool false, .bool false, .int .u64 0, .int .u64 0, .slice none 0 0] 31)
    replace cc := sp_new cc (.cells #[.bool false, .bool false, .int .u64 0, .int .u64 0, .slice none 0 0] 31)
    generalize hY : Y0.alloc (.cells #[.bool false, .bool false, .int .u64 0, .int .u64 0, .slice none 0 0] 31) = Y29 at *
    clear hY
    refine hK.out _ _ (hall _ cc) (fun hH => ?_)
    clear hK K
    try simp only [Act.put, gA, gB, gC, gD, gE, gG]
    refine wpAnyH_ready (rs := [2, 7]) (by kernel_rfl) (by simp) (AllReadyH.cons (o := _) rfl (fun K hK => ?_) (AllReadyH.cons (o := _) rfl (fun K hK => ?_) AllReadyH.nil))
    ·skip
     go_simp
     refine (k1 _ _ _ (t5.on cc) (t6.on cc)).mono ?_
     rintro e Y30 ⟨⟨v, rfl, t7, u7⟩, g⟩
     obtain ⟨p7, c7, rfl⟩ := t7.len
     replace cc := sp_call cc g
     have f0_0 := far_up u7 (lw_lt q0)
     replace q0 := lw_on g q0
     clear g
     go_wp2_with fail
     refine hK.out _ _ (hall _ cc) (fun hH => ?_)
     clear hK K
     try simp only [Act.put, gA, gB, gC, gD, gE, gG]
     refine wpAnyH_ready (rs := [5, 7]) (by kernel_rfl) (by simp) (AllReadyH.cons (o := _) rfl (fun K hK => ?_) (AllReadyH.cons (o := _) rfl (fun K hK => ?_) AllReadyH.nil))
     ·skip
      go_simp
      refine (k2 _ _ _ (t6.on cc) (t5.on cc)).mono ?_
      rintro e Y31 ⟨⟨v, rfl, t8, u8⟩, g⟩
      obtain ⟨p8, c8, rfl⟩ := t8.len
      replace cc := sp_call cc g
      have f1_0 := far_up u8 (lw_lt q0)
      replace q0 := lw_on g q0
      replace t7 := t7.on g
      clear g
      go_wp2_with fail
      refine hK.out _ _ (hall _ cc) (fun hH => ?_)
      clear hK K
      try simp only [Act.put, gA, gB, gC, gD, gE, gG]
      refine wpAnyH_ready (rs := [7]) (by kernel_rfl) (by simp) (AllReadyH.cons (o := _) rfl (fun K hK => ?_) AllReadyH.nil)
      go_simp
      have zz1 := cc.size
      have ne0_1 : Y0.heap.size ≠ Y31.heap.size := Nat.ne_of_lt (lw_lt q0)
      replace q0 := lw_old q0 (.cells #[.bool false, .bool false, .int .u64 0, .int .u64 0, .slice none 0 0] 31)
      have f0_1 := far_new t7
      replace t7 := t7.on (sp_new (Below.refl _ _) (.cells #[.bool false, .bool false, .int .u64 0, .int .u64 0, .slice none 0 0] 31))
      have f1_1 := far_new t8
      replace t8 := t8.on (sp_new (Below.refl _ _) (.cells #[.bool false, .bool false, .int .u64 0, .int .u64 0, .slice none 0 0] 31))
      have q1 := World.alloc_heap_new Y31 (.cells #[.bool false, .bool false, .int .u64 0, .int .u64 0, .slice none 0 0] 31)
      replace cc := sp_new cc (.cells #[.bool false, .bool false, .int .u64 0, .int .u64 0, .slice none 0 0] 31)
      generalize hY : Y31.alloc (.cells #[.bool false, .bool false, .int .u64 0, .int .u64 0, .slice none 0 0] 31) = Y32 at *
      clear hY
      refine hK.out _ _ (hall _ cc) (fun hH => ?_)
      clear hK K
      try simp only [Act.put, gA, gB, gC, gD, gE, gG]
      refine wpAnyH_ready (rs := [8]) (by kernel_rfl) (by simp) (AllReadyH.cons (o := _) rfl (fun K hK => ?_) AllReadyH.nil)
      obtain ⟨q_0, q_1, q_2, q_3, q_4, qf⟩ := lw_cells5 q0
      go_simp
      clear q_0 q_1 q_2 q_3 q_4 qf
      replace q1 := lw_far5 (b := Y0.heap.size) q1 (.bool sw) (.bool se) (.int .u64 sl) (.int .u64 sh) (.slice p7 XS.length c7) (by first | assumption | exact Ne.symm (by assumption))
      replace t7 := t7.far5 f0_0 (.bool sw) (.bool se) (.int .u64 sl) (.int .u64 sh) (.slice p7 XS.length c7)
      replace t8 := t8.far5 f1_0 (.bool sw) (.bool se) (.int .u64 sl) (.int .u64 sh) (.slice p7 XS.length c7)
      replace q0 := lw_set5 q0 (.bool sw) (.bool se) (.int .u64 sl) (.int .u64 sh) (.slice p7 XS.length c7)
      replace cc := lw_sp5 (b := Y0.heap.size) cc zz0 (.bool sw) (.bool se) (.int .u64 sl) (.int .u64 sh) (.slice p7 XS.length c7)
      rw [show (((((Y32.setCell ⟨Y0.heap.size, 0, none⟩ (.bool sw)).setCell ⟨Y0.heap.size, 1, none⟩ (.bool se)).setCell ⟨Y0.heap.size, 2, none⟩ (.int .u64 sl)).setCell ⟨Y0.heap.size, 3, none⟩ (.int .u64 sh)).setCell ⟨Y0.heap.size, 4, none⟩ (.slice p7 XS.length c7)) = set5 Y32 Y0.heap.size (.bool sw) (.bool se) (.int .u64 sl) (.int .u64 sh) (.slice p7 XS.length c7) from rfl]
      generalize hY : set5 Y32 Y0.heap.size (.bool sw) (.bool se) (.int .u64 sl) (.int .u64 sh) (.slice p7 XS.length c7) = Y33 at *
      clear hY
      refine hK.out _ _ (hall _ cc) (fun hH => ?_)
      clear hK K
      try simp only [Act.put, gA, gB, gC, gD, gE, gG]
      refine wpAnyH_ready (rs := [9]) (by kernel_rfl) (by simp) (AllReadyH.cons (o := _) rfl (fun K hK => ?_) AllReadyH.nil)
      obtain ⟨q_0, q_1, q_2, q_3, q_4, qf⟩ := lw_cells5 q1
      go_simp
      clear q_0 q_1 q_2 q_3 q_4 qf
      replace q0 := lw_far5 (b := Y31.heap.size) q0 (.bool sw) (.bool se) (.int .u64 sl) (.int .u64 sh) (.slice p8 XS.length c8) (by first | assumption | exact Ne.symm (by assumption))
      replace t7 := t7.far5 f0_1 (.bool sw) (.bool se) (.int .u64 sl) (.int .u64 sh) (.slice p8 XS.length c8)
      replace t8 := t8.far5 f1_1 (.bool sw) (.bool se) (.int .u64 sl) (.int .u64 sh) (.slice p8 XS.length c8)
      replace q1 := lw_set5 q1 (.bool sw) (.bool se) (.int .u64 sl) (.int .u64 sh) (.slice p8 XS.length c8)
      replace cc := lw_sp5 (b := Y31.heap.size) cc zz1 (.bool sw) (.bool se) (.int .u64 sl) (.int .u64 sh) (.slice p8 XS.length c8)
      rw [show (((((Y33.setCell ⟨Y31.heap.size, 0, none⟩ (.bool sw)).setCell ⟨Y31.heap.size, 1, none⟩ (.bool se)).setCell ⟨Y31.heap.size, 2, none⟩ (.int .u64 sl)).setCell ⟨Y31.heap.size, 3, none⟩ (.int .u64 sh)).setCell ⟨Y31.heap.size, 4, none⟩ (.slice p8 XS.length c8)) = set5 Y33 Y31.heap.size (.bool sw) (.bool se) (.int .u64 sl) (.int .u64 sh) (.slice p8 XS.length c8) from rfl]
      generalize hY : set5 Y33 Y31.heap.size (.bool sw) (.bool se) (.int .u64 sl) (.int .u64 sh) (.slice p8 XS.length c8) = Y34 at *
      clear hY
      refine hK.out _ _ (hall _ cc) (fun hH => ?_)
      clear hK K
      try simp only [Act.put, gA, gB, gC, gD, gE, gG]
      refine wpAnyH_done (by kernel_rfl) ?_ _
      go_wp2_with fail
      go_meet
      exact ⟨_, Y0.heap.size, Y31.heap.size, p7, c7, p8, c8, rfl, rfl, rfl, q0, q1, t7, t8, cc⟩
     ·skip
      go_simp
      have zz1 := cc.size
      have ne0_1 : Y0.heap.size ≠ Y30.heap.size := Nat.ne_of_lt (lw_lt q0)
      replace q0 := lw_old q0 (.cells #[.bool false, .bool false, .int .u64 0, .int .u64 0, .slice none 0 0] 31)
      have f0_1 := far_new t7
      replace t7 := t7.on (sp_new (Below.refl _ _) (.cells #[.bool false, .bool false, .int .u64 0, .int .u64 0, .slice none 0 0] 31))
      have q1 := World.alloc_heap_new Y30 (.cells #[.bool false, .bool false, .int .u64 0, .int .u64 0, .slice none 0 0] 31)
      replace cc := sp_new cc (.cells #[.bool false, .bool false, .int .u64 0, .int .u64 0, .slice none 0 0] 31)
      generalize hY : Y30.alloc (.cells #[.bool false, .bool false, .int .u64 0, .int .u64 0, .slice none 0 0] 31) = Y35 at *
      clear hY
      refine hK.out _ _ (hall _ cc) (fun hH => ?_)
      clear hK K
      try simp only [Act.put, gA, gB, gC, gD, gE, gG]
      refine wpAnyH_ready (rs := [5]) (by kernel_rfl) (by simp) (AllReadyH.cons (o := _) rfl (fun K hK => ?_) AllReadyH.nil)
      go_simp
      refine (k2 _ _ _ (t6.on cc) (t5.on cc)).mono ?_
      rintro e Y36 ⟨⟨v, rfl, t8, u8⟩, g⟩
      obtain ⟨p8, c8, rfl⟩ := t8.len
      replace cc := sp_call cc g
      have f1_0 := far_up u8 (lw_lt q0)
      replace q0 := lw_on g q0
      have f1_1 := far_up u8 (lw_lt q1)
      replace q1 := lw_on g q1
      replace t7 := t7.on g
      clear g
      go_wp2_with fail
      refine hK.out _ _ (hall _ cc) (fun hH => ?_)
      clear hK K
      try simp only [Act.put, gA, gB, gC, gD, gE, gG]
      refine wpAnyH_ready (rs := [8]) (by kernel_rfl) (by simp) (AllReadyH.cons (o := _) rfl (fun K hK => ?_) AllReadyH.nil)
      obtain ⟨q_0, q_1, q_2, q_3, q_4, qf⟩ := lw_cells5 q0
      go_simp
      clear q_0 q_1 q_2 q_3 q_4 qf
      replace q1 := lw_far5 (b := Y0.heap.size) q1 (.bool sw) (.bool se) (.int .u64 sl) (.int .u64 sh) (.slice p7 XS.length c7) (by first | assumption | exact Ne.symm (by assumption))
      replace t7 := t7.far5 f0_0 (.bool sw) (.bool se) (.int .u64 sl) (.int .u64 sh) (.slice p7 XS.length c7)
      replace t8 := t8.far5 f1_0 (.bool sw) (.bool se) (.int .u64 sl) (.int .u64 sh) (.slice p7 XS.length c7)
      replace q0 := lw_set5 q0 (.bool sw) (.bool se) (.int .u64 sl) (.int .u64 sh) (.slice p7 XS.length c7)
      replace cc := lw_sp5 (b := Y0.heap.size) cc zz0 (.bool sw) (.bool se) (.int .u64 sl) (.int .u64 sh) (.slice p7 XS.length c7)
      rw [show (((((Y36.setCell ⟨Y0.heap.size, 0, none⟩ (.bool sw)).setCell ⟨Y0.heap.size, 1, none⟩ (.bool se)).setCell ⟨Y0.heap.size, 2, none⟩ (.int .u64 sl)).setCell ⟨Y0.heap.size, 3, none⟩ (.int .u64 sh)).setCell ⟨Y0.heap.size, 4, none⟩ (.slice p7 XS.length c7)) = set5 Y36 Y0.heap.size (.bool sw) (.bool se) (.int .u64 sl) (.int .u64 sh) (.slice p7 XS.length c7) from rfl]
      generalize hY : set5 Y36 Y0.heap.size (.bool sw) (.bool se) (.int .u64 sl) (.int .u64 sh) (.slice p7 XS.length c7) = Y37 at *
      clear hY
      refine hK.out _ _ (hall _ cc) (fun hH => ?_)
      clear hK K
      try simp only [Act.put, gA, gB, gC, gD, gE, gG]
      refine wpAnyH_ready (rs := [9]) (by kernel_rfl) (by simp) (AllReadyH.cons (o := _) rfl (fun K hK => ?_) AllReadyH.nil)
      obtain ⟨q_0, q_1, q_2, q_3, q_4, qf⟩ := lw_cells5 q1
      go_simp
      clear q_0 q_1 q_2 q_3 q_4 qf
      replace q0 := lw_far5 (b := Y30.heap.size) q0 (.bool sw) (.bool se) (.int .u64 sl) (.int .u64 sh) (.slice p8 XS.length c8) (by first | assumption | exact Ne.symm (by assumption))
      replace t7 := t7.far5 f0_1 (.bool sw) (.bool se) (.int .u64 sl) (.int .u64 sh) (.slice p8 XS.length c8)
      replace t8 := t8.far5 f1_1 (.bool sw) (.bool se) (.int .u64 sl) (.int .u64 sh) (.slice p8 XS.length c8)
      replace q1 := lw_set5 q1 (.bool sw) (.bool se) (.int .u64 sl) (.int .u64 sh) (.slice p8 XS.length c8)
      replace cc := lw_sp5 (b := Y30.heap.size) cc zz1 (.bool sw) (.bool se) (.int .u64 sl) (.int .u64 sh) (.slice p8 XS.length c8)
      rw [show (((((Y37.setCell ⟨Y30.heap.size, 0, none⟩ (.bool sw)).setCell ⟨Y30.heap.size, 1, none⟩ (.bool se)).setCell ⟨Y30.heap.size, 2, none⟩ (.int .u64 sl)).setCell ⟨Y30.heap.size, 3, none⟩ (.int .u64 sh)).setCell ⟨Y30.heap.size, 4, none⟩ (.slice p8 XS.length c8)) = set5 Y37 Y30.heap.size (.bool sw) (.bool se) (.int .u64 sl) (.int .u64 sh) (.slice p8 XS.length c8) from rfl]
      generalize hY : set5 Y37 Y30.heap.size (.bool sw) (.bool se) (.int .u64 sl) (.int .u64 sh) (.slice p8 XS.length c8) = Y38 at *
      clear hY
      refine hK.out _ _ (hall _ cc) (fun hH => ?_)
      clear hK K
      try simp only [Act.put, gA, gB, gC, gD, gE, gG]
      refine wpAnyH_done (by kernel_rfl) ?_ _
      go_wp2_with fail
      go_meet
      exact ⟨_, Y0.heap.size, Y30.heap.size, p7, c7, p8, c8, rfl, rfl, rfl, q0, q1, t7, t8, cc⟩
    ·skip
     go_simp
     have zz1 := cc.size
     have ne0_1 : Y0.heap.size ≠ Y29.heap.size := Nat.ne_of_lt (lw_lt q0)
     replace q0 := lw_old q0 (.cells #[.bool false, .bool false, .int .u64 0, .int .u64 0, .slice none 0 0] 31)
     have q1 := World.alloc_heap_new Y29 (.cells #[.bool false, .bool false, .int .u64 0, .int .u64 0, .slice none 0 0] 31)
     replace cc := sp_new cc (.cells #[.bool false, .bool false, .int .u64 0, .int .u64 0, .slice none 0 0] 31)
     generalize hY : Y29.alloc (.cells #[.bool false, .bool false, .int .u64 0, .int .u64 0, .slice none 0 0] 31) = Y39 at *
     clear hY
     refine hK.out _ _ (hall _ cc) (fun hH => ?_)
     clear hK K
     try simp only [Act.put, gA, gB, gC, gD, gE, gG]
     refine wpAnyH_ready (rs := [2]) (by kernel_rfl) (by simp) (AllReadyH.cons (o := _) rfl (fun K hK => ?_) AllReadyH.nil)
     go_simp
     refine (k1 _ _ _ (t5.on cc) (t6.on cc)).mono ?_
     rintro e Y40 ⟨⟨v, rfl, t7, u7⟩, g⟩
     obtain ⟨p7, c7, rfl⟩ := t7.len
     replace cc := sp_call cc g
     have f0_0 := far_up u7 (lw_lt q0)
     replace q0 := lw_on g q0
     have f0_1 := far_up u7 (lw_lt q1)
     replace q1 := lw_on g q1
     clear g
     go_wp2_with fail
     refine hK.out _ _ (hall _ cc) (fun hH => ?_)
     clear hK K
     try simp only [Act.put, gA, gB, gC, gD, gE, gG]
     refine wpAnyH_ready (rs := [5]) (by kernel_rfl) (by simp) (AllReadyH.cons (o := _) rfl (fun K hK => ?_) AllReadyH.nil)
     go_simp
     refine (k2 _ _ _ (t6.on cc) (t5.on cc)).mono ?_
     rintro e Y41 ⟨⟨v, rfl, t8, u8⟩, g⟩
     obtain ⟨p8, c8, rfl⟩ := t8.len
     replace cc := sp_call cc g
     have f1_0 := far_up u8 (lw_lt q0)
     replace q0 := lw_on g q0
     have f1_1 := far_up u8 (lw_lt q1)
     replace q1 := lw_on g q1
     replace t7 := t7.on g
     clear g
     go_wp2_with fail
     refine hK.out _ _ (hall _ cc) (fun hH => ?_)
     clear hK K
     try simp only [Act.put, gA, gB, gC, gD, gE, gG]
     refine wpAnyH_ready (rs := [8]) (by kernel_rfl) (by simp) (AllReadyH.cons (o := _) rfl (fun K hK => ?_) AllReadyH.nil)
     obtain ⟨q_0, q_1, q_2, q_3, q_4, qf⟩ := lw_cells5 q0
     go_simp
     clear q_0 q_1 q_2 q_3 q_4 qf
     replace q1 := lw_far5 (b := Y0.heap.size) q1 (.bool sw) (.bool se) (.int .u64 sl) (.int .u64 sh) (.slice p7 XS.length c7) (by first | assumption | exact Ne.symm (by assumption))
     replace t7 := t7.far5 f0_0 (.bool sw) (.bool se) (.int .u64 sl) (.int .u64 sh) (.slice p7 XS.length c7)
     replace t8 := t8.far5 f1_0 (.bool sw) (.bool se) (.int .u64 sl) (.int .u64 sh) (.slice p7 XS.length c7)
     replace q0 := lw_set5 q0 (.bool sw) (.bool se) (.int .u64 sl) (.int .u64 sh) (.slice p7 XS.length c7)
     replace cc := lw_sp5 (b := Y0.heap.size) cc zz0 (.bool sw) (.bool se) (.int .u64 sl) (.int .u64 sh) (.slice p7 XS.length c7)
     rw [show (((((Y41.setCell ⟨Y0.heap.size, 0, none⟩ (.bool sw)).setCell ⟨Y0.heap.size, 1, none⟩ (.bool se)).setCell ⟨Y0.heap.size, 2, none⟩ (.int .u64 sl)).setCell ⟨Y0.heap.size, 3, none⟩ (.int .u64 sh)).setCell ⟨Y0.heap.size, 4, none⟩ (.slice p7 XS.length c7)) = set5 Y41 Y0.heap.size (.bool sw) (.bool se) (.int .u64 sl) (.int .u64 sh) (.slice p7 XS.length c7) from rfl]
     generalize hY : set5 Y41 Y0.heap.size (.bool sw) (.bool se) (.int .u64 sl) (.int .u64 sh) (.slice p7 XS.length c7) = Y42 at *
     clear hY
     refine hK.out _ _ (hall _ cc) (fun hH => ?_)
     clear hK K
     try simp only [Act.put, gA, gB, gC, gD, gE, gG]
     refine wpAnyH_ready (rs := [9]) (by kernel_rfl) (by simp) (AllReadyH.cons (o := _) rfl (fun K hK => ?_) AllReadyH.nil)
     obtain ⟨q_0, q_1, q_2, q_3, q_4, qf⟩ := lw_cells5 q1
     go_simp
     clear q_0 q_1 q_2 q_3 q_4 qf
     replace q0 := lw_far5 (b := Y29.heap.size) q0 (.bool sw) (.bool se) (.int .u64 sl) (.int .u64 sh) (.slice p8 XS.length c8) (by first | assumption | exact Ne.symm (by assumption))
     replace t7 := t7.far5 f0_1 (.bool sw) (.bool se) (.int .u64 sl) (.int .u64 sh) (.slice p8 XS.length c8)
     replace t8 := t8.far5 f1_1 (.bool sw) (.bool se) (.int .u64 sl) (.int .u64 sh) (.slice p8 XS.length c8)
     replace q1 := lw_set5 q1 (.bool sw) (.bool se) (.int .u64 sl) (.int .u64 sh) (.slice p8 XS.length c8)
     replace cc := lw_sp5 (b := Y29.heap.size) cc zz1 (.bool sw) (.bool se) (.int .u64 sl) (.int .u64 sh) (.slice p8 XS.length c8)
     rw [show (((((Y42.setCell ⟨Y29.heap.size, 0, none⟩ (.bool sw)).setCell ⟨Y29.heap.size, 1, none⟩ (.bool se)).setCell ⟨Y29.heap.size, 2, none⟩ (.int .u64 sl)).setCell ⟨Y29.heap.size, 3, none⟩ (.int .u64 sh)).setCell ⟨Y29.heap.size, 4, none⟩ (.slice p8 XS.length c8)) = set5 Y42 Y29.heap.size (.bool sw) (.bool se) (.int .u64 sl) (.int .u64 sh) (.slice p8 XS.length c8) from rfl]
     generalize hY : set5 Y42 Y29.heap.size (.bool sw) (.bool se) (.int .u64 sl) (.int .u64 sh) (.slice p8 XS.length c8) = Y43 at *
     clear hY
     refine hK.out _ _ (hall _ cc) (fun hH => ?_)
     clear hK K
     try simp only [Act.put, gA, gB, gC, gD, gE, gG]
     refine wpAnyH_done (by kernel_rfl) ?_ _
     go_wp2_with fail
     go_meet
     exact ⟨_, Y0.heap.size, Y29.heap.size, p7, c7, p8, c8, rfl, rfl, rfl, q0, q1, t7, t8, cc⟩
   ·skip
    go_simp
    have zz1 := cc.size
    have q1 := World.alloc_heap_new Y0 (.cells #[.bool false, .bool false, .int .u64 0, .int .u64 0, .slice none 0 0] 31)
    replace cc := sp_new cc (.cells #[.bool false, .bool false, .int .u64 0, .int .u64 0, .slice none 0 0] 31)
    generalize hY : Y0.alloc (.cells #[.bool false, .bool false, .int .u64 0, .int .u64 0, .slice none 0 0] 31) = Y44 at *
    clear hY
    refine hK.out _ _ (hall _ cc) (fun hH => ?_)
    clear hK K
    try simp only [Act.put, gA, gB, gC, gD, gE, gG]
    refine wpAnyH_ready (rs := [2, 6]) (by kernel_rfl) (by simp) (AllReadyH.cons (o := _) rfl (fun K hK => ?_) (AllReadyH.cons (o := _) rfl (fun K hK => ?_) AllReadyH.nil))
    ·skip
     go_simp
     refine (k1 _ _ _ (t5.on cc) (t6.on cc)).mono ?_
     rintro e Y45 ⟨⟨v, rfl, t7, u7⟩, g⟩
     obtain ⟨p7, c7, rfl⟩ := t7.len
     replace cc := sp_call cc g
     have f0_1 := far_up u7 (lw_lt q1)
     replace q1 := lw_on g q1
     clear g
     go_wp2_with fail
     refine hK.out _ _ (hall _ cc) (fun hH => ?_)
     clear hK K
     try simp only [Act.put, gA, gB, gC, gD, gE, gG]
     refine wpAnyH_ready (rs := [5, 6]) (by kernel_rfl) (by simp) (AllReadyH.cons (o := _) rfl (fun K hK => ?_) (AllReadyH.cons (o := _) rfl (fun K hK => ?_) AllReadyH.nil))
     ·skip
      go_simp
      refine (k2 _ _ _ (t6.on cc) (t5.on cc)).mono ?_
      rintro e Y46 ⟨⟨v, rfl, t8, u8⟩, g⟩
      obtain ⟨p8, c8, rfl⟩ := t8.len
      replace cc := sp_call cc g
      have f1_1 := far_up u8 (lw_lt q1)
      replace q1 := lw_on g q1
      replace t7 := t7.on g
      clear g
      go_wp2_with fail
      refine hK.out _ _ (hall _ cc) (fun hH => ?_)
      clear hK K
      try simp only [Act.put, gA, gB, gC, gD, gE, gG]
      refine wpAnyH_ready (rs := [6]) (by kernel_rfl) (by simp) (AllReadyH.cons (o := _) rfl (fun K hK => ?_) AllReadyH.nil)
      go_simp
      have zz0 := cc.size
      have ne0_1 : Y0.heap.size ≠ Y46.heap.size := Nat.ne_of_lt (lw_lt q1)
      replace q1 := lw_old q1 (.cells #[.bool false, .bool false, .int .u64 0, .int .u64 0, .slice none 0 0] 31)
      have f0_0 := far_new t7
      replace t7 := t7.on (sp_new (Below.refl _ _) (.cells #[.bool false, .bool false, .int .u64 0, .int .u64 0, .slice none 0 0] 31))
      have f1_0 := far_new t8
      replace t8 := t8.on (sp_new (Below.refl _ _) (.cells #[.bool false, .bool false, .int .u64 0, .int .u64 0, .slice none 0 0] 31))
      have q0 := World.alloc_heap_new Y46 (.cells #[.bool false, .bool false, .int .u64 0, .int .u64 0, .slice none 0 0] 31)
      replace cc := sp_new cc (.cells #[.bool false, .bool false, .int .u64 0, .int .u64 0, .slice none 0 0] 31)
      generalize hY : Y46.alloc (.cells #[.bool false, .bool false, .int .u64 0, .int .u64 0, .slice none 0 0] 31) = Y47 at *
      clear hY
      refine hK.out _ _ (hall _ cc) (fun hH => ?_)
      clear hK K
      try simp only [Act.put, gA, gB, gC, gD, gE, gG]
      refine wpAnyH_ready (rs := [8]) (by kernel_rfl) (by simp) (AllReadyH.cons (o := _) rfl (fun K hK => ?_) AllReadyH.nil)
      obtain ⟨q_0, q_1, q_2, q_3, q_4, qf⟩ := lw_cells5 q0
      go_simp
      clear q_0 q_1 q_2 q_3 q_4 qf
      replace q1 := lw_far5 (b := Y46.heap.size) q1 (.bool sw) (.bool se) (.int .u64 sl) (.int .u64 sh) (.slice p7 XS.length c7) (by first | assumption | exact Ne.symm (by assumption))
      replace t7 := t7.far5 f0_0 (.bool sw) (.bool se) (.int .u64 sl) (.int .u64 sh) (.slice p7 XS.length c7)
      replace t8 := t8.far5 f1_0 (.bool sw) (.bool se) (.int .u64 sl) (.int .u64 sh) (.slice p7 XS.length c7)
      replace q0 := lw_set5 q0 (.bool sw) (.bool se) (.int .u64 sl) (.int .u64 sh) (.slice p7 XS.length c7)
      replace cc := lw_sp5 (b := Y46.heap.size) cc zz0 (.bool sw) (.bool se) (.int .u64 sl) (.int .u64 sh) (.slice p7 XS.length c7)
      rw [show (((((Y47.setCell ⟨Y46.heap.size, 0, none⟩ (.bool sw)).setCell ⟨Y46.heap.size, 1, none⟩ (.bool se)).setCell ⟨Y46.heap.size, 2, none⟩ (.int .u64 sl)).setCell ⟨Y46.heap.size, 3, none⟩ (.int .u64 sh)).setCell ⟨Y46.heap.size, 4, none⟩ (.slice p7 XS.length c7)) = set5 Y47 Y46.heap.size (.bool sw) (.bool se) (.int .u64 sl) (.int .u64 sh) (.slice p7 XS.length c7) from rfl]
      generalize hY : set5 Y47 Y46.heap.size (.bool sw) (.bool se) (.int .u64 sl) (.int .u64 sh) (.slice p7 XS.length c7) = Y48 at *
      clear hY
      refine hK.out _ _ (hall _ cc) (fun hH => ?_)
      clear hK K
      try simp only [Act.put, gA, gB, gC, gD, gE, gG]
      refine wpAnyH_ready (rs := [9]) (by kernel_rfl) (by simp) (AllReadyH.cons (o := _) rfl (fun K hK => ?_) AllReadyH.nil)
      obtain ⟨q_0, q_1, q_2, q_3, q_4, qf⟩ := lw_cells5 q1
      go_simp
      clear q_0 q_1 q_2 q_3 q_4 qf
      replace q0 := lw_far5 (b := Y0.heap.size) q0 (.bool sw) (.bool se) (.int .u64 sl) (.int .u64 sh) (.slice p8 XS.length c8) (by first | assumption | exact Ne.symm (by assumption))
      replace t7 := t7.far5 f0_1 (.bool sw) (.bool se) (.int .u64 sl) (.int .u64 sh) (.slice p8 XS.length c8)
      replace t8 := t8.far5 f1_1 (.bool sw) (.bool se) (.int .u64 sl) (.int .u64 sh) (.slice p8 XS.length c8)
      replace q1 := lw_set5 q1 (.bool sw) (.bool se) (.int .u64 sl) (.int .u64 sh) (.slice p8 XS.length c8)
      replace cc := lw_sp5 (b := Y0.heap.size) cc zz1 (.bool sw) (.bool se) (.int .u64 sl) (.int .u64 sh) (.slice p8 XS.length c8)
      rw [show (((((Y48.setCell ⟨Y0.heap.size, 0, none⟩ (.bool sw)).setCell ⟨Y0.heap.size, 1, none⟩ (.bool se)).setCell ⟨Y0.heap.size, 2, none⟩ (.int .u64 sl)).setCell ⟨Y0.heap.size, 3, none⟩ (.int .u64 sh)).setCell ⟨Y0.heap.size, 4, none⟩ (.slice p8 XS.length c8)) = set5 Y48 Y0.heap.size (.bool sw) (.bool se) (.int .u64 sl) (.int .u64 sh) (.slice p8 XS.length c8) from rfl]
      generalize hY : set5 Y48 Y0.heap.size (.bool sw) (.bool se) (.int .u64 sl) (.int .u64 sh) (.slice p8 XS.length c8) = Y49 at *
      clear hY
      refine hK.out _ _ (hall _ cc) (fun hH => ?_)
      clear hK K
      try simp only [Act.put, gA, gB, gC, gD, gE, gG]
      refine wpAnyH_done (by kernel_rfl) ?_ _
      go_wp2_with fail
      go_meet
      exact ⟨_, Y46.heap.size, Y0.heap.size, p7, c7, p8, c8, rfl, rfl, rfl, q0, q1, t7, t8, cc⟩
     ·skip
      go_simp
      have zz0 := cc.size
      have ne0_1 : Y0.heap.size ≠ Y45.heap.size := Nat.ne_of_lt (lw_lt q1)
      replace q1 := lw_old q1 (.cells #[.bool false, .bool false, .int .u64 0, .int .u64 0, .slice none 0 0] 31)
      have f0_0 := far_new t7
      replace t7 := t7.on (sp_new (Below.refl _ _) (.cells #[.bool false, .bool false, .int .u64 0, .int .u64 0, .slice none 0 0] 31))
      have q0 := World.alloc_heap_new Y45 (.cells #[.bool false, .bool false, .int .u64 0, .int .u64 0, .slice none 0 0] 31)
      replace cc := sp_new cc (.cells #[.bool false, .bool false, .int .u64 0, .int .u64 0, .slice none 0 0] 31)
      generalize hY : Y45.alloc (.cells #[.bool false, .bool false, .int .u64 0, .int .u64 0, .slice none 0 0] 31) = Y50 at *
      clear hY
      refine hK.out _ _ (hall _ cc) (fun hH => ?_)
      clear hK K
      try simp only [Act.put, gA, gB, gC, gD, gE, gG]
      refine wpAnyH_ready (rs := [5]) (by kernel_rfl) (by simp) (AllReadyH.cons (o := _) rfl (fun K hK => ?_) AllReadyH.nil)
      go_simp
      refine (k2 _ _ _ (t6.on cc) (t5.on cc)).mono ?_
      rintro e Y51 ⟨⟨v, rfl, t8, u8⟩, g⟩
      obtain ⟨p8, c8, rfl⟩ := t8.len
      replace cc := sp_call cc g
      have f1_0 := far_up u8 (lw_lt q0)
      replace q0 := lw_on g q0
      have f1_1 := far_up u8 (lw_lt q1)
      replace q1 := lw_on g q1
      replace t7 := t7.on g
      clear g
      go_wp2_with fail
      refine hK.out _ _ (hall _ cc) (fun hH => ?_)
      clear hK K
      try simp only [Act.put, gA, gB, gC, gD, gE, gG]
      refine wpAnyH_ready (rs := [8]) (by kernel_rfl) (by simp) (AllReadyH.cons (o := _) rfl (fun K hK => ?_) AllReadyH.nil)
      obtain ⟨q_0, q_1, q_2, q_3, q_4, qf⟩ := lw_cells5 q0
      go_simp
      clear q_0 q_1 q_2 q_3 q_4 qf
      replace q1 := lw_far5 (b := Y45.heap.size) q1 (.bool sw) (.bool se) (.int .u64 sl) (.int .u64 sh) (.slice p7 XS.length c7) (by first | assumption | exact Ne.symm (by assumption))
      replace t7 := t7.far5 f0_0 (.bool sw) (.bool se) (.int .u64 sl) (.int .u64 sh) (.slice p7 XS.length c7)
      replace t8 := t8.far5 f1_0 (.bool sw) (.bool se) (.int .u64 sl) (.int .u64 sh) (.slice p7 XS.length c7)
      replace q0 := lw_set5 q0 (.bool sw) (.bool se) (.int .u64 sl) (.int .u64 sh) (.slice p7 XS.length c7)
      replace cc := lw_sp5 (b := Y45.heap.size) cc zz0 (.bool sw) (.bool se) (.int .u64 sl) (.int .u64 sh) (.slice p7 XS.length c7)
      rw [show (((((Y51.setCell ⟨Y45.heap.size, 0, none⟩ (.bool sw)).setCell ⟨Y45.heap.size, 1, none⟩ (.bool se)).setCell ⟨Y45.heap.size, 2, none⟩ (.int .u64 sl)).setCell ⟨Y45.heap.size, 3, none⟩ (.int .u64 sh)).setCell ⟨Y45.heap.size, 4, none⟩ (.slice p7 XS.length c7)) = set5 Y51 Y45.heap.size (.bool sw) (.bool se) (.int .u64 sl) (.int .u64 sh) (.slice p7 XS.length c7) from rfl]
      generalize hY : set5 Y51 Y45.heap.size (.bool sw) (.bool se) (.int .u64 sl) (.int .u64 sh) (.slice p7 XS.length c7) = Y52 at *
      clear hY
      refine hK.out _ _ (hall _ cc) (fun hH => ?_)
      clear hK K
      try simp only [Act.put, gA, gB, gC, gD, gE, gG]
      refine wpAnyH_ready (rs := [9]) (by kernel_rfl) (by simp) (AllReadyH.cons (o := _) rfl (fun K hK => ?_) AllReadyH.nil)
      obtain ⟨q_0, q_1, q_2, q_3, q_4, qf⟩ := lw_cells5 q1
      go_simp
      clear q_0 q_1 q_2 q_3 q_4 qf
      replace q0 := lw_far5 (b := Y0.heap.size) q0 (.bool sw) (.bool se) (.int .u64 sl) (.int .u64 sh) (.slice p8 XS.length c8) (by first | assumption | exact Ne.symm (by assumption))
      replace t7 := t7.far5 f0_1 (.bool sw) (.bool se) (.int .u64 sl) (.int .u64 sh) (.slice p8 XS.length c8)
      replace t8 := t8.far5 f1_1 (.bool sw) (.bool se) (.int .u64 sl) (.int .u64 sh) (.slice p8 XS.length c8)
      replace q1 := lw_set5 q1 (.bool sw) (.bool se) (.int .u64 sl) (.int .u64 sh) (.slice p8 XS.length c8)
      replace cc := lw_sp5 (b := Y0.heap.size) cc zz1 (.bool sw) (.bool se) (.int .u64 sl) (.int .u64 sh) (.slice p8 XS.length c8)
      rw [show (((((Y52.setCell ⟨Y0.heap.size, 0, none⟩ (.bool sw)).setCell ⟨Y0.heap.size, 1, none⟩ (.bool se)).setCell ⟨Y0.heap.size, 2, none⟩ (.int .u64 sl)).setCell ⟨Y0.heap.size, 3, none⟩ (.int .u64 sh)).setCell ⟨Y0.heap.size, 4, none⟩ (.slice p8 XS.length c8)) = set5 Y52 Y0.heap.size (.bool sw) (.bool se) (.int .u64 sl) (.int .u64 sh) (.slice p8 XS.length c8) from rfl]
      generalize hY : set5 Y52 Y0.heap.size (.bool sw) (.bool se) (.int .u64 sl) (.int .u64 sh) (.slice p8 XS.length c8) = Y53 at *
      clear hY
      refine hK.out _ _ (hall _ cc) (fun hH => ?_)
      clear hK K
      try simp only [Act.put, gA, gB, gC, gD, gE, gG]
      refine wpAnyH_done (by kernel_rfl) ?_ _
      go_wp2_with fail
      go_meet
      exact ⟨_, Y45.heap.size, Y0.heap.size, p7, c7, p8, c8, rfl, rfl, rfl, q0, q1, t7, t8, cc⟩
    ·skip
     go_simp
     have zz0 := cc.size
     have ne0_1 : Y0.heap.size ≠ Y44.heap.size := Nat.ne_of_lt (lw_lt q1)
     replace q1 := lw_old q1 (.cells #[.bool false, .bool false, .int .u64 0, .int .u64 0, .slice none 0 0] 31)
     have q0 := World.alloc_heap_new Y44 (.cells #[.bool false, .bool false, .int .u64 0, .int .u64 0, .slice none 0 0] 31)
     replace cc := sp_new cc (.cells #[.bool false, .bool false, .int .u64 0, .int .u64 0, .slice none 0 0] 31)
     generalize hY : Y44.alloc (.cells #[.bool false, .bool false, .int .u64 0, .int .u64 0, .slice none 0 0] 31) = Y54 at *
     clear hY
     refine hK.out _ _ (hall _ cc) (fun hH => ?_)
     clear hK K
     try simp only [Act.put, gA, gB, gC, gD, gE, gG]
     refine wpAnyH_ready (rs := [2]) (by kernel_rfl) (by simp) (AllReadyH.cons (o := _) rfl (fun K hK => ?_) AllReadyH.nil)
     go_simp
     refine (k1 _ _ _ (t5.on cc) (t6.on cc)).mono ?_
     rintro e Y55 ⟨⟨v, rfl, t7, u7⟩, g⟩
     obtain ⟨p7, c7, rfl⟩ := t7.len
     replace cc := sp_call cc g
     have f0_0 := far_up u7 (lw_lt q0)
     replace q0 := lw_on g q0
     have f0_1 := far_up u7 (lw_lt q1)
     replace q1 := lw_on g q1
     clear g
     go_wp2_with fail
     refine hK.out _ _ (hall _ cc) (fun hH => ?_)
     clear hK K
     try simp only [Act.put, gA, gB, gC, gD, gE, gG]
     refine wpAnyH_ready (rs := [5]) (by kernel_rfl) (by simp) (AllReadyH.cons (o := _) rfl (fun K hK => ?_) AllReadyH.nil)
     go_simp
     refine (k2 _ _ _ (t6.on cc) (t5.on cc)).mono ?_
     rintro e Y56 ⟨⟨v, rfl, t8, u8⟩, g⟩
     obtain ⟨p8, c8, rfl⟩ := t8.len
     replace cc := sp_call cc g
     have f1_0 := far_up u8 (lw_lt q0)
     replace q0 := lw_on g q0
     have f1_1 := far_up u8 (lw_lt q1)
     replace q1 := lw_on g q1
     replace t7 := t7.on g
     clear g
     go_wp2_with fail
     refine hK.out _ _ (hall _ cc) (fun hH => ?_)
     clear hK K
     try simp only [Act.put, gA, gB, gC, gD, gE, gG]
     refine wpAnyH_ready (rs := [8]) (by kernel_rfl) (by simp) (AllReadyH.cons (o := _) rfl (fun K hK => ?_) AllReadyH.nil)
     obtain ⟨q_0, q_1, q_2, q_3, q_4, qf⟩ := lw_cells5 q0
     go_simp
     clear q_0 q_1 q_2 q_3 q_4 qf
     replace q1 := lw_far5 (b := Y44.heap.size) q1 (.bool sw) (.bool se) (.int .u64 sl) (.int .u64 sh) (.slice p7 XS.length c7) (by first | assumption | exact Ne.symm (by assumption))
     replace t7 := t7.far5 f0_0 (.bool sw) (.bool se) (.int .u64 sl) (.int .u64 sh) (.slice p7 XS.length c7)
     replace t8 := t8.far5 f1_0 (.bool sw) (.bool se) (.int .u64 sl) (.int .u64 sh) (.slice p7 XS.length c7)
     replace q0 := lw_set5 q0 (.bool sw) (.bool se) (.int .u64 sl) (.int .u64 sh) (.slice p7 XS.length c7)
     replace cc := lw_sp5 (b := Y44.heap.size) cc zz0 (.bool sw) (.bool se) (.int .u64 sl) (.int .u64 sh) (.slice p7 XS.length c7)
     rw [show (((((Y56.setCell ⟨Y44.heap.size, 0, none⟩ (.bool sw)).setCell ⟨Y44.heap.size, 1, none⟩ (.bool se)).setCell ⟨Y44.heap.size, 2, none⟩ (.int .u64 sl)).setCell ⟨Y44.heap.size, 3, none⟩ (.int .u64 sh)).setCell ⟨Y44.heap.size, 4, none⟩ (.slice p7 XS.length c7)) = set5 Y56 Y44.heap.size (.bool sw) (.bool se) (.int .u64 sl) (.int .u64 sh) (.slice p7 XS.length c7) from rfl]
     generalize hY : set5 Y56 Y44.heap.size (.bool sw) (.bool se) (.int .u64 sl) (.int .u64 sh) (.slice p7 XS.length c7) = Y57 at *
     clear hY
     refine hK.out _ _ (hall _ cc) (fun hH => ?_)
     clear hK K
     try simp only [Act.put, gA, gB, gC, gD, gE, gG]
     refine wpAnyH_ready (rs := [9]) (by kernel_rfl) (by simp) (AllReadyH.cons (o := _) rfl (fun K hK => ?_) AllReadyH.nil)
     obtain ⟨q_0, q_1, q_2, q_3, q_4, qf⟩ := lw_cells5 q1
     go_simp
     clear q_0 q_1 q_2 q_3 q_4 qf
     replace q0 := lw_far5 (b := Y0.heap.size) q0 (.bool sw) (.bool se) (.int .u64 sl) (.int .u64 sh) (.slice p8 XS.length c8) (by first | assumption | exact Ne.symm (by assumption))
     replace t7 := t7.far5 f0_1 (.bool sw) (.bool se) (.int .u64 sl) (.int .u64 sh) (.slice p8 XS.length c8)
     replace t8 := t8.far5 f1_1 (.bool sw) (.bool se) (.int .u64 sl) (.int .u64 sh) (.slice p8 XS.length c8)
     replace q1 := lw_set5 q1 (.bool sw) (.bool se) (.int .u64 sl) (.int .u64 sh) (.slice p8 XS.length c8)
     replace cc := lw_sp5 (b := Y0.heap.size) cc zz1 (.bool sw) (.bool se) (.int .u64 sl) (.int .u64 sh) (.slice p8 XS.length c8)
     rw [show (((((Y57.setCell ⟨Y0.heap.size, 0, none⟩ (.bool sw)).setCell ⟨Y0.heap.size, 1, none⟩ (.bool se)).setCell ⟨Y0.heap.size, 2, none⟩ (.int .u64 sl)).setCell ⟨Y0.heap.size, 3, none⟩ (.int .u64 sh)).setCell ⟨Y0.heap.size, 4, none⟩ (.slice p8 XS.length c8)) = set5 Y57 Y0.heap.size (.bool sw) (.bool se) (.int .u64 sl) (.int .u64 sh) (.slice p8 XS.length c8) from rfl]
     generalize hY : set5 Y57 Y0.heap.size (.bool sw) (.bool se) (.int .u64 sl) (.int .u64 sh) (.slice p8 XS.length c8) = Y58 at *
     clear hY
     refine hK.out _ _ (hall _ cc) (fun hH => ?_)
     clear hK K
     try simp only [Act.put, gA, gB, gC, gD, gE, gG]
     refine wpAnyH_done (by kernel_rfl) ?_ _
     go_wp2_with fail
     go_meet
     exact ⟨_, Y44.heap.size, Y0.heap.size, p7, c7, p8, c8, rfl, rfl, rfl, q0, q1, t7, t8, cc⟩
  case rest =>
   obtain ⟨W2, b7, b8, p7, c7, p8, c8, rfl, rfl, rfl, q7, q8, t7, t8, cX⟩ := hcut
   replace bW := sp_call bW cX
   replace x0 := sO cX x0; replace x1 := sO cX x1; replace x2 := sO cX x2; replace x3 := sO cX x3; replace x4 := sO cX x4
   replace t5 := t5.on cX
   clear cX cc y0 y1 y2 y3 y4 k1 k2 t6
   obtain ⟨s0, s1, s2, s3, s4, _⟩ := lw_cells5 q7
   obtain ⟨r0, r1, r2, r3, r4, _⟩ := lw_cells5 q8
   clear q7 q8
   go_upto_region 4 with (first
     | (go_at_call 31; (with_reducible refine (k3 _ _ _ t5 t5).mono ?_); rintro e v3 ⟨⟨v, rfl, t9, u9⟩, g⟩; obtain ⟨p9, c9, rfl⟩ := t9.len; replace x0 := sO g x0; replace x1 := sO g x1; replace x2 := sO g x2; replace x3 := sO g x3; replace x4 := sO g x4; replace s0 := sO g s0; replace s1 := sO g s1; replace s2 := sO g s2; replace s3 := sO g s3; replace s4 := sO g s4; replace r0 := sO g r0; replace r1 := sO g r1; replace r2 := sO g r2; replace r3 := sO g r3; replace r4 := sO g r4; replace t7 := t7.on g; replace t8 := t8.on g; replace bW := sp_call bW g; clear g)
     | fail)
   obtain ⟨U, hU⟩ : ∃ U, v3.alloc (.cells #[.bool dw, .bool de, .int .u64 dl, .int .u64 dh, .slice p9 XD.length c9] 31) = U := ⟨_, rfl⟩
   have gU : Below v3.heap.size v3 U := by rw [← hU]; exact sp_new (Below.refl _ _) _
   have m0 : U.cell? ⟨v3.heap.size, 0, none⟩ = some (.bool dw) := by rw [← hU]; simp [go_sem]
   have m1 : U.cell? ⟨v3.heap.size, 1, none⟩ = some (.bool de) := by rw [← hU]; simp [go_sem]
   have m2 : U.cell? ⟨v3.heap.size, 2, none⟩ = some (.int .u64 dl) := by rw [← hU]; simp [go_sem]
   have m3 : U.cell? ⟨v3.heap.size, 3, none⟩ = some (.int .u64 dh) := by rw [← hU]; simp [go_sem]
   replace s0 := sO gU s0; replace s1 := sO gU s1; replace s2 := sO gU s2; replace s3 := sO gU s3; replace s4 := sO gU s4; replace r0 := sO gU r0; replace r1 := sO gU r1; replace r2 := sO gU r2; replace r3 := sO gU r3; replace r4 := sO gU r4
   replace t7 := t7.on gU
   replace t8 := t8.on gU
   replace bW := sp_call bW gU
   rw [hU]
   clear hU gU x0 x1 x2 x3 x4 t5 t9 u9 k3
   cases dw
   · replace kh := kh rfl
     go_wp2_with (first
       | (go_at_call 17; (with_reducible refine (kl _).mono ?_); rintro e u1 ⟨rfl, g⟩; replace s0 := sO g s0; replace s1 := sO g s1; replace s2 := sO g s2; replace s3 := sO g s3; replace s4 := sO g s4; replace r0 := sO g r0; replace r1 := sO g r1; replace r2 := sO g r2; replace r3 := sO g r3; replace r4 := sO g r4; replace m0 := sO g m0; replace m1 := sO g m1; replace m2 := sO g m2; replace m3 := sO g m3; replace t7 := t7.on g; replace t8 := t8.on g; replace bW := sp_call bW g; clear g)
       | (go_at_call 27; (with_reducible refine (ks _ _ _ t7 t8).mono ?_); rintro e u2 ⟨rfl, g⟩; replace m0 := sO g m0; replace m1 := sO g m1; replace m2 := sO g m2; replace m3 := sO g m3; replace bW := sp_call bW g; clear g)
       | (go_at_call 41; (with_reducible refine (kh _).mono ?_); rintro e u3 ⟨rfl, g⟩; replace bW := sp_call bW g; clear g)
       | fail)
     go_ret
     exact ⟨rfl, bW⟩
   · clear kh
     go_wp2_with (first
       | (go_at_call 17; (with_reducible refine (kl _).mono ?_); rintro e u1 ⟨rfl, g⟩; replace s0 := sO g s0; replace s1 := sO g s1; replace s2 := sO g s2; replace s3 := sO g s3; replace s4 := sO g s4; replace r0 := sO g r0; replace r1 := sO g r1; replace r2 := sO g r2; replace r3 := sO g r3; replace r4 := sO g r4; replace m0 := sO g m0; replace m1 := sO g m1; replace m2 := sO g m2; replace m3 := sO g m3; replace t7 := t7.on g; replace t8 := t8.on g; replace bW := sp_call bW g; clear g)
       | (go_at_call 27; (with_reducible refine (ks _ _ _ t7 t8).mono ?_); rintro e u2 ⟨rfl, g⟩; replace m0 := sO g m0; replace m1 := sO g m1; replace m2 := sO g m2; replace m3 := sO g m3; replace bW := sp_call bW g; clear g)
       | fail)
     go_ret
     exact ⟨rfl, bW⟩
end Go.Proofs.YteafnkimcidkhaaGreat


