/- expression. -/
import Derived.Test.YtknoibocpbfmmaaGreatDoorWPaL
namespace Go.Proofs.YtknoibocpbfmmaaGreatDoor
open Go.RowKit
set_option linter.unusedVariables false
set_option linter.unusedSimpArgs false
/-- A new row of two expressions. -/
theorem slf_two {V : World} {S : Nat → Prop} {c q : Nat} {s s' : Value} {e f : Ex} (hs : SlF V S s e.ks) (hs' : SlF V S s' f.ks) (hc : V.heap.size = c) (hS : S c) : SlF (V.alloc (.cells #[.int .i64 e.op, .string e.tx, .int .i64 e.ty, s, .int .i64 f.op, .string f.tx, .int .i64 f.ty, s'] 85)) S (.slice (some ⟨c, 0, none⟩) 2 q) (e.row (f.row .nil)) := by
 subst hc
 have g := pb_new (Below.refl V.heap.size V) (.cells #[.int .i64 e.op, .string e.tx, .int .i64 e.ty, s, .int .i64 f.op, .string f.tx, .int .i64 f.ty, s'] 85)
 have k := hs.kp (Below.kp g S)
 have k' := hs'.kp (Below.kp g S)
 have q2 := World.alloc_heap_new V (.cells #[.int .i64 e.op, .string e.tx, .int .i64 e.ty, s, .int .i64 f.op, .string f.tx, .int .i64 f.ty, s'] 85)
 exact SlF.two hS ⟨by unfold World.cell?; rw [q2]; rfl, by unfold World.cell?; rw [q2]; rfl, by unfold World.cell?; rw [q2]; rfl, s, by unfold World.cell?; rw [q2]; rfl, k⟩ ⟨by unfold World.cell?; rw [q2]; rfl, by unfold World.cell?; rw [q2]; rfl, by unfold World.cell?; rw [q2]; rfl, s', by unfold World.cell?; rw [q2]; rfl, k'⟩
theorem at_set {V : World} {c : Nat} {cs : Array Value} {t : TypeId} {z : Nat × Nat} (q : V.heap[c]? = some (.cells cs t z)) (j : Nat) (x : Value) : (V.setCell ⟨c, j, none⟩ x).heap[c]? = some (.cells (cs.setIfInBounds j x) t z) := by
 simp [World.setCell, Array.getElem?_modify, q]
theorem set4_at {V : World} {c : Nat} {a0 a1 a2 a3 : Value} {t : TypeId} {z : Nat × Nat} (q : V.heap[c]? = some (.cells #[a0, a1, a2, a3] t z)) (y0 y1 y2 y3 : Value) : ((((V.setCell ⟨c, 0, none⟩ y0).setCell ⟨c, 1, none⟩ y1).setCell ⟨c, 2, none⟩ y2).setCell ⟨c, 3, none⟩ y3).heap[c]? = some (.cells #[y0, y1, y2, y3] t z) := by
 have h := at_set (at_set (at_set (at_set q 0 y0) 1 y1) 2 y2) 3 y3
 simpa using h
theorem set4_far (V : World) (c k : Nat) (h : k ≠ c) (y0 y1 y2 y3 : Value) : ((((V.setCell ⟨c, 0, none⟩ y0).setCell ⟨c, 1, none⟩ y1).setCell ⟨c, 2, none⟩ y2).setCell ⟨c, 3, none⟩ y3).heap[k]? = V.heap[k]? := by
 rw [Below.heap_setCell _ _ _ _ (by exact h), Below.heap_setCell _ _ _ _ (by exact h), Below.heap_setCell _ _ _ _ (by exact h), Below.heap_setCell _ _ _ _ (by exact h)]
theorem Sit.set4 {b B p : Nat} {w V : World} {ts : List Tk} {o d : Int} (h : Sit b B p w V ts o d) {c : Nat} (zc : w.heap.size ≤ c) (pc : p ≠ c) (cb : c ≠ b) (cB : c ≠ B) (y0 y1 y2 y3 : Value) : Sit b B p w ((((V.setCell ⟨c, 0, none⟩ y0).setCell ⟨c, 1, none⟩ y1).setCell ⟨c, 2, none⟩ y2).setCell ⟨c, 3, none⟩ y3) ts o d := by
 refine ⟨(((h.on.setNew zc _).setNew zc _).setNew zc _).setNew zc _, (set4_far V c p pc y0 y1 y2 y3).trans h.q, (((h.P.far cb cB _).far cb cB _).far cb cB _).far cb cB _, fun j v e => ?_, h.zp, h.pb, h.pB, h.hG, h.bl⟩
 have ne : c ≠ 0 := by have := h.bl; have := h.hG; have := h.zp; omega
 exact (cell_of_heap (set4_far V c 0 (fun e => ne e.symm) y0 y1 y2 y3)).trans (h.O j v e)
/-- How many tokens a parser has left, as memory tells. -/
def msR (b : Nat) (V : World) : Nat := match V.cell? ⟨b, 0, none⟩ with
 | some (.slice _ n _) => n
 | _ => 0
theorem PAt.ms {W : World} {b B : Nat} {ts : List Tk} {o d : Int} (h : PAt W b B ts o d) : msR b W = ts.length := by
 obtain ⟨f, q, h1, _⟩ := h.tk
 unfold msR
 rw [h1]
theorem op_bd (s : ByteArray) : 0 ≤ (opOf s).2 ∧ (opOf s).2 ≤ 4 := by
 by_cases h : ∃ (j : Nat) (x : Int × ByteArray × Int), opT[j]? = some x ∧ x.2.1 = s
 ·obtain ⟨j, ⟨a, t, l⟩, h1, rfl⟩ := h
  rw [op_yes h1]
  have : ∀ x ∈ opT, 0 ≤ x.2.2 ∧ x.2.2 ≤ 4 := by decide
  exact this _ (List.mem_of_getElem? h1)
 ·rw [op_no (fun j x h1 h2 => h ⟨j, x, h1, h2⟩)]
  exact ⟨by decide, by decide⟩
/-- All that a tree reaches is there. -/
theorem FoAt.lt {S : Nat → Prop} {W : World} : ∀ {f : Fo} {c o : Nat}, FoAt W S f c o → FoAt W (fun k => S k ∧ k < W.heap.size) f c o
 | .nil, _, _, _ => trivial
 | .cons op tx ty ks r, c, o, k => by
  obtain ⟨k0, k1, k2, k3, ⟨p, q, k4, k5⟩, k6⟩ := k
  refine ⟨⟨k0, World.block_lt_of_cell? W _ k1⟩, k1, k2, k3, ⟨p, q, k4, ?_⟩, FoAt.lt k6⟩
  rcases k5 with k5 | ⟨d, u, e, k5⟩
  ·exact Or.inl k5
  ·exact Or.inr ⟨d, u, e, FoAt.lt k5⟩
theorem SlF.lt {S : Nat → Prop} {W : World} {v : Value} {f : Fo} (h : SlF W S v f) : SlF W (fun k => S k ∧ k < W.heap.size) v f := by
 obtain ⟨p, q, e, k⟩ := h
 refine ⟨p, q, e, ?_⟩
 rcases k with k | ⟨d, u, e', k⟩
 ·exact Or.inl k
 ·exact Or.inr ⟨d, u, e', k.lt⟩
/-- Between two rounds of expression. -/
structure ExI (b B p c5 : Nat) (w V : World) (n : Nat) (lv o : Int) (R : Rs Ex) (us : List Tk) (l : Ex) (pl : Option Addr) (ql : Nat) (d : Int) : Prop where
 S : Sit b B p w V us o d
 q5 : V.heap[c5]? = some (.cells #[.int .i64 l.op, .string l.tx, .int .i64 l.ty, .slice pl l.ks.len ql] 85 (0, 0))
 k5 : SlF V (fun k => w.heap.size ≤ k ∧ k ≠ p ∧ k ≠ c5) (.slice pl l.ks.len ql) l.ks
 hR : ∃ k, k ≤ n ∧ R = lP k lv o l us d
 z : Tz us
 oM : o + us.length ≤ 1000000
set_option maxRecDepth 100000 in
set_option maxHeartbeats 1600000 in
theorem step_E (n : Nat) (ihS : SpS n) (ihE : ∀ k, k ≤ n → SpE k) : SpE (n + 1) := by
 intro lv o ts d z o0 oM lv0 lv1 nm b B w hO0 hG h
 have hne := z.ne
 obtain ⟨R, hR⟩ : ∃ R, eP (n + 1) lv o ts d = R := ⟨_, rfl⟩
 rw [hR]
 rw [hR] at nm
 rw [eP] at hR
 cases hr : sP n o ts d with
 | more => rw [Rs.thn_more hr] at hR; exact absurd hR.symm nm
 | bad pl =>
  rw [Rs.thn_bad hr] at hR
  have kX := ihS o ts d z o0 oM (by rw [hr]; simp) b B
  rw [hr] at kX
  have e0 : Hid (R = .bad pl) := hR.symm
  clear hR hr nm z ihS ihE oM
  have hlt := h.lt
  have hltB := h.ltB hne
  go_enter Tryz.func98, Tryz.ntmps98
  go_upto_region 1 with fail
  obtain ⟨W, hW⟩ : ∃ W, w.alloc (.cells #[.int .i64 0, .string ⟨#[]⟩, .int .i64 0, .slice none 0 0] 85) = W := ⟨_, rfl⟩
  obtain ⟨p, hp⟩ : ∃ p, w.heap.size = p := ⟨_, rfl⟩
  have hS : Sit b B p w W ts o d := by
   have gW : Below w.heap.size w W := by rw [← hW]; exact pb_new (Below.refl _ _) _
   refine ⟨(Onl.refl b w).below gW, ?_, h.bel hne gW, hO0.bel gW, Nat.le_of_eq hp, by omega, by omega, hG, hlt⟩
   rw [← hW, ← hp]; exact World.alloc_heap_new w _
  rw [hW]
  (try rw [hp])
  clear hW h hO0 hp hlt hltB
  go_wp2_with (first
   | (go_at_call 113; (refine (kX _ hS.O hS.hG hS.P).mono ?_); rintro e v2 ⟨on2, rfl⟩; replace hS := hS.on.trans on2)
   | fail)
  refine ⟨rfl, ?_⟩
  rw [e0.out]
  exact ⟨hS, rfl⟩
 | ok x1 us1 d1 =>
  rw [Rs.thn_ok hr] at hR
  have kX := ihS o ts d z o0 oM (by rw [hr]; simp) b B
  have z1 : Lt ts us1 := by have := (ex_sat n).2.2.1 o ts d z; rw [hr] at this; exact this
  have ne1 := z1.1.ne
  rw [hr] at kX
  have oM1 : o + us1.length ≤ 1000000 := by have := z1.2; omega
  have zz := z1.1
  clear hr ihS oM z1 z
  have hlt := h.lt
  have hltB := h.ltB hne
  go_enter Tryz.func98, Tryz.ntmps98
  go_upto_region 1 with fail
  obtain ⟨W, hW⟩ : ∃ W, w.alloc (.cells #[.int .i64 0, .string ⟨#[]⟩, .int .i64 0, .slice none 0 0] 85) = W := ⟨_, rfl⟩
  obtain ⟨p, hp⟩ : ∃ p, w.heap.size = p := ⟨_, rfl⟩
  have hS : Sit b B p w W ts o d := by
   have gW : Below w.heap.size w W := by rw [← hW]; exact pb_new (Below.refl _ _) _
   refine ⟨(Onl.refl b w).below gW, ?_, h.bel hne gW, hO0.bel gW, Nat.le_of_eq hp, by omega, by omega, hG, hlt⟩
   rw [← hW, ← hp]; exact World.alloc_heap_new w _
  rw [hW]
  (try rw [hp])
  clear hW h hO0 hp hlt hltB
  go_upto_region 2 with (first
   | (go_at_call 113; (refine (kX _ hS.O hS.hG hS.P).mono ?_); rintro e v2 ⟨on2, pp2, qq2, rfl, k2, hP2⟩; replace k2 := k2.lo (lo' := (fun k => w.heap.size ≤ k ∧ k ≠ p)) (hS.fr); replace hS := hS.onl on2 hP2)
   | fail)
  replace k2 := k2.lt
  obtain ⟨V3, hV3⟩ : ∃ V, v2.alloc (.cells #[.int .i64 x1.op, .string x1.tx, .int .i64 x1.ty, .slice pp2 x1.ks.len qq2] 85) = V := ⟨_, rfl⟩
  obtain ⟨c5, hc5⟩ : ∃ c, v2.heap.size = c := ⟨_, rfl⟩
  have qc5 : V3.heap[c5]? = some (.cells #[.int .i64 x1.op, .string x1.tx, .int .i64 x1.ty, .slice pp2 x1.ks.len qq2] 85 (0, 0)) := by rw [← hV3, ← hc5]; exact World.alloc_heap_new _ _
  have lc5 : p < c5 := by rw [← hc5]; exact hS.pl
  have bc5 : c5 ≠ b := by have := hS.P.lt; omega
  have Bc5 : c5 ≠ B := by have := hS.P.ltB ne1; omega
  replace hS := hS.new ne1 (.cells #[.int .i64 x1.op, .string x1.tx, .int .i64 x1.ty, .slice pp2 x1.ks.len qq2] 85)
  replace k2 := k2.kp (Below.kp (pb_new (Below.refl v2.heap.size v2) (.cells #[.int .i64 x1.op, .string x1.tx, .int .i64 x1.ty, .slice pp2 x1.ks.len qq2] 85)) _)
  rw [hV3] at hS k2
  rw [hV3]
  (try rw [hc5])
  have ec5 : Hid (v2.heap.size = c5) := hc5
  clear hV3 hc5
  replace k2 := k2.lo (lo' := (fun k => w.heap.size ≤ k ∧ k ≠ p ∧ k ≠ c5)) (fun k a => ⟨a.1.1, a.1.2, by have := a.2; have := ec5.out; omega⟩)
  have hI : ExI b B p c5 w V3 n lv o R us1 x1 pp2 qq2 d1 := by
   exact ⟨hS, qc5, k2, ⟨n, Nat.le_refl _, hR.symm⟩, zz, oM1⟩
  have pc5 : p ≠ c5 := by omega
  have w5 : w.heap.size ≤ c5 := by have := hS.zp; omega
  have bl5 := hS.bl
  clear hS k2 qc5 hR
  go_loopw [] (fun wr => ∃ (V : World) (us : List Tk) (l : Ex) (pl : Option Addr) (ql : Nat) (d' : Int), V = wr ∧ Hid (ExI b B p c5 w V n lv o R us l pl ql d')) (fun wr => msR b wr)
  case atStart => exact ⟨V3, us1, x1, pp2, qq2, d1, rfl, hI⟩
  case round =>
   clear hI
   obtain ⟨V, us, l, pl, ql, d', rfl, hI⟩ := hrel
   obtain ⟨t, us', rfl⟩ := hI.out.z.cons
   have hne' : t :: us' ≠ [] := by simp
   obtain ⟨k, hk, hR⟩ := hI.out.hR
   cases k with
   | zero => rw [lP] at hR; exact absurd hR nm
   | succ k =>
    rw [lP] at hR
    have bd := op_bd t.2.1
    have hS := hI.out.S
    have lf1 := lxf1
    have hO1 := hS.O
    go_upto_region 3 with (first
     | (go_at_call 60; (with_reducible refine (pnext b B t us' o d' _ hS.P).mono ?_); rintro e v1 ⟨rfl, g1⟩; have hO2 := hO1.bel g1)
     | (go_at_call 114; (with_reducible refine (popOf t.2.1 _ hO2).mono ?_); rintro e v2 ⟨⟨x, rfl, hx⟩, g2⟩)
     | fail)
    have hx' : Hid ((opOf t.2.1).1 ≠ 0 → x = t.2.1) := hx
    clear hx
    have hS2 := (hS.bel hne' g1).bel hne' g2
    have q5 := (g2.block c5 (by have := lt_of hI.out.q5; have := g1.size; omega)).trans ((g1.block c5 (lt_of hI.out.q5)).trans hI.out.q5)
    have k5 := (hI.out.k5.kp (Below.kp g1 _)).kp (Below.kp g2 _)
    clear hS g1 g2 hO1 hO2
    obtain ⟨OP, hOP⟩ : ∃ OP, (opOf t.2.1).1 = OP := ⟨_, rfl⟩
    obtain ⟨LV, hLV⟩ : ∃ LV, (opOf t.2.1).2 = LV := ⟨_, rfl⟩
    obtain ⟨V2, hV2⟩ : ∃ V2, v2.alloc (.cells #[.int .i64 (opOf t.2.1).1, .string x, .int .i64 (opOf t.2.1).2] 133) = V2 := ⟨_, rfl⟩
    obtain ⟨c6, h6⟩ : ∃ c, v2.heap.size = c := ⟨_, rfl⟩
    have q6 : V2.heap[c6]? = some (.cells #[.int .i64 (opOf t.2.1).1, .string x, .int .i64 (opOf t.2.1).2] 133 (0, 0)) := by rw [← hV2, ← h6]; exact World.alloc_heap_new _ _
    have gN : Below v2.heap.size v2 V2 := by rw [← hV2]; exact pb_new (Below.refl _ _) _
    have n65 : c6 ≠ c5 := by have := lt_of q5; omega
    have n6p : c6 ≠ p := by have := hS2.pl; omega
    have n6b : c6 ≠ b := by have := hS2.P.lt; omega
    have hS := hS2.bel hne' gN
    replace k5 := k5.kp (Below.kp gN _)
    replace q5 := (gN.block c5 (lt_of q5)).trans q5
    rw [hV2]
    (try rw [h6])
    have hOP' : Hid ((opOf t.2.1).1 = OP) := hOP
    have hLV' : Hid ((opOf t.2.1).2 = LV) := hLV
    rw [hOP, hLV]
    rw [hOP, hLV] at q6
    rw [hLV] at bd
    clear hV2 h6 gN hS2
    obtain ⟨x0_, x1_, x2_, x3_, x4_⟩ := ex_cells q5
    obtain ⟨y0_, y1_, y2_⟩ : V2.cell? ⟨c6, 0, none⟩ = some (.int .i64 OP) ∧ V2.cell? ⟨c6, 1, none⟩ = some (.string x) ∧ V2.cell? ⟨c6, 2, none⟩ = some (.int .i64 LV) := ⟨by simp [World.cell?, q6], by simp [World.cell?, q6], by simp [World.cell?, q6]⟩
    by_cases stop : OP = 0 ∨ LV < lv
    ·have e0 : Hid (R = .ok l (t :: us') d') := by
      have h9 : R = .ok l (t :: us') d' := by
       rw [hR]
       refine if_pos ?_
       show (opOf t.2.1).1 = 0 ∨ (opOf t.2.1).2 < lv
       rw [hOP'.out, hLV'.out]; exact stop
      exact h9
     obtain ⟨f0, f1, f2, f3, ff⟩ := ex_cells hS.q
     have k2 := k5.lo (lo' := (fun k => w.heap.size ≤ k ∧ k ≠ p)) (fun k a => ⟨a.1, a.2.1⟩)
     have pp2 := pl
     clear hR hI hOP hLV hx'
     by_cases st : OP = 0
     ·subst st
      go_wp2_with fail
      exact bodyPost_ret (v := .agg #[.int .i64 l.op, .string l.tx, .int .i64 l.ty, .slice pl l.ks.len ql]) (by simp [results, Tryz.results98, go_sem, f0, f1, f2, f3]) rfl (ex_done hS (x := l) rfl k2 (fun k a => a.1) (fun a => a.2 rfl) rfl e0.out _ _ _ _)
     ·have st' : (OP == 0) = false := by rw [beq_eq_false_iff_ne]; exact st
      have lt' : LV < lv := by omega
      go_wp2_with fail
      exact bodyPost_ret (v := .agg #[.int .i64 l.op, .string l.tx, .int .i64 l.ty, .slice pl l.ks.len ql]) (by simp [results, Tryz.results98, go_sem, f0, f1, f2, f3]) rfl (ex_done hS (x := l) rfl k2 (fun k a => a.1) (fun a => a.2 rfl) rfl e0.out _ _ _ _)
    ·have st : ¬ OP = 0 := fun e => stop (Or.inl e)
     have st' : (OP == 0) = false := by rw [beq_eq_false_iff_ne]; exact st
     have lt' : ¬ LV < lv := fun e => stop (Or.inr e)
     have hR2 : Hid (R = (eP k (LV + 1) o us' d').thn fun r us d => lP k lv o (over2 OP l r) us d) := by
      rw [hR, if_neg]
      ·show ((eP k ((opOf t.2.1).2 + 1) o us' d').thn fun r us d => lP k lv o (over2 (opOf t.2.1).1 l r) us d) = _
       rw [hOP'.out, hLV'.out]
      ·show ¬ ((opOf t.2.1).1 = 0 ∨ (opOf t.2.1).2 < lv)
       rw [hOP'.out, hLV'.out]; exact stop
     obtain rfl : x = t.2.1 := hx'.out (by rw [hOP'.out]; exact st)
     have zu : Tz us' := (hI.out.z.tail (Or.inr (op_ne (by show (opOf t.2.1).1 ≠ 0; rw [hOP'.out]; exact st)))).1
     have u0 := zu.ne
     have oM' : o + us'.length ≤ 1000000 := by have := hI.out.oM; simp at this; omega
     have msV : Hid (msR b V = us'.length + 1) := hI.out.S.P.ms
     clear hR hI hOP hLV hx' stop hOP' hLV'
     go_upto_region 5 with fail
     go_region_with (first
      | (go_at_call 80; (with_reducible refine (pwant_yes b B t us' o d' u0 _ hS.drew.P).mono ?_); rintro e v3 ⟨rfl, hP3, on3⟩)
      | fail)
     have hS3 := hS.drew.onl on3 hP3
     have l5 := lt_of q5
     have l6 := lt_of q6
     replace q5 : v3.heap[c5]? = _ := (on3.block c5 l5 bc5).trans q5
     replace q6 : v3.heap[c6]? = _ := (on3.block c6 l6 n6b).trans q6
     replace k5 : SlF v3 (fun k => w.heap.size ≤ k ∧ k ≠ p ∧ k ≠ c5) (.slice pl l.ks.len ql) l.ks := (SlF.kp (W := V2) (V := V2.drew) (fun _ _ _ => rfl) k5).kp (on3.kp (fun a => by have := hS3.bl; omega))
     clear hS hP3 on3 x0_ x1_ x2_ x3_ x4_ y0_ y1_ y2_ l5 l6
     go_upto_region 6 with fail
     have hall : ∀ X9 : World, X9.heap[c6]? = some (.cells #[.int .i64 OP, .string t.2.1, .int .i64 LV] 133 (0, 0)) → (X9.cell? ⟨c6, 0, none⟩ = some (.int .i64 OP) ∧ X9.cell? ⟨c6, 2, none⟩ = some (.int .i64 LV)) := fun X9 h6 => ⟨by simp [World.cell?, h6], by simp [World.cell?, h6]⟩
     have wl : IntKind.i64.wrap (LV + 1) = LV + 1 := by rw [IntKind.wrap_i64]; omega
     have kE0 := ihE k (by omega) (LV + 1) o us' d' zu o0 oM' (by omega) (by omega)
     cases hr : eP k (LV + 1) o us' d' with
     | more =>
      have h9 := hR2.out
      rw [Rs.thn_more hr] at h9
      exact absurd h9 nm
     | bad pl9 =>
      have kX9 := kE0 (by rw [hr]; simp) b B
      rw [hr] at kX9
      have e0 : Hid (R = .bad pl9) := by have h9 := hR2.out; rw [Rs.thn_bad hr] at h9; exact h9
      clear hR2 hr kE0 kX
      refine wp_region_held_drew (S := (fun w' => (w'.cell? ⟨c6, 0, none⟩ = some (.int .i64 OP) ∧ w'.cell? ⟨c6, 2, none⟩ = some (.int .i64 LV)))) (by kernel_rfl) (hall _ q6) (fun hH => ?_)
      refine wpAnyH_take (i := 0) (oi := _) (v := .pointer (some ⟨c6, 0, none⟩)) rfl (by kernel_rfl) (by kernel_rfl) (by kernel_rfl) (fun _ _ _ h => h) (Or.inl ⟨by rfl, fun w' hSw => by obtain ⟨z0_, z2_⟩ := hSw; go_simp⟩) hH ?_
      simp only [Act.put, List.getElem_toArray, List.getElem_cons_zero, List.getElem_cons_succ, List.setIfInBounds_toArray, List.set_cons_zero, List.set_cons_succ]
      refine wpAnyH_take (i := 1) (oi := _) (v := .int .i64 OP) rfl (by kernel_rfl) (by kernel_rfl) (by kernel_rfl) (fun _ _ _ h => h) (Or.inl ⟨by rfl, fun w' hSw => by obtain ⟨z0_, z2_⟩ := hSw; go_simp⟩) hH ?_
      simp only [Act.put, List.getElem_toArray, List.getElem_cons_zero, List.getElem_cons_succ, List.setIfInBounds_toArray, List.set_cons_zero, List.set_cons_succ]
      refine wpAnyH_take (i := 3) (oi := _) (v := .pointer (some ⟨b, 0, none⟩)) rfl (by kernel_rfl) (by kernel_rfl) (by kernel_rfl) (fun _ _ _ h => h) (Or.inl ⟨by rfl, fun w' hSw => by obtain ⟨z0_, z2_⟩ := hSw; go_simp⟩) hH ?_
      simp only [Act.put, List.getElem_toArray, List.getElem_cons_zero, List.getElem_cons_succ, List.setIfInBounds_toArray, List.set_cons_zero, List.set_cons_succ]
      refine wpAnyH_take (i := 4) (oi := _) (v := .pointer (some ⟨c6, 2, none⟩)) rfl (by kernel_rfl) (by kernel_rfl) (by kernel_rfl) (fun _ _ _ h => h) (Or.inl ⟨by rfl, fun w' hSw => by obtain ⟨z0_, z2_⟩ := hSw; go_simp⟩) hH ?_
      simp only [Act.put, List.getElem_toArray, List.getElem_cons_zero, List.getElem_cons_succ, List.setIfInBounds_toArray, List.set_cons_zero, List.set_cons_succ]
      refine wpAnyH_take (i := 5) (oi := _) (v := .int .i64 LV) rfl (by kernel_rfl) (by kernel_rfl) (by kernel_rfl) (fun _ _ _ h => h) (Or.inl ⟨by rfl, fun w' hSw => by obtain ⟨z0_, z2_⟩ := hSw; go_simp⟩) hH ?_
      simp only [Act.put, List.getElem_toArray, List.getElem_cons_zero, List.getElem_cons_succ, List.setIfInBounds_toArray, List.set_cons_zero, List.set_cons_succ]
      refine wpAnyH_take (i := 6) (oi := _) (v := .int .i64 (LV + 1)) rfl (by kernel_rfl) (by kernel_rfl) (by kernel_rfl) (fun _ _ _ h => h) (Or.inl ⟨by rfl, fun w' hSw => by obtain ⟨z0_, z2_⟩ := hSw; go_simp⟩) hH ?_
      simp only [Act.put, List.getElem_toArray, List.getElem_cons_zero, List.getElem_cons_succ, List.setIfInBounds_toArray, List.set_cons_zero, List.set_cons_succ]
      have hS0 := hS3.drew
      have q50 : v3.drew.heap[c5]? = some (.cells #[.int .i64 l.op, .string l.tx, .int .i64 l.ty, .slice pl l.ks.len ql] 85 (0, 0)) := q5
      have q60 : v3.drew.heap[c6]? = some (.cells #[.int .i64 OP, .string t.2.1, .int .i64 LV] 133 (0, 0)) := q6
      have k50 : SlF v3.drew (fun k => w.heap.size ≤ k ∧ k ≠ p ∧ k ≠ c5) (.slice pl l.ks.len ql) l.ks := SlF.kp (W := v3) (V := v3.drew) (fun _ _ _ => rfl) k5
      clear q5 q6 k5 hS3
      generalize v3.drew = Y0 at *
      refine wpAnyH_ready (rs := [2, 7]) (by kernel_rfl) (by simp) (AllReadyH.cons (o := _) rfl (fun K hK => ?_) (AllReadyH.cons (o := _) rfl (fun K hK => ?_) AllReadyH.nil))
      ·skip
       obtain ⟨x0_, x1_, x2_, x3_, _⟩ := ex_cells q50
       go_simp
       clear x0_ x1_ x2_ x3_
       refine hK.out _ _ (hall _ q60) (fun hH => ?_)
       clear hK K
       try simp only [Act.put, List.getElem_toArray, List.getElem_cons_zero, List.getElem_cons_succ, List.setIfInBounds_toArray, List.set_cons_zero, List.set_cons_succ]
       refine wpAnyH_ready (rs := [7]) (by kernel_rfl) (by simp) (AllReadyH.cons (o := _) rfl (fun K hK => ?_) AllReadyH.nil)
       go_simp
       refine (kX9 _ hS0.O hS0.hG hS0.P).mono ?_
       rintro e Y1 ⟨on9, rfl⟩
       refine And.intro rfl ?_
       rw [e0.out]
       exact ⟨hS0.on.trans on9, rfl⟩
      ·skip
       go_simp
       refine (kX9 _ hS0.O hS0.hG hS0.P).mono ?_
       rintro e Y1 ⟨on9, rfl⟩
       refine And.intro rfl ?_
       rw [e0.out]
       exact ⟨hS0.on.trans on9, rfl⟩
     | ok x9 us9 d9 =>
      have kX9 := kE0 (by rw [hr]; simp) b B
      have z9 : Lt us' us9 := by have := eP_sat k (LV + 1) o us' d' zu; rw [hr] at this; exact this
      rw [hr] at kX9
      have e0 : Hid (R = lP k lv o (over2 OP l x9) us9 d9) := by have h9 := hR2.out; rw [Rs.thn_ok hr] at h9; exact h9
      clear hR2 hr kE0 kX
      refine wp_region_held_drew (S := (fun w' => (w'.cell? ⟨c6, 0, none⟩ = some (.int .i64 OP) ∧ w'.cell? ⟨c6, 2, none⟩ = some (.int .i64 LV)))) (by kernel_rfl) (hall _ q6) (fun hH => ?_)
      refine wpAnyH_take (i := 0) (oi := _) (v := .pointer (some ⟨c6, 0, none⟩)) rfl (by kernel_rfl) (by kernel_rfl) (by kernel_rfl) (fun _ _ _ h => h) (Or.inl ⟨by rfl, fun w' hSw => by obtain ⟨z0_, z2_⟩ := hSw; go_simp⟩) hH ?_
      simp only [Act.put, List.getElem_toArray, List.getElem_cons_zero, List.getElem_cons_succ, List.setIfInBounds_toArray, List.set_cons_zero, List.set_cons_succ]
      refine wpAnyH_take (i := 1) (oi := _) (v := .int .i64 OP) rfl (by kernel_rfl) (by kernel_rfl) (by kernel_rfl) (fun _ _ _ h => h) (Or.inl ⟨by rfl, fun w' hSw => by obtain ⟨z0_, z2_⟩ := hSw; go_simp⟩) hH ?_
      simp only [Act.put, List.getElem_toArray, List.getElem_cons_zero, List.getElem_cons_succ, List.setIfInBounds_toArray, List.set_cons_zero, List.set_cons_succ]
      refine wpAnyH_take (i := 3) (oi := _) (v := .pointer (some ⟨b, 0, none⟩)) rfl (by kernel_rfl) (by kernel_rfl) (by kernel_rfl) (fun _ _ _ h => h) (Or.inl ⟨by rfl, fun w' hSw => by obtain ⟨z0_, z2_⟩ := hSw; go_simp⟩) hH ?_
      simp only [Act.put, List.getElem_toArray, List.getElem_cons_zero, List.getElem_cons_succ, List.setIfInBounds_toArray, List.set_cons_zero, List.set_cons_succ]
      refine wpAnyH_take (i := 4) (oi := _) (v := .pointer (some ⟨c6, 2, none⟩)) rfl (by kernel_rfl) (by kernel_rfl) (by kernel_rfl) (fun _ _ _ h => h) (Or.inl ⟨by rfl, fun w' hSw => by obtain ⟨z0_, z2_⟩ := hSw; go_simp⟩) hH ?_
      simp only [Act.put, List.getElem_toArray, List.getElem_cons_zero, List.getElem_cons_succ, List.setIfInBounds_toArray, List.set_cons_zero, List.set_cons_succ]
      refine wpAnyH_take (i := 5) (oi := _) (v := .int .i64 LV) rfl (by kernel_rfl) (by kernel_rfl) (by kernel_rfl) (fun _ _ _ h => h) (Or.inl ⟨by rfl, fun w' hSw => by obtain ⟨z0_, z2_⟩ := hSw; go_simp⟩) hH ?_
      simp only [Act.put, List.getElem_toArray, List.getElem_cons_zero, List.getElem_cons_succ, List.setIfInBounds_toArray, List.set_cons_zero, List.set_cons_succ]
      refine wpAnyH_take (i := 6) (oi := _) (v := .int .i64 (LV + 1)) rfl (by kernel_rfl) (by kernel_rfl) (by kernel_rfl) (fun _ _ _ h => h) (Or.inl ⟨by rfl, fun w' hSw => by obtain ⟨z0_, z2_⟩ := hSw; go_simp⟩) hH ?_
      simp only [Act.put, List.getElem_toArray, List.getElem_cons_zero, List.getElem_cons_succ, List.setIfInBounds_toArray, List.set_cons_zero, List.set_cons_succ]
      have hS0 := hS3.drew
      have q50 : v3.drew.heap[c5]? = some (.cells #[.int .i64 l.op, .string l.tx, .int .i64 l.ty, .slice pl l.ks.len ql] 85 (0, 0)) := q5
      have q60 : v3.drew.heap[c6]? = some (.cells #[.int .i64 OP, .string t.2.1, .int .i64 LV] 133 (0, 0)) := q6
      have k50 : SlF v3.drew (fun k => w.heap.size ≤ k ∧ k ≠ p ∧ k ≠ c5) (.slice pl l.ks.len ql) l.ks := SlF.kp (W := v3) (V := v3.drew) (fun _ _ _ => rfl) k5
      clear q5 q6 k5 hS3
      generalize v3.drew = Y0 at *
      refine wpAnyH_ready (rs := [2, 7]) (by kernel_rfl) (by simp) (AllReadyH.cons (o := _) rfl (fun K hK => ?_) (AllReadyH.cons (o := _) rfl (fun K hK => ?_) AllReadyH.nil))
      ·skip
       obtain ⟨x0_, x1_, x2_, x3_, _⟩ := ex_cells q50
       go_simp
       clear x0_ x1_ x2_ x3_
       refine hK.out _ _ (hall _ q60) (fun hH => ?_)
       clear hK K
       try simp only [Act.put, List.getElem_toArray, List.getElem_cons_zero, List.getElem_cons_succ, List.setIfInBounds_toArray, List.set_cons_zero, List.set_cons_succ]
       refine wpAnyH_ready (rs := [7]) (by kernel_rfl) (by simp) (AllReadyH.cons (o := _) rfl (fun K hK => ?_) AllReadyH.nil)
       go_simp
       refine (kX9 _ hS0.O hS0.hG hS0.P).mono ?_
       rintro e Y1 ⟨on9, pp9, qq9, rfl, k9, hP9⟩
       have hS1 := hS0.onl on9 hP9
       replace k9 := k9.lo (lo' := (fun k => w.heap.size ≤ k ∧ k ≠ p ∧ k ≠ c5)) (fun k a => ⟨(hS0.fr k a).1, (hS0.fr k a).2, by have := lt_of q50; have a' : Y0.heap.size ≤ k := a; omega⟩)
       have q51 := (on9.block c5 (lt_of q50) bc5).trans q50
       have q61 := (on9.block c6 (lt_of q60) n6b).trans q60
       have k51 := k50.kp (on9.kp (fun a => by have := hS0.bl; omega))
       refine hK.out _ _ (hall _ q61) (fun hH => ?_)
       clear hK K
       try simp only [Act.put, List.getElem_toArray, List.getElem_cons_zero, List.getElem_cons_succ, List.setIfInBounds_toArray, List.set_cons_zero, List.set_cons_succ]
       refine wpAnyH_ready (rs := [8]) (by kernel_rfl) (by simp) (AllReadyH.cons (o := _) rfl (fun K hK => ?_) AllReadyH.nil)
       go_simp
       have gA : Below Y1.heap.size Y1 (Y1.alloc (.cells #[.int .i64 l.op, .string l.tx, .int .i64 l.ty, .slice pl l.ks.len ql, .int .i64 x9.op, .string x9.tx, .int .i64 x9.ty, .slice pp9 x9.ks.len qq9] 85)) := pb_new (Below.refl _ _) _
       have hS2 := hS1.bel z9.1.ne gA
       have q52 := (gA.block c5 (lt_of q51)).trans q51
       have q62 := (gA.block c6 (lt_of q61)).trans q61
       have kk := slf_two (q := 2) k51 k9 (c := Y1.heap.size) rfl ⟨(hS1.fr _ (Nat.le_refl _)).1, (hS1.fr _ (Nat.le_refl _)).2, by have := lt_of q51; omega⟩
       generalize hY2 : Y1.alloc (.cells #[.int .i64 l.op, .string l.tx, .int .i64 l.ty, .slice pl l.ks.len ql, .int .i64 x9.op, .string x9.tx, .int .i64 x9.ty, .slice pp9 x9.ks.len qq9] 85) = Y2 at *
       refine hK.out _ _ (hall _ q62) (fun hH => ?_)
       clear hK K
       try simp only [Act.put, List.getElem_toArray, List.getElem_cons_zero, List.getElem_cons_succ, List.setIfInBounds_toArray, List.set_cons_zero, List.set_cons_succ]
       refine wpAnyH_ready (rs := [9]) (by kernel_rfl) (by simp) (AllReadyH.cons (o := _) rfl (fun K hK => ?_) AllReadyH.nil)
       go_simp
       refine (pover _ _ _ ⟨_, _, _, rfl⟩).mono ?_
       rintro e Y3 ⟨rfl, g3⟩
       have hS3 := hS2.bel z9.1.ne g3
       have q53 := (g3.block c5 (lt_of q52)).trans q52
       have q63 := (g3.block c6 (lt_of q62)).trans q62
       replace kk := kk.kp (Below.kp g3 _)
       refine hK.out _ _ (hall _ q63) (fun hH => ?_)
       clear hK K
       try simp only [Act.put, List.getElem_toArray, List.getElem_cons_zero, List.getElem_cons_succ, List.setIfInBounds_toArray, List.set_cons_zero, List.set_cons_succ]
       refine wpAnyH_ready (rs := [10]) (by kernel_rfl) (by simp) (AllReadyH.cons (o := _) rfl (fun K hK => ?_) AllReadyH.nil)
       obtain ⟨x0_, x1_, x2_, x3_, xf_⟩ := ex_cells q53
       go_simp
       clear x0_ x1_ x2_ x3_ xf_
       have hS4 := hS3.set4 w5 pc5 bc5 Bc5 (.int .i64 OP) (.string tx0) (.int .i64 0) (.slice (some ⟨Y1.heap.size, 0, none⟩) 2 2)
       have q54 := set4_at q53 (.int .i64 OP) (.string tx0) (.int .i64 0) (.slice (some ⟨Y1.heap.size, 0, none⟩) 2 2)
       have q64 := (set4_far Y3 c5 c6 n65 (.int .i64 OP) (.string tx0) (.int .i64 0) (.slice (some ⟨Y1.heap.size, 0, none⟩) 2 2)).trans q63
       have k54 := kk.kp (V := ((((Y3.setCell ⟨c5, 0, none⟩ (.int .i64 OP)).setCell ⟨c5, 1, none⟩ (.string tx0)).setCell ⟨c5, 2, none⟩ (.int .i64 0)).setCell ⟨c5, 3, none⟩ (.slice (some ⟨Y1.heap.size, 0, none⟩) 2 2))) (fun k a _ => set4_far Y3 c5 k a.2.2 (.int .i64 OP) (.string tx0) (.int .i64 0) (.slice (some ⟨Y1.heap.size, 0, none⟩) 2 2))
       generalize ((((Y3.setCell ⟨c5, 0, none⟩ (.int .i64 OP)).setCell ⟨c5, 1, none⟩ (.string tx0)).setCell ⟨c5, 2, none⟩ (.int .i64 0)).setCell ⟨c5, 3, none⟩ (.slice (some ⟨Y1.heap.size, 0, none⟩) 2 2)) = Y4 at *
       refine hK.out _ _ (hall _ q64) (fun hH => ?_)
       clear hK K
       try simp only [Act.put, List.getElem_toArray, List.getElem_cons_zero, List.getElem_cons_succ, List.setIfInBounds_toArray, List.set_cons_zero, List.set_cons_succ]
       refine wpAnyH_done (by kernel_rfl) ?_ _
       go_wp2_with fail
       go_roundw
       case rel => exact ⟨Y4, us9, over2 OP l x9, _, _, d9, rfl, ⟨hS4, q54, k54, ⟨k, by omega, e0.out⟩, z9.1, by have := z9.2; omega⟩⟩
       case measure => rw [hS4.P.ms, msV.out]; have := z9.2; omega
      ·skip
       go_simp
       refine (kX9 _ hS0.O hS0.hG hS0.P).mono ?_
       rintro e Y1 ⟨on9, pp9, qq9, rfl, k9, hP9⟩
       have hS1 := hS0.onl on9 hP9
       replace k9 := k9.lo (lo' := (fun k => w.heap.size ≤ k ∧ k ≠ p ∧ k ≠ c5)) (fun k a => ⟨(hS0.fr k a).1, (hS0.fr k a).2, by have := lt_of q50; have a' : Y0.heap.size ≤ k := a; omega⟩)
       have q51 := (on9.block c5 (lt_of q50) bc5).trans q50
       have q61 := (on9.block c6 (lt_of q60) n6b).trans q60
       have k51 := k50.kp (on9.kp (fun a => by have := hS0.bl; omega))
       refine hK.out _ _ (hall _ q61) (fun hH => ?_)
       clear hK K
       try simp only [Act.put, List.getElem_toArray, List.getElem_cons_zero, List.getElem_cons_succ, List.setIfInBounds_toArray, List.set_cons_zero, List.set_cons_succ]
       refine wpAnyH_ready (rs := [2]) (by kernel_rfl) (by simp) (AllReadyH.cons (o := _) rfl (fun K hK => ?_) AllReadyH.nil)
       obtain ⟨x0_, x1_, x2_, x3_, _⟩ := ex_cells q51
       go_simp
       clear x0_ x1_ x2_ x3_
       refine hK.out _ _ (hall _ q61) (fun hH => ?_)
       clear hK K
       try simp only [Act.put, List.getElem_toArray, List.getElem_cons_zero, List.getElem_cons_succ, List.setIfInBounds_toArray, List.set_cons_zero, List.set_cons_succ]
       refine wpAnyH_ready (rs := [8]) (by kernel_rfl) (by simp) (AllReadyH.cons (o := _) rfl (fun K hK => ?_) AllReadyH.nil)
       go_simp
       have gA : Below Y1.heap.size Y1 (Y1.alloc (.cells #[.int .i64 l.op, .string l.tx, .int .i64 l.ty, .slice pl l.ks.len ql, .int .i64 x9.op, .string x9.tx, .int .i64 x9.ty, .slice pp9 x9.ks.len qq9] 85)) := pb_new (Below.refl _ _) _
       have hS2 := hS1.bel z9.1.ne gA
       have q52 := (gA.block c5 (lt_of q51)).trans q51
       have q62 := (gA.block c6 (lt_of q61)).trans q61
       have kk := slf_two (q := 2) k51 k9 (c := Y1.heap.size) rfl ⟨(hS1.fr _ (Nat.le_refl _)).1, (hS1.fr _ (Nat.le_refl _)).2, by have := lt_of q51; omega⟩
       generalize hY2 : Y1.alloc (.cells #[.int .i64 l.op, .string l.tx, .int .i64 l.ty, .slice pl l.ks.len ql, .int .i64 x9.op, .string x9.tx, .int .i64 x9.ty, .slice pp9 x9.ks.len qq9] 85) = Y2 at *
       refine hK.out _ _ (hall _ q62) (fun hH => ?_)
       clear hK K
       try simp only [Act.put, List.getElem_toArray, List.getElem_cons_zero, List.getElem_cons_succ, List.setIfInBounds_toArray, List.set_cons_zero, List.set_cons_succ]
       refine wpAnyH_ready (rs := [9]) (by kernel_rfl) (by simp) (AllReadyH.cons (o := _) rfl (fun K hK => ?_) AllReadyH.nil)
       go_simp
       refine (pover _ _ _ ⟨_, _, _, rfl⟩).mono ?_
       rintro e Y3 ⟨rfl, g3⟩
       have hS3 := hS2.bel z9.1.ne g3
       have q53 := (g3.block c5 (lt_of q52)).trans q52
       have q63 := (g3.block c6 (lt_of q62)).trans q62
       replace kk := kk.kp (Below.kp g3 _)
       refine hK.out _ _ (hall _ q63) (fun hH => ?_)
       clear hK K
       try simp only [Act.put, List.getElem_toArray, List.getElem_cons_zero, List.getElem_cons_succ, List.setIfInBounds_toArray, List.set_cons_zero, List.set_cons_succ]
       refine wpAnyH_ready (rs := [10]) (by kernel_rfl) (by simp) (AllReadyH.cons (o := _) rfl (fun K hK => ?_) AllReadyH.nil)
       obtain ⟨x0_, x1_, x2_, x3_, xf_⟩ := ex_cells q53
       go_simp
       clear x0_ x1_ x2_ x3_ xf_
       have hS4 := hS3.set4 w5 pc5 bc5 Bc5 (.int .i64 OP) (.string tx0) (.int .i64 0) (.slice (some ⟨Y1.heap.size, 0, none⟩) 2 2)
       have q54 := set4_at q53 (.int .i64 OP) (.string tx0) (.int .i64 0) (.slice (some ⟨Y1.heap.size, 0, none⟩) 2 2)
       have q64 := (set4_far Y3 c5 c6 n65 (.int .i64 OP) (.string tx0) (.int .i64 0) (.slice (some ⟨Y1.heap.size, 0, none⟩) 2 2)).trans q63
       have k54 := kk.kp (V := ((((Y3.setCell ⟨c5, 0, none⟩ (.int .i64 OP)).setCell ⟨c5, 1, none⟩ (.string tx0)).setCell ⟨c5, 2, none⟩ (.int .i64 0)).setCell ⟨c5, 3, none⟩ (.slice (some ⟨Y1.heap.size, 0, none⟩) 2 2))) (fun k a _ => set4_far Y3 c5 k a.2.2 (.int .i64 OP) (.string tx0) (.int .i64 0) (.slice (some ⟨Y1.heap.size, 0, none⟩) 2 2))
       generalize ((((Y3.setCell ⟨c5, 0, none⟩ (.int .i64 OP)).setCell ⟨c5, 1, none⟩ (.string tx0)).setCell ⟨c5, 2, none⟩ (.int .i64 0)).setCell ⟨c5, 3, none⟩ (.slice (some ⟨Y1.heap.size, 0, none⟩) 2 2)) = Y4 at *
       refine hK.out _ _ (hall _ q64) (fun hH => ?_)
       clear hK K
       try simp only [Act.put, List.getElem_toArray, List.getElem_cons_zero, List.getElem_cons_succ, List.setIfInBounds_toArray, List.set_cons_zero, List.set_cons_succ]
       refine wpAnyH_done (by kernel_rfl) ?_ _
       go_wp2_with fail
       go_roundw
       case rel => exact ⟨Y4, us9, over2 OP l x9, _, _, d9, rfl, ⟨hS4, q54, k54, ⟨k, by omega, e0.out⟩, z9.1, by have := z9.2; omega⟩⟩
       case measure => rw [hS4.P.ms, msV.out]; have := z9.2; omega
end Go.Proofs.YtknoibocpbfmmaaGreatDoor


