/- Texts of the proof, put together. -/
import Derived.Test.YtknoibocpbfmmaaGreatDoorWPbD
namespace Go.Proofs.YtknoibocpbfmmaaGreatDoor
open Go.RowKit
set_option linter.unusedVariables false
set_option linter.unusedSimpArgs false
def Fo.all (P : Ex → Prop) : Fo → Prop
 | .nil => True
 | .cons op tx ty ks r => P ⟨op, tx, ty, ks⟩ ∧ r.all P
def Fo.drop : Nat → Fo → Fo
 | 0, f => f
 | _ + 1, .nil => .nil
 | n + 1, .cons _ _ _ _ r => r.drop n
theorem FoAt.drop {W : World} {S : Nat → Prop} {c : Nat} : ∀ {f : Fo} {o : Nat} (j : Nat), FoAt W S f c o → FoAt W S (f.drop j) c (o + j * 4)
 | f, o, 0, h => by rw [Nat.zero_mul]; exact h
 | .nil, o, j + 1, h => trivial
 | .cons _ _ _ _ r, o, j + 1, h => by
  have := FoAt.drop j h.2.2.2.2.2
  rw [show o + (j + 1) * 4 = o + 4 + j * 4 by omega]
  exact this
theorem Fo.drop_at : ∀ {f : Fo} {j : Nat}, j < f.len → ∃ op tx ty ks, f.drop j = .cons op tx ty ks (f.drop (j + 1))
 | .nil, j, h => absurd h (by simp [Fo.len])
 | .cons a b c k r, 0, h => ⟨a, b, c, k, rfl⟩
 | .cons a b c k r, j + 1, h => Fo.drop_at (f := r) (by simp [Fo.len] at h; omega)
theorem Fo.drop_end : ∀ (f : Fo), f.drop f.len = .nil
 | .nil => rfl
 | .cons a b c k r => Fo.drop_end r
theorem Fo.all_drop {P : Ex → Prop} : ∀ {f : Fo} (j : Nat), f.all P → (f.drop j).all P
 | f, 0, h => h
 | .nil, j + 1, h => trivial
 | .cons _ _ _ _ r, j + 1, h => Fo.all_drop j h.2
set_option maxRecDepth 100000 in
theorem ex_ix (c u n q j : Nat) (h : j < n) (w : World) : (Instr.indexAt 82 (.slice (some ⟨c, u, none⟩) n q) (.int .i64 j)).run Tryz.prog w = .ok (.pointer (some ⟨c, u + j * 4, none⟩)) w := by
 have e2 : ∀ w, (sizeOf (Tryz.prog.elem 82)).run Tryz.prog w = .ok 4 w := fun w => by kernel_rfl
 rw [run_indexAt_slice (h := by first | exact Tryz.underlying82 | rfl), if_pos ⟨by omega, by omega⟩, e2]
 simp [go_sem]
set_option maxRecDepth 100000 in
set_option maxHeartbeats 1600000 in
theorem ex_lim (e : Ex) (deep p x : Nat) (S : Nat → Prop) (pp : Option Addr) (qq b : Nat) (w : World) (hd : deep ≤ 30) (g : ¬ (x + 1 ≤ 2048 ∧ deep ≤ 24)) (hO : OpsAt w) (hG : b ≠ 0) (hS : ¬ S b) (hT : SlF w S (.slice pp e.ks.len qq) e.ks) (hR : RuAt w b (p, x)) :
  Calls Tryz.prog 102 #[.pointer (some ⟨b, 0, none⟩), .agg #[.int .i64 e.op, .string e.tx, .int .i64 e.ty, .slice pp e.ks.len qq], .int .i64 deep] w fun e' w' => RuR ((ruE deep e x).map fun y => (p, y)) b w e' w' := by
 have hQ : (ruE deep e x).map (fun y => (p, y)) = none := by
  rw [ruE_eq, if_neg]
  ·rfl
  ·intro h
   simp only [Bool.and_eq_true, decide_eq_true_eq] at h
   exact g ⟨h.1, h.2.1⟩
 rw [hQ]
 have hx1 := hR.x
 have hxl := hR.xl
 simp only at hxl
 have hfz := hR.fz 1
 have lb := hR.lt
 have bw : b ≠ w.heap.size := Nat.ne_of_lt lb
 have wb : w.heap.size ≠ b := Ne.symm bw
 have wx : IntKind.i64.wrap ((x : Int) + 1) = (x : Int) + 1 := by rw [IntKind.wrap_i64]; omega
 generalize e.ks.len = m at *
 generalize e.op = op at *
 generalize e.tx = tx at *
 generalize e.ty = ty at *
 have fin : Hid (∀ (V : World) (y : Value), V = (w.setCell ⟨b, 1, none⟩ y).alloc (.cells #[.int .i64 op, .string tx, .int .i64 ty, .slice pp m qq] 85) → Onl b w V) := fun V y e => by
  subst e
  exact ((Onl.refl b w).set _).below (pb_new (Below.refl _ _) _)
 clear hT hO hQ
 by_cases g1 : x + 1 ≤ 2048
 ·have g2 : ¬ ((deep : Int) ≤ 24) := by omega
  have g3 : ((x : Int) + 1 ≤ 2048) := by omega
  clear g
  go_enter Tryz.func102, Tryz.ntmps102
  go_wp2_with (first
   | (go_at_call 68; (with_reducible refine (pmust_no _).mono ?_); rintro e v1 ⟨rfl, rfl⟩)
   | fail)
  exact ⟨rfl, fin.out _ _ rfl, rfl⟩
 ·have g3 : ¬ ((x : Int) + 1 ≤ 2048) := by omega
  clear g
  go_enter Tryz.func102, Tryz.ntmps102
  go_wp2_with (first
   | (go_at_call 68; (with_reducible refine (pmust_no _).mono ?_); rintro e v1 ⟨rfl, rfl⟩)
   | fail)
  exact ⟨rfl, fin.out _ _ rfl, rfl⟩
theorem ex_over (e : Ex) (hz : e.tx.size ≤ 9223372036854775807) (kA : SpX e.ks) : SpEx e := by
 intro deep p x S pp qq b w hd hO hG hS hT hR
 by_cases g : x + 1 ≤ 2048 ∧ deep ≤ 24
 ·by_cases h1 : e.op = 1
  ·exact ex_1 e h1 hz kA deep p x S pp qq b w g.2 g.1 hO hG hS hT hR
  by_cases h2 : e.op = 2
  ·exact ex_2 e h2 hz kA deep p x S pp qq b w g.2 g.1 hO hG hS hT hR
  by_cases h3 : e.op = 3
  ·exact ex_3 e h3 hz kA deep p x S pp qq b w g.2 g.1 hO hG hS hT hR
  by_cases h7 : e.op = 7
  ·exact ex_7 e h7 hz kA deep p x S pp qq b w g.2 g.1 hO hG hS hT hR
  by_cases h4 : e.op = 4
  ·exact ex_4 e h4 hz kA deep p x S pp qq b w g.2 g.1 hO hG hS hT hR
  by_cases h20 : e.op = 20
  ·exact ex_20 e h20 hz kA deep p x S pp qq b w g.2 g.1 hO hG hS hT hR
  by_cases h5 : e.op = 5
  ·exact ex_5 e h5 hz kA deep p x S pp qq b w g.2 g.1 hO hG hS hT hR
  by_cases h6 : e.op = 6
  ·exact ex_6 e h6 hz kA deep p x S pp qq b w g.2 g.1 hO hG hS hT hR
  exact ex_o e ⟨h1, h2, h3, h7, h4, h20, h5, h6⟩ hz kA deep p x S pp qq b w g.2 g.1 hO hG hS hT hR
 ·exact ex_lim e deep p x S pp qq b w hd g hO hG hS hT hR
theorem ruF_ge : ∀ (f : Fo) (deep x y : Nat), ruF deep f x = some y → x + f.len ≤ y
 | .nil, deep, x, y, h => by rw [ruF] at h; cases h; simp [Fo.len]
 | .cons op tx ty ks r, deep, x, y, h => by
  rw [ruF] at h
  split at h
  ·cases hk : ruF (deep + 1) ks (x + 1) with
   | none => rw [hk] at h; cases h
   | some z =>
    rw [hk] at h
    have h1 := ruF_ge ks _ _ _ hk
    have h2 := ruF_ge r _ _ _ h
    simp only [Fo.len]
    omega
  ·cases h
theorem ruE_lt {deep : Nat} {e : Ex} {x y : Nat} (h : ruE deep e x = some y) : x + 1 ≤ y := by
 have := ruF_ge _ _ _ _ h
 simp only [Ex.row, Fo.len] at this
 omega
/-- Between two rounds of all. -/
structure AllI (b : Nat) (w V : World) (S : Nat → Prop) (v : Value) (f : Fo) (p x deep : Nat) (R : Option (Nat × Nat)) (j : Nat) : Prop where
 on : Onl b w V
 O : OpsAt V
 T : SlF V S v f
 c : ∃ y, RuAt V b (p, y) ∧ (ruF deep (f.drop j) y).map (fun y => (p, y)) = R ∧ j ≤ y
set_option maxRecDepth 100000 in
set_option maxHeartbeats 1600000 in
theorem pall (f : Fo) (hA : f.all SpEx) : SpX f := by
 intro deep p x S v b w hd hO hG hS hT hR
 obtain ⟨R, hQ⟩ : ∃ R, (ruF deep f x).map (fun y => (p, y)) = R := ⟨_, rfl⟩
 rw [hQ]
 obtain ⟨pp, qq, rfl, hT0⟩ := hT
 have hT' : SlF w S (.slice pp f.len qq) f := ⟨pp, qq, rfl, hT0⟩
 obtain ⟨m, hm⟩ : ∃ m, f.len = m := ⟨_, rfl⟩
 rw [hm] at hT' ⊢
 have hm' : Hid (f.len = m) := hm
 have hA' : Hid (f.all SpEx) := hA
 have lb := hR.lt
 have hI : Hid (AllI b w w S (.slice pp m qq) f p x deep R 0) := ⟨Onl.refl _ _, hO, hT', x, hR, hQ, Nat.zero_le _⟩
 have hG' : Hid (b ≠ 0) := hG
 clear hT0 hm hA hO hT' hR hQ hG
 go_enter Tryz.func101, Tryz.ntmps101
 go_upto_region 1 with fail
 go_loopw [10] (fun i wr => ∃ (j : Nat) (V : World), i = .int .i64 j ∧ V = wr ∧ Hid (AllI b w V S (.slice pp m qq) f p x deep R j) ∧ j ≤ m) (fun i _ => m - (intOf i).toNat)
 case atStart => exact ⟨0, w, rfl, rfl, hI, by omega⟩
 case round =>
  clear hI
  obtain ⟨j, V, rfl, e, hI, hj⟩ := hrel
  subst e
  obtain ⟨xj, hR, hQ, jx⟩ := hI.out.c
  have on := hI.out.on
  have hO := hI.out.O
  have hTT := hI.out.T
  clear hI
  by_cases cj : j < m
  ·have cj' : (j : Int) < (m : Int) := by omega
   obtain ⟨op, tx, ty, ks, hf⟩ := Fo.drop_at (f := f) (j := j) (by rw [hm'.out]; exact cj)
   have hal := Fo.all_drop j hA'.out
   rw [hf] at hQ hal
   have hQ2 : ((ruE deep ⟨op, tx, ty, ks⟩ xj).bind fun x => ruF deep (f.drop (j + 1)) x).map (fun y => (p, y)) = R := by
    rw [← ruF_cons]; exact hQ
   obtain ⟨p2, q2, e2, hT⟩ := hTT
   obtain ⟨rfl, e4, rfl⟩ := Value.slice.inj e2
   clear e2 e4
   rcases hT with hT | ⟨c, u, rfl, hT⟩
   ·exfalso; have := hm'.out; rw [hT] at this; simp [Fo.len] at this; omega
   have hTT' : Hid (SlF V S (.slice (some ⟨c, u, none⟩) m qq) f) := ⟨_, _, by rw [hm'.out], Or.inr ⟨c, u, rfl, hT⟩⟩
   have hTj := FoAt.drop j hT
   rw [hf] at hTj
   obtain ⟨⟨k0, k1, k2, s3, k3, hs3⟩, _, lc⟩ := hTj.head
   obtain ⟨p3, q3, rfl, hs3'⟩ := hs3
   have hs4 : Hid (SlF V S (.slice p3 ks.len q3) ks) := ⟨p3, q3, rfl, hs3'⟩
   have kE := fun Y h1 h3 h4 => hal.1 deep p xj S p3 q3 b Y hd h1 hG'.out hS h3 h4
   have ix := ex_ix c u m qq j cj
   have cV : c < V.heap.size := World.block_lt_of_cell? V _ k0
   have jl : j ≤ 2048 := by have := hR.xl; simp only at this; omega
   have wj : IntKind.i64.wrap ((j : Int) + 1) = ((j + 1 : Nat) : Int) := by rw [IntKind.wrap_i64]; omega
   have hR' : Hid (RuAt V b (p, xj)) := hR
   have hf' : Hid (f.drop j = .cons op tx ty ks (f.drop (j + 1))) := hf
   have jx' : Hid (j ≤ xj) := jx
   clear hQ hTj hs3' lc hT hal hR jx hf
   obtain ⟨n3, hn3⟩ : ∃ n, ks.len = n := ⟨_, rfl⟩
   have hn3' : Hid (ks.len = n3) := hn3
   rw [hn3] at k3 hs4 kE
   clear hn3
   generalize u + j * 4 = o at *
   cases hr : ruE deep ⟨op, tx, ty, ks⟩ xj with
   | none =>
    obtain rfl : R = none := by rw [← hQ2, hr]; exact rfl
    rw [hr] at kE
    clear hQ2 hr
    go_wp2_with (first
     | (go_at_call 102; (refine (kE _ (hO.bel (pb_new (Below.refl _ _) _)) (hs4.out.kp (Below.kp (pb_new (Below.refl _ _) _) _)) (hR'.out.bel (pb_new (Below.refl _ _) _))).mono ?_); rintro e v1 ⟨on1, rfl⟩; replace on1 := (on.below (pb_new (Below.refl _ _) _)).trans on1)
     | fail)
    exact ⟨rfl, on1, rfl⟩
   | some x2 =>
    have hQ3 : Hid ((ruF deep (f.drop (j + 1)) x2).map (fun y => (p, y)) = R) := by rw [hr] at hQ2; exact hQ2
    have x2l : Hid (xj + 1 ≤ x2 ∧ j ≤ xj) := ⟨ruE_lt hr, jx'.out⟩
    rw [hr] at kE
    clear hQ2 hr
    go_wp2_with (first
     | (go_at_call 102; (refine (kE _ (hO.bel (pb_new (Below.refl _ _) _)) (hs4.out.kp (Below.kp (pb_new (Below.refl _ _) _) _)) (hR'.out.bel (pb_new (Below.refl _ _) _))).mono ?_); rintro e v1 ⟨on1, rfl, h1⟩)
     | fail)
    have g1 := pb_new (Below.refl V.heap.size V) (.cells #[.int .i64 op, .string tx, .int .i64 ty, .slice p3 n3 q3] 85)
    exact ⟨⟨j + 1, v1, by go_num, rfl, ⟨(on.below g1).trans on1, (hO.bel g1).onl hG'.out on1, (hTT'.out.kp (Below.kp g1 _)).kp (on1.kp hS), x2, h1, hQ3.out, by have := x2l.out; omega⟩, by omega⟩, by simp [intOf]; omega⟩
  ·obtain rfl : j = m := by omega
   obtain rfl : R = some (p, xj) := by
    rw [← hQ, ← hm'.out, Fo.drop_end]; rfl
   have nn : ¬ ((j : Int) < (j : Int)) := by omega
   clear hQ
   go_wp2_with fail
   exact bodyPost_end (v := .tuple #[]) (by simp [results, Tryz.results101, go_sem]) rfl ⟨on, rfl, hR⟩
theorem ex_of : ∀ (f : Fo), f.szs → f.all SpEx
 | .nil, _ => trivial
 | .cons op tx ty ks r, h => ⟨ex_over ⟨op, tx, ty, ks⟩ h.1 (pall ks (ex_of ks h.2.1)), ex_of r h.2.2⟩
theorem pall_any (f : Fo) (h : f.szs) : SpX f := pall f (ex_of f h)
theorem pex_any (e : Ex) (hz : e.tx.size ≤ 9223372036854775807) (h : e.ks.szs) : SpEx e := ex_over e hz (pall_any e.ks h)
end Go.Proofs.YtknoibocpbfmmaaGreatDoor



namespace Go.Proofs.YtknoibocpbfmmaaGreatDoor
open Go.RowKit
set_option linter.unusedVariables false
set_option linter.unusedSimpArgs false
/-- All texts of an expression are such as may be. -/
def Ex.szs (e : Ex) : Prop := e.tx.size ≤ 9223372036854775807 ∧ e.ks.szs
theorem pex (e : Ex) (h : e.szs) : SpEx e := pex_any e h.1 h.2
theorem ruE_neg {e : Ex} {deep x y : Nat} (h : ruE deep e x = some y) (h4 : e.op = 4) : e.ks.len = 1 := by
 rw [ruE_eq] at h
 split at h
 ·rename_i g
  simp only [Bool.and_eq_true, decide_eq_true_eq] at g
  have := g.2.2
  unfold exOk at this
  rw [h4, if_neg (by decide), if_neg (by decide), if_neg (by decide), if_neg (by decide), if_pos (by decide)] at this
  simp only [Bool.and_eq_true, decide_eq_true_eq] at this
  exact this.2.2
 ·cases h
set_option maxRecDepth 100000 in
set_option maxHeartbeats 1600000 in
theorem prbound (e : Ex) (hz : e.szs) (p x : Nat) (S : Nat → Prop) (pp : Option Addr) (qq b : Nat) (w : World) (hO : OpsAt w) (hG : b ≠ 0) (hSb : ¬ S b) (hT : SlF w S (.slice pp e.ks.len qq) e.ks) (hR : RuAt w b (p, x)) :
  Calls Tryz.prog 103 #[.pointer (some ⟨b, 0, none⟩), .agg #[.int .i64 e.op, .string e.tx, .int .i64 e.ty, .slice pp e.ks.len qq]] w fun e' w' => RuR ((ruB e x).map fun y => (p, y)) b w e' w' := by
 have kE := fun Y h1 h3 h4 => pex e hz 1 p x (fun k => S k ∧ k < w.heap.size) pp qq b Y (by decide) h1 hG (fun a => hSb a.1) h3 h4
 obtain ⟨R, hQ⟩ : ∃ R, (ruB e x).map (fun y => (p, y)) = R := ⟨_, rfl⟩
 rw [hQ]
 unfold ruB at hQ
 have lb := hR.lt
 have hT' := hT.lt
 have ng := @ruE_neg e 1 x
 obtain ⟨B, hB⟩ : ∃ B, w.heap.size = B := ⟨_, rfl⟩
 have gA := pb_new (Below.refl w.heap.size w) (.cells #[.int .i64 e.op, .string e.tx, .int .i64 e.ty, .slice pp e.ks.len qq] 85)
 have kE2 := kE _ (hO.bel gA) (hT'.kp (Below.kp gA _)) (hR.bel gA)
 have qB := World.alloc_heap_new w (.cells #[.int .i64 e.op, .string e.tx, .int .i64 e.ty, .slice pp e.ks.len qq] 85)
 have hTA := hT'.kp (Below.kp gA _)
 have onA := (Onl.refl b w).below gA
 have sz := gA.size
 clear kE hO hT hT' hR gA
 obtain ⟨isb, hisb⟩ : ∃ i, isBd e = i := ⟨_, rfl⟩
 rw [hisb] at hQ
 unfold isBd at hisb
 obtain ⟨X, hX⟩ : ∃ X, w.alloc (.cells #[.int .i64 e.op, .string e.tx, .int .i64 e.ty, .slice pp e.ks.len qq] 85) = X := ⟨_, rfl⟩
 rw [hX] at qB hTA onA kE2 sz
 rw [hB] at qB hTA
 obtain ⟨f0, f1, f2, f3, ff⟩ := ex_cells qB
 have hX' : Hid (w.alloc (.cells #[.int .i64 e.op, .string e.tx, .int .i64 e.ty, .slice pp e.ks.len qq] 85) = X) := hX
 have hB' : Hid (w.heap.size = B) := hB
 have bB : b ≠ B := by omega
 have Bb : B ≠ b := Ne.symm bB
 clear hX hB
 cases hr : ruE 1 e x with
 | none =>
  obtain rfl : R = none := by rw [← hQ, hr]; rfl
  rw [hr] at kE2
  clear hQ hr ng hisb
  go_enter Tryz.func103, Tryz.ntmps103
  go_upto_region 1 with fail
  rw [hX'.out]
  (try rw [hB'.out])
  go_wp2_with (first
   | (go_at_call 102; (refine kE2.mono ?_); rintro e v1 ⟨on1, rfl⟩; replace on1 := onA.trans on1)
   | fail)
  exact ⟨rfl, on1, rfl⟩
 | some y =>
  rw [hr] at kE2 hQ
  have hQ' : Hid ((if isb = true then some (p, y) else none) = R) := by
   show _ = _
   rw [← hQ]; cases isb <;> rfl
  have ng' := fun h4 => ng hr h4
  clear hQ hr ng
  by_cases h4 : e.op = 4
  ·have hl := ng' h4
   rw [if_pos h4] at hisb
   obtain ⟨p2, q2, e2, hT⟩ := hTA
   obtain ⟨rfl, e4, rfl⟩ := Value.slice.inj e2
   clear e2 e4 ng'
   rcases hT with hT | ⟨c, u, rfl, hT⟩
   ·rw [hT] at hl; cases hl
   obtain ⟨op2, tx2, ty2, ks2, r2, hks⟩ : ∃ a t y k r, e.ks = .cons a t y k r := by
    cases hk : e.ks with
    | nil => rw [hk] at hl; cases hl
    | cons a t y k r => exact ⟨a, t, y, k, r, rfl⟩
   rw [hks] at hT hisb
   obtain ⟨⟨k0, k1, k2, s3, k3, p3, q3, rfl, _⟩, _, lc, lw⟩ := hT.head
   have cb : c ≠ b := fun e => hSb (e ▸ lc)
   have cB : c ≠ B := by have := hB'.out; omega
   have Bc : B ≠ c := Ne.symm cB
   have e1 : (op2 == 1) = isb := by
    rw [← hisb]
    show _ = decide (op2 = 1)
    by_cases h : op2 = 1 <;> simp [h]
   have ix := ex_ix c u 1 qq 0 (by decide)
   rw [Nat.zero_mul, Nat.add_zero] at ix
   rw [hl] at kE2 f3 hX' qB
   rw [h4] at kE2 f0 hX' qB
   rw [h4, hl]
   clear hisb hT hks hl h4
   cases isb
   all_goals
    obtain rfl := hQ'.out
    clear hQ'
    go_enter Tryz.func103, Tryz.ntmps103
    go_upto_region 1 with fail
    rw [hX'.out]
    (try rw [hB'.out])
    clear hX'
    go_wp2_with (first
     | (go_at_call 102; (refine kE2.mono ?_); rintro e v1 ⟨on1, rfl, h1⟩; replace k0 := on1.cell cb k0; replace k1 := on1.cell cb k1; replace k2 := on1.cell cb k2; replace k3 := on1.cell cb k3; replace f0 := on1.cell Bb f0; replace f1 := on1.cell Bb f1; replace f2 := on1.cell Bb f2; replace f3 := on1.cell Bb f3; replace ff := (fun k => (frozen_of_heap (on1.block B (lt_of qB) Bb)).trans (ff k)); replace qB := (on1.block B (lt_of qB) Bb).trans qB; clear kE2)
     | (go_at_call 68; (with_reducible refine (pmust_yes _).mono ?_); rintro e v1 ⟨rfl, rfl⟩)
     | (go_at_call 68; (with_reducible refine (pmust_no _).mono ?_); rintro e v1 ⟨rfl, rfl⟩)
     | fail)
    have wB : w.heap.size ≤ B := Nat.le_of_eq hB'.out
    have on2 := ((((onA.trans on1).setNew wB (j := 0) (.int .i64 op2)).setNew wB (j := 1) (.string tx2)).setNew wB (j := 2) (.int .i64 ty2)).setNew wB (j := 3) (.slice p3 ks2.len q3)
    have R2 : RuAt ((((v1.setCell ⟨B, 0, none⟩ (.int .i64 op2)).setCell ⟨B, 1, none⟩ (.string tx2)).setCell ⟨B, 2, none⟩ (.int .i64 ty2)).setCell ⟨B, 3, none⟩ (.slice p3 ks2.len q3)) b (p, y) := h1.on (((Below.heap_setCell _ _ _ b bB).trans (Below.heap_setCell _ _ _ b bB)).trans ((Below.heap_setCell _ _ _ b bB).trans (Below.heap_setCell _ _ _ b bB)))
    first
     | exact bodyPost_end (v := .tuple #[]) (by simp [results, Tryz.results103, go_sem]) rfl ⟨on2, rfl, R2⟩
     | exact ⟨rfl, on2, rfl⟩
  ·rw [if_neg h4] at hisb
   have e1 : (e.op == 1) = isb := by
    rw [← hisb]
    by_cases h : e.op = 1 <;> simp [h]
   have e4 : (e.op == 4) = false := by rw [beq_eq_false_iff_ne]; exact h4
   clear hisb ng' hTA
   generalize e.op = op at *
   generalize e.ks.len = m at *
   cases isb
   all_goals
    obtain rfl := hQ'.out
    clear hQ'
    go_enter Tryz.func103, Tryz.ntmps103
    go_upto_region 1 with fail
    rw [hX'.out]
    (try rw [hB'.out])
    clear hX'
    go_wp2_with (first
     | (go_at_call 102; (refine kE2.mono ?_); rintro e v1 ⟨on1, rfl, h1⟩; replace f0 := on1.cell Bb f0; clear kE2)
     | (go_at_call 68; (with_reducible refine (pmust_yes _).mono ?_); rintro e v1 ⟨rfl, rfl⟩)
     | (go_at_call 68; (with_reducible refine (pmust_no _).mono ?_); rintro e v1 ⟨rfl, rfl⟩)
     | fail)
    first
     | exact bodyPost_end (v := .tuple #[]) (by simp [results, Tryz.results103, go_sem]) rfl ⟨onA.trans on1, rfl, h1⟩
     | exact ⟨rfl, onA.trans on1, rfl⟩
end Go.Proofs.YtknoibocpbfmmaaGreatDoor



namespace Go.Proofs.YtknoibocpbfmmaaGreatDoor
open Go.RowKit
set_option linter.unusedVariables false
set_option linter.unusedSimpArgs false
def So.szs : So → Prop
 | .nil => True
 | .cons d nm ix v l h t e r => nm.size ≤ 9223372036854775807 ∧ ix.szs ∧ v.szs ∧ l.szs ∧ h.szs ∧ t.szs ∧ e.szs ∧ r.szs
def St.szs (s : St) : Prop := s.name.size ≤ 9223372036854775807 ∧ s.index.szs ∧ s.value.szs ∧ s.low.szs ∧ s.high.szs ∧ s.thn.szs ∧ s.els.szs
/-- A statement's trees, by the slices in its registers. -/
structure StT (V : World) (S : Nat → Prop) (s : St) (p0 : Option Addr) (q0 : Nat) (p1 : Option Addr) (q1 : Nat) (p2 : Option Addr) (q2 : Nat) (p3 : Option Addr) (q3 : Nat) (p4 : Option Addr) (q4 : Nat) (p5 : Option Addr) (q5 : Nat) : Prop where
 T0 : SlF V S (.slice p0 s.index.len q0) s.index
 T1 : SlF V S (.slice p1 s.value.ks.len q1) s.value.ks
 T2 : SlF V S (.slice p2 s.low.ks.len q2) s.low.ks
 T3 : SlF V S (.slice p3 s.high.ks.len q3) s.high.ks
 T4 : SlS V S (.slice p4 s.thn.len q4) s.thn
 T5 : SlS V S (.slice p5 s.els.len q5) s.els
theorem StT.kp {V V' : World} {S : Nat → Prop} {s : St} {p0 : Option Addr} {q0 : Nat} {p1 : Option Addr} {q1 : Nat} {p2 : Option Addr} {q2 : Nat} {p3 : Option Addr} {q3 : Nat} {p4 : Option Addr} {q4 : Nat} {p5 : Option Addr} {q5 : Nat} (h : StT V S s p0 q0 p1 q1 p2 q2 p3 q3 p4 q4 p5 q5) (k : Kp S V V') : StT V' S s p0 q0 p1 q1 p2 q2 p3 q3 p4 q4 p5 q5 := ⟨h.T0.kp k, h.T1.kp k, h.T2.kp k, h.T3.kp k, h.T4.kp k, h.T5.kp k⟩
theorem StT.lt {V : World} {S : Nat → Prop} {s : St} {p0 : Option Addr} {q0 : Nat} {p1 : Option Addr} {q1 : Nat} {p2 : Option Addr} {q2 : Nat} {p3 : Option Addr} {q3 : Nat} {p4 : Option Addr} {q4 : Nat} {p5 : Option Addr} {q5 : Nat} (h : StT V S s p0 q0 p1 q1 p2 q2 p3 q3 p4 q4 p5 q5) : StT V (fun k => S k ∧ k < V.heap.size) s p0 q0 p1 q1 p2 q2 p3 q3 p4 q4 p5 q5 := ⟨h.T0.lt, h.T1.lt, h.T2.lt, h.T3.lt, h.T4.lt, h.T5.lt⟩
def SpK (l : So) : Prop := ∀ (deep : Nat) (c : Nat × Nat) (S : Nat → Prop) (v : Value) (b : Nat) (w : World), deep ≤ 30 → OpsAt w → b ≠ 0 → ¬ S b → SlS w S v l → RuAt w b c →
 Calls Tryz.prog 70 #[.pointer (some ⟨b, 0, none⟩), v, .int .i64 deep] w fun e w' => RuR (ruK deep l c) b w e w'
def SpT (s : St) : Prop := ∀ (deep : Nat) (c : Nat × Nat) (S : Nat → Prop) (p0 : Option Addr) (q0 : Nat) (p1 : Option Addr) (q1 : Nat) (p2 : Option Addr) (q2 : Nat) (p3 : Option Addr) (q3 : Nat) (p4 : Option Addr) (q4 : Nat) (p5 : Option Addr) (q5 : Nat) (b : Nat) (w : World), deep ≤ 24 → OpsAt w → b ≠ 0 → ¬ S b → StT w S s p0 q0 p1 q1 p2 q2 p3 q3 p4 q4 p5 q5 → RuAt w b c →
 Calls Tryz.prog 90 #[.pointer (some ⟨b, 0, none⟩), .agg #[.int .i64 s.dO, .string s.name, .slice p0 s.index.len q0, .int .i64 s.value.op, .string s.value.tx, .int .i64 s.value.ty, .slice p1 s.value.ks.len q1, .int .i64 s.low.op, .string s.low.tx, .int .i64 s.low.ty, .slice p2 s.low.ks.len q2, .int .i64 s.high.op, .string s.high.tx, .int .i64 s.high.ty, .slice p3 s.high.ks.len q3, .slice p4 s.thn.len q4, .slice p5 s.els.len q5], .int .i64 deep] w fun e w' => RuR (ruT deep s c) b w e w'
/-- Between statement's calls. -/
structure SitT (b B : Nat) (w V : World) (c : Nat × Nat) (S : Nat → Prop) (s : St) (p0 : Option Addr) (q0 : Nat) (p1 : Option Addr) (q1 : Nat) (p2 : Option Addr) (q2 : Nat) (p3 : Option Addr) (q3 : Nat) (p4 : Option Addr) (q4 : Nat) (p5 : Option Addr) (q5 : Nat) : Prop where
 on : Onl b w V
 R : RuAt V b c
 O : OpsAt V
 T : StT V S s p0 q0 p1 q1 p2 q2 p3 q3 p4 q4 p5 q5
 hS : ∀ k, S k → k ≠ b ∧ k ≠ B
 hG : b ≠ 0
 BG : B ≠ 0
 Bb : B ≠ b
 wB : w.heap.size ≤ B
theorem SitT.bel {b B : Nat} {w V V' : World} {c : Nat × Nat} {S : Nat → Prop} {s : St} {p0 : Option Addr} {q0 : Nat} {p1 : Option Addr} {q1 : Nat} {p2 : Option Addr} {q2 : Nat} {p3 : Option Addr} {q3 : Nat} {p4 : Option Addr} {q4 : Nat} {p5 : Option Addr} {q5 : Nat} (h : SitT b B w V c S s p0 q0 p1 q1 p2 q2 p3 q3 p4 q4 p5 q5) (g : Below V.heap.size V V') : SitT b B w V' c S s p0 q0 p1 q1 p2 q2 p3 q3 p4 q4 p5 q5 :=
 ⟨h.on.below g, h.R.bel g, h.O.bel g, h.T.kp (Below.kp g _), h.hS, h.hG, h.BG, h.Bb, h.wB⟩
theorem SitT.onl {b B : Nat} {w V V' : World} {c c' : Nat × Nat} {S : Nat → Prop} {s : St} {p0 : Option Addr} {q0 : Nat} {p1 : Option Addr} {q1 : Nat} {p2 : Option Addr} {q2 : Nat} {p3 : Option Addr} {q3 : Nat} {p4 : Option Addr} {q4 : Nat} {p5 : Option Addr} {q5 : Nat} (h : SitT b B w V c S s p0 q0 p1 q1 p2 q2 p3 q3 p4 q4 p5 q5) (g : Onl b V V') (R : RuAt V' b c') : SitT b B w V' c' S s p0 q0 p1 q1 p2 q2 p3 q3 p4 q4 p5 q5 :=
 ⟨h.on.trans g, R, h.O.onl h.hG g, h.T.kp (g.kp (fun a => (h.hS _ a).1 rfl)), h.hS, h.hG, h.BG, h.Bb, h.wB⟩
theorem SitT.set {b B : Nat} {w V : World} {c : Nat × Nat} {S : Nat → Prop} {s : St} {p0 : Option Addr} {q0 : Nat} {p1 : Option Addr} {q1 : Nat} {p2 : Option Addr} {q2 : Nat} {p3 : Option Addr} {q3 : Nat} {p4 : Option Addr} {q4 : Nat} {p5 : Option Addr} {q5 : Nat} (h : SitT b B w V c S s p0 q0 p1 q1 p2 q2 p3 q3 p4 q4 p5 q5) (j : Nat) (v : Value) : SitT b B w (V.setCell ⟨B, j, none⟩ v) c S s p0 q0 p1 q1 p2 q2 p3 q3 p4 q4 p5 q5 :=
 ⟨h.on.setNew h.wB v, h.R.on (Below.heap_setCell V _ v b (fun e => h.Bb e.symm)), fun k u q => (cell_of_heap (Below.heap_setCell V _ v 0 (fun e => h.BG e.symm))).trans (h.O k u q), h.T.kp (Kp.set (fun a => (h.hS _ a).2 rfl)), h.hS, h.hG, h.BG, h.Bb, h.wB⟩
theorem ops_lt {w : World} (h : OpsAt w) : 0 < w.heap.size := World.block_lt_of_cell? w _ (h 0 _ rfl)
theorem st_go {w : World} {b : Nat} {c : Nat × Nat} {S : Nat → Prop} {s : St} {p0 : Option Addr} {q0 : Nat} {p1 : Option Addr} {q1 : Nat} {p2 : Option Addr} {q2 : Nat} {p3 : Option Addr} {q3 : Nat} {p4 : Option Addr} {q4 : Nat} {p5 : Option Addr} {q5 : Nat} (hO : OpsAt w) (hG : b ≠ 0) (hS : ¬ S b) (hT : StT w S s p0 q0 p1 q1 p2 q2 p3 q3 p4 q4 p5 q5) (hR : RuAt w b c) (x : Obj) :
  SitT b w.heap.size w (w.alloc x) c (fun k => S k ∧ k < w.heap.size) s p0 q0 p1 q1 p2 q2 p3 q3 p4 q4 p5 q5 := by
 have g := pb_new (Below.refl w.heap.size w) x
 have lb := hR.lt
 have lo := ops_lt hO
 exact ⟨(Onl.refl b w).below g, hR.bel g, hO.bel g, hT.lt.kp (Below.kp g _), fun k a => ⟨fun e => hS (e ▸ a.1), Nat.ne_of_lt a.2⟩, hG, by omega, by omega, Nat.le_refl _⟩
theorem RuR.fin {b : Nat} {w V V' : World} {r : Option (Nat × Nat)} {e : Ending} (h : Onl b w V) (k : RuR r b V e V') : RuR r b w e V' := ⟨h.trans k.1, k.2⟩
end Go.Proofs.YtknoibocpbfmmaaGreatDoor



