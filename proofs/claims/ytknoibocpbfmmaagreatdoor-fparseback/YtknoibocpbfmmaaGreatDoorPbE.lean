/- Expressions of every tree: all, expression. -/
import Derived.Test.YtknoibocpbfmmaaGreatDoorPbD
namespace Go.Proofs.YtknoibocpbfmmaaGreatDoor
open Go.RowKit
set_option linter.unusedVariables false
set_option linter.unusedSimpArgs false
def Fo.all (P : Ex → Prop) : Fo → Prop
  | .nil => True
  | .cons op tx ty ks r => P ⟨op, tx, ty, ks⟩ ∧ r.all P
def Fo.drop : Nat → Fo → Fo
  | 0, f => f
  | _ + 1, .nil => .nil
  | n + 1, .cons _ _ _ _ r => r.drop n
theorem FoAt.drop {W : World} {S : Nat → Prop} {c : Nat} : ∀ {f : Fo} {o : Nat} (j : Nat), FoAt W S f c o → FoAt W S (f.drop j) c (o + j * 4)
  | f, o, 0, h => by rw [Nat.zero_mul]; exact h
  | .nil, o, j + 1, h => trivial
  | .cons _ _ _ _ r, o, j + 1, h => by
    have := FoAt.drop j h.2.2.2.2.2
    rw [show o + (j + 1) * 4 = o + 4 + j * 4 by omega]
    exact this
theorem Fo.drop_at : ∀ {f : Fo} {j : Nat}, j < f.len → ∃ op tx ty ks, f.drop j = .cons op tx ty ks (f.drop (j + 1))
  | .nil, j, h => absurd h (by simp [Fo.len])
  | .cons a b c k r, 0, h => ⟨a, b, c, k, rfl⟩
  | .cons a b c k r, j + 1, h => Fo.drop_at (f := r) (by simp [Fo.len] at h; omega)
theorem Fo.drop_end : ∀ (f : Fo), f.drop f.len = .nil
  | .nil => rfl
  | .cons a b c k r => Fo.drop_end r
theorem Fo.all_drop {P : Ex → Prop} : ∀ {f : Fo} (j : Nat), f.all P → (f.drop j).all P
  | f, 0, h => h
  | .nil, j + 1, h => trivial
  | .cons _ _ _ _ r, j + 1, h => Fo.all_drop j h.2
set_option maxRecDepth 100000 in
theorem ex_ix (c u n q j : Nat) (h : j < n) (w : World) : (Instr.indexAt 82 (.slice (some ⟨c, u, none⟩) n q) (.int .i64 j)).run Tryz.prog w = .ok (.pointer (some ⟨c, u + j * 4, none⟩)) w := by
  have e2 : ∀ w, (sizeOf (Tryz.prog.elem 82)).run Tryz.prog w = .ok 4 w := fun w => by kernel_rfl
  rw [run_indexAt_slice (h := by first | exact Tryz.underlying82 | rfl), if_pos ⟨by omega, by omega⟩, e2]
  simp [go_sem]
set_option maxRecDepth 100000 in
set_option maxHeartbeats 1600000 in
theorem ex_lim (e : Ex) (deep p x : Nat) (S : Nat → Prop) (pp : Option Addr) (qq b : Nat) (w : World) (hd : deep ≤ 30) (g : ¬ (x + 1 ≤ 2048 ∧ deep ≤ 24)) (hO : OpsAt w) (hG : b ≠ 0) (hS : ¬ S b) (hT : SlF w S (.slice pp e.ks.len qq) e.ks) (hR : RuAt w b (p, x)) :
    Calls Tryz.prog 102 #[.pointer (some ⟨b, 0, none⟩), .agg #[.int .i64 e.op, .string e.tx, .int .i64 e.ty, .slice pp e.ks.len qq], .int .i64 deep] w fun e' w' => RuR ((ruE deep e x).map fun y => (p, y)) b w e' w' := by
  have hQ : (ruE deep e x).map (fun y => (p, y)) = none := by
    rw [ruE_eq, if_neg]
    · rfl
    · intro h
      simp only [Bool.and_eq_true, decide_eq_true_eq] at h
      exact g ⟨h.1, h.2.1⟩
  rw [hQ]
  have hx1 := hR.x
  have hxl := hR.xl
  simp only at hxl
  have hfz := hR.fz 1
  have lb := hR.lt
  have bw : b ≠ w.heap.size := Nat.ne_of_lt lb
  have wb : w.heap.size ≠ b := Ne.symm bw
  have wx : IntKind.i64.wrap ((x : Int) + 1) = (x : Int) + 1 := by rw [IntKind.wrap_i64]; omega
  generalize e.ks.len = m at *
  generalize e.op = op at *
  generalize e.tx = tx at *
  generalize e.ty = ty at *
  have fin : Hid (∀ (V : World) (y : Value), V = (w.setCell ⟨b, 1, none⟩ y).alloc (.cells #[.int .i64 op, .string tx, .int .i64 ty, .slice pp m qq] 85) → Onl b w V) := fun V y e => by
    subst e
    exact ((Onl.refl b w).set _).below (pb_new (Below.refl _ _) _)
  clear hT hO hQ
  by_cases g1 : x + 1 ≤ 2048
  · have g2 : ¬ ((deep : Int) ≤ 24) := by omega
    have g3 : ((x : Int) + 1 ≤ 2048) := by omega
    clear g
    go_enter Tryz.func102, Tryz.ntmps102
    go_wp2_with (first
      | (go_at_call 68; (with_reducible refine (pmust_no _).mono ?_); rintro e v1 ⟨rfl, rfl⟩)
      | fail)
    exact ⟨rfl, fin.out _ _ rfl, rfl⟩
  · have g3 : ¬ ((x : Int) + 1 ≤ 2048) := by omega
    clear g
    go_enter Tryz.func102, Tryz.ntmps102
    go_wp2_with (first
      | (go_at_call 68; (with_reducible refine (pmust_no _).mono ?_); rintro e v1 ⟨rfl, rfl⟩)
      | fail)
    exact ⟨rfl, fin.out _ _ rfl, rfl⟩
theorem ex_over (e : Ex) (hz : e.tx.size ≤ 9223372036854775807) (kA : SpX e.ks) : SpEx e := by
  intro deep p x S pp qq b w hd hO hG hS hT hR
  by_cases g : x + 1 ≤ 2048 ∧ deep ≤ 24
  · by_cases h1 : e.op = 1
    · exact ex_1 e h1 hz kA deep p x S pp qq b w g.2 g.1 hO hG hS hT hR
    by_cases h2 : e.op = 2
    · exact ex_2 e h2 hz kA deep p x S pp qq b w g.2 g.1 hO hG hS hT hR
    by_cases h3 : e.op = 3
    · exact ex_3 e h3 hz kA deep p x S pp qq b w g.2 g.1 hO hG hS hT hR
    by_cases h7 : e.op = 7
    · exact ex_7 e h7 hz kA deep p x S pp qq b w g.2 g.1 hO hG hS hT hR
    by_cases h4 : e.op = 4
    · exact ex_4 e h4 hz kA deep p x S pp qq b w g.2 g.1 hO hG hS hT hR
    by_cases h20 : e.op = 20
    · exact ex_20 e h20 hz kA deep p x S pp qq b w g.2 g.1 hO hG hS hT hR
    by_cases h5 : e.op = 5
    · exact ex_5 e h5 hz kA deep p x S pp qq b w g.2 g.1 hO hG hS hT hR
    by_cases h6 : e.op = 6
    · exact ex_6 e h6 hz kA deep p x S pp qq b w g.2 g.1 hO hG hS hT hR
    exact ex_o e ⟨h1, h2, h3, h7, h4, h20, h5, h6⟩ hz kA deep p x S pp qq b w g.2 g.1 hO hG hS hT hR
  · exact ex_lim e deep p x S pp qq b w hd g hO hG hS hT hR
theorem ruF_ge : ∀ (f : Fo) (deep x y : Nat), ruF deep f x = some y → x + f.len ≤ y
  | .nil, deep, x, y, h => by rw [ruF] at h; cases h; simp [Fo.len]
  | .cons op tx ty ks r, deep, x, y, h => by
    rw [ruF] at h
    split at h
    · cases hk : ruF (deep + 1) ks (x + 1) with
      | none => rw [hk] at h; cases h
      | some z =>
        rw [hk] at h
        have h1 := ruF_ge ks _ _ _ hk
        have h2 := ruF_ge r _ _ _ h
        simp only [Fo.len]
        omega
    · cases h
theorem ruE_lt {deep : Nat} {e : Ex} {x y : Nat} (h : ruE deep e x = some y) : x + 1 ≤ y := by
  have := ruF_ge _ _ _ _ h
  simp only [Ex.row, Fo.len] at this
  omega
/-- Between two rounds of all. -/
structure AllI (b : Nat) (w V : World) (S : Nat → Prop) (v : Value) (f : Fo) (p x deep : Nat) (R : Option (Nat × Nat)) (j : Nat) : Prop where
  on : Onl b w V
  O : OpsAt V
  T : SlF V S v f
  c : ∃ y, RuAt V b (p, y) ∧ (ruF deep (f.drop j) y).map (fun y => (p, y)) = R ∧ j ≤ y
set_option maxRecDepth 100000 in
set_option maxHeartbeats 1600000 in
theorem pall (f : Fo) (hA : f.all SpEx) : SpX f := by
  intro deep p x S v b w hd hO hG hS hT hR
  obtain ⟨R, hQ⟩ : ∃ R, (ruF deep f x).map (fun y => (p, y)) = R := ⟨_, rfl⟩
  rw [hQ]
  obtain ⟨pp, qq, rfl, hT0⟩ := hT
  have hT' : SlF w S (.slice pp f.len qq) f := ⟨pp, qq, rfl, hT0⟩
  obtain ⟨m, hm⟩ : ∃ m, f.len = m := ⟨_, rfl⟩
  rw [hm] at hT' ⊢
  have hm' : Hid (f.len = m) := hm
  have hA' : Hid (f.all SpEx) := hA
  have lb := hR.lt
  have hI : Hid (AllI b w w S (.slice pp m qq) f p x deep R 0) := ⟨Onl.refl _ _, hO, hT', x, hR, hQ, Nat.zero_le _⟩
  have hG' : Hid (b ≠ 0) := hG
  clear hT0 hm hA hO hT' hR hQ hG
  go_enter Tryz.func101, Tryz.ntmps101
  go_upto_region 1 with fail
  go_loopw [10] (fun i wr => ∃ (j : Nat) (V : World), i = .int .i64 j ∧ V = wr ∧ Hid (AllI b w V S (.slice pp m qq) f p x deep R j) ∧ j ≤ m) (fun i _ => m - (intOf i).toNat)
  case atStart => exact ⟨0, w, rfl, rfl, hI, by omega⟩
  case round =>
    clear hI
    obtain ⟨j, V, rfl, e, hI, hj⟩ := hrel
    subst e
    obtain ⟨xj, hR, hQ, jx⟩ := hI.out.c
    have on := hI.out.on
    have hO := hI.out.O
    have hTT := hI.out.T
    clear hI
    by_cases cj : j < m
    · have cj' : (j : Int) < (m : Int) := by omega
      obtain ⟨op, tx, ty, ks, hf⟩ := Fo.drop_at (f := f) (j := j) (by rw [hm'.out]; exact cj)
      have hal := Fo.all_drop j hA'.out
      rw [hf] at hQ hal
      have hQ2 : ((ruE deep ⟨op, tx, ty, ks⟩ xj).bind fun x => ruF deep (f.drop (j + 1)) x).map (fun y => (p, y)) = R := by
        rw [← ruF_cons]; exact hQ
      obtain ⟨p2, q2, e2, hT⟩ := hTT
      obtain ⟨rfl, e4, rfl⟩ := Value.slice.inj e2
      clear e2 e4
      rcases hT with hT | ⟨c, u, rfl, hT⟩
      · exfalso; have := hm'.out; rw [hT] at this; simp [Fo.len] at this; omega
      have hTT' : Hid (SlF V S (.slice (some ⟨c, u, none⟩) m qq) f) := ⟨_, _, by rw [hm'.out], Or.inr ⟨c, u, rfl, hT⟩⟩
      have hTj := FoAt.drop j hT
      rw [hf] at hTj
      obtain ⟨⟨k0, k1, k2, s3, k3, hs3⟩, _, lc⟩ := hTj.head
      obtain ⟨p3, q3, rfl, hs3'⟩ := hs3
      have hs4 : Hid (SlF V S (.slice p3 ks.len q3) ks) := ⟨p3, q3, rfl, hs3'⟩
      have kE := fun Y h1 h3 h4 => hal.1 deep p xj S p3 q3 b Y hd h1 hG'.out hS h3 h4
      have ix := ex_ix c u m qq j cj
      have cV : c < V.heap.size := World.block_lt_of_cell? V _ k0
      have jl : j ≤ 2048 := by have := hR.xl; simp only at this; omega
      have wj : IntKind.i64.wrap ((j : Int) + 1) = ((j + 1 : Nat) : Int) := by rw [IntKind.wrap_i64]; omega
      have hR' : Hid (RuAt V b (p, xj)) := hR
      have hf' : Hid (f.drop j = .cons op tx ty ks (f.drop (j + 1))) := hf
      have jx' : Hid (j ≤ xj) := jx
      clear hQ hTj hs3' lc hT hal hR jx hf
      obtain ⟨n3, hn3⟩ : ∃ n, ks.len = n := ⟨_, rfl⟩
      have hn3' : Hid (ks.len = n3) := hn3
      rw [hn3] at k3 hs4 kE
      clear hn3
      generalize u + j * 4 = o at *
      cases hr : ruE deep ⟨op, tx, ty, ks⟩ xj with
      | none =>
        obtain rfl : R = none := by rw [← hQ2, hr]; exact rfl
        rw [hr] at kE
        clear hQ2 hr
        go_wp2_with (first
          | (go_at_call 102; (refine (kE _ (hO.bel (pb_new (Below.refl _ _) _)) (hs4.out.kp (Below.kp (pb_new (Below.refl _ _) _) _)) (hR'.out.bel (pb_new (Below.refl _ _) _))).mono ?_); rintro e v1 ⟨on1, rfl⟩; replace on1 := (on.below (pb_new (Below.refl _ _) _)).trans on1)
          | fail)
        exact ⟨rfl, on1, rfl⟩
      | some x2 =>
        have hQ3 : Hid ((ruF deep (f.drop (j + 1)) x2).map (fun y => (p, y)) = R) := by rw [hr] at hQ2; exact hQ2
        have x2l : Hid (xj + 1 ≤ x2 ∧ j ≤ xj) := ⟨ruE_lt hr, jx'.out⟩
        rw [hr] at kE
        clear hQ2 hr
        go_wp2_with (first
          | (go_at_call 102; (refine (kE _ (hO.bel (pb_new (Below.refl _ _) _)) (hs4.out.kp (Below.kp (pb_new (Below.refl _ _) _) _)) (hR'.out.bel (pb_new (Below.refl _ _) _))).mono ?_); rintro e v1 ⟨on1, rfl, h1⟩)
          | fail)
        have g1 := pb_new (Below.refl V.heap.size V) (.cells #[.int .i64 op, .string tx, .int .i64 ty, .slice p3 n3 q3] 85)
        exact ⟨⟨j + 1, v1, by go_num, rfl, ⟨(on.below g1).trans on1, (hO.bel g1).onl hG'.out on1, (hTT'.out.kp (Below.kp g1 _)).kp (on1.kp hS), x2, h1, hQ3.out, by have := x2l.out; omega⟩, by omega⟩, by simp [intOf]; omega⟩
    · obtain rfl : j = m := by omega
      obtain rfl : R = some (p, xj) := by
        rw [← hQ, ← hm'.out, Fo.drop_end]; rfl
      have nn : ¬ ((j : Int) < (j : Int)) := by omega
      clear hQ
      go_wp2_with fail
      exact bodyPost_end (v := .tuple #[]) (by simp [results, Tryz.results101, go_sem]) rfl ⟨on, rfl, hR⟩
theorem ex_of : ∀ (f : Fo), f.szs → f.all SpEx
  | .nil, _ => trivial
  | .cons op tx ty ks r, h => ⟨ex_over ⟨op, tx, ty, ks⟩ h.1 (pall ks (ex_of ks h.2.1)), ex_of r h.2.2⟩
theorem pall_any (f : Fo) (h : f.szs) : SpX f := pall f (ex_of f h)
theorem pex_any (e : Ex) (hz : e.tx.size ≤ 9223372036854775807) (h : e.ks.szs) : SpEx e := ex_over e hz (pall_any e.ks h)
end Go.Proofs.YtknoibocpbfmmaaGreatDoor

