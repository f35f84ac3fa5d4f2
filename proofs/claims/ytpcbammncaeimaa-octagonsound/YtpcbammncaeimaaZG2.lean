/- Texts of the proof, put together. -/
import Derived.Test.YtpcbammncaeimaaZG1
import Derived.Scope
import Derived.Laws.Tables
import Derived.Deep.WholeRow
import Derived.Laws.Cells
namespace Go.Proofs.Ytpcbammncaeimaa
open Go.RowKit
set_option linter.unusedVariables false
set_option linter.unusedSimpArgs false
def Agr (n : Nat) (A B : Mx) : Prop := ∀ a c, a < 2 * n → c < 2 * n → A a c = B a c
theorem Agr.symm {n : Nat} {A B : Mx} (h : Agr n A B) : Agr n B A := fun a c ha hc => (h a c ha hc).symm
theorem Agr.trans {n : Nat} {A B C : Mx} (h : Agr n A B) (k : Agr n B C) : Agr n A C := fun a c ha hc => (h a c ha hc).trans (k a c ha hc)
theorem Agr.fit {n : Nat} {A B : Mx} (h : Agr n A B) {u : Nat → Int} (f : Fit n A u) : Fit n B u := ⟨f.1, fun a b ha hb => by rw [← h a b ha hb]; exact f.2 a b ha hb⟩
theorem Agr.gov {n : Nat} {A B : Mx} (h : Agr n A B) {k : Nat} (hk : k < 2 * n) : Agr n (gov A k) (gov B k) := fun a c ha hc => by
  show min (A a c) (A a k + A (ot k) c) = min (B a c) (B a k + B (ot k) c)
  rw [h a c ha hc, h a k ha hk, h (ot k) c (ot_lt hk) hc]
theorem Agr.hlv {n : Nat} {A B : Mx} (h : Agr n A B) : Agr n (hlv A) (hlv B) := fun a c ha hc => by
  show min (A a c) (fh (A a a) + fh (A c c)) = min (B a c) (fh (B a a) + fh (B c c))
  rw [h a c ha hc, h a a ha ha, h c c hc hc]
theorem Agr.clo {n : Nat} {A B : Mx} (h : Agr n A B) (c : Clo n A) : Clo n B := fun k hk a b ha hb => by
  rw [← h a b ha hb, ← h a k ha hk, ← h (ot k) b (ot_lt hk) hb]
  exact c k hk a b ha hb
theorem Agr.hal {n : Nat} {A B : Mx} (h : Agr n A B) (c : Hal n A) : Hal n B := fun a b ha hb => by
  rw [← h a b ha hb, ← h a a ha ha, ← h b b hb hb]
  exact c a b ha hb
theorem pm_agr (n : Nat) (G M : Mx) : Agr n (pm (2 * n) (2 * n) 0 G M) G := fun a c ha hc => pm_all G M ha hc
theorem Tgt.to {n : Nat} {M A B : Mx} (t : Tgt n M A) (h : Agr n A B) : Tgt n M B where
  le := fun a b ha hb => by rw [← h a b ha hb]; exact t.le a b ha hb
  fit := fun u hu => h.fit (t.fit u hu)
  clo := h.clo t.clo
  hal := h.hal t.hal
  same := fun c k a b ha hb => by rw [← h a b ha hb]; exact t.same c k a b ha hb
theorem Tgt.of {n : Nat} {A B M : Mx} (t : Tgt n A M) (h : Agr n A B) : Tgt n B M where
  le := fun a b ha hb => by rw [← h a b ha hb]; exact t.le a b ha hb
  fit := fun u hu => t.fit u (h.symm.fit hu)
  clo := t.clo
  hal := t.hal
  same := fun c k a b ha hb => by rw [← h a b ha hb]; exact t.same (h.symm.clo c) (h.symm.hal k) a b ha hb
theorem gap_agr {n : Nat} {A B : Mx} (h : Agr n A B) (u : Nat → Int) : gap n A u = gap n B u := by
  unfold gap
  congr 1
  refine List.map_congr_left fun a ha => ?_
  congr 1
  refine List.map_congr_left fun b hb => ?_
  rw [h a b (by simpa using ha) (by simpa using hb)]
def rdM (W : World) (b : Nat) : Mx := fun i j => match W.cell? ⟨b, 2 + i * 16 + j, none⟩ with | some (.int _ v) => v | _ => 0
theorem OctAt.rd {W : World} {b n : Nat} {e : Bool} {M : Mx} (h : OctAt W b n e M) (hn : n ≤ 8) : Agr n (rdM W b) M := fun i j hi hj => by
  unfold rdM
  rw [h.hm i j (by omega) (by omega)]
theorem Fit.low {n : Nat} {M : Mx} {u : Nat → Int} (f : Fit n M u) (su : ∀ a, -1099511627776 ≤ u a ∧ u a ≤ 1099511627776) {a c : Nat} (ha : a < 2 * n) (hc : c < 2 * n) : -2199023255552 ≤ M a c := by
  have := f.2 a c ha hc
  have := su a
  have := su c
  omega
set_option maxRecDepth 100000 in
set_option maxHeartbeats 1600000 in
theorem otight (b n : Nat) (hn : n ≤ 8) (M : Mx) (u : Nat → Int) (fu : Fit n M u) (su : ∀ a, -1099511627776 ≤ u a ∧ u a ≤ 1099511627776) (hi : ∀ a c, a < 2 * n → c < 2 * n → M a c ≤ 4611686018427387903) (w : World) (h : OctAt w b n false M) :
    Calls Try.prog 59 #[.pointer (some ⟨b, 0, none⟩)] w fun r w' => r = .returned (.tuple #[]) ∧ (∃ M', OctAt w' b n false M' ∧ Tgt n M M') ∧ Onl b w w' := by
  obtain ⟨m, hm⟩ : ∃ m, 2 * n = m := ⟨_, rfl⟩
  have h16 : m ≤ 16 := by omega
  have k1 := fun V M hV => osides b n m false M hm h16 V hV
  have kg := fun V M k hk hd hs hV => ogo b n m false M hm h16 k hk hd hs V hV
  have kc := fun V M hd hV => ocon b n m false M hm h16 hd V hV
  have kh := fun V M hs hV => ohal b n m false M hm h16 hs V hV
  have hm' : Hid (2 * n = m) := hm
  go_enter Try.func59, Try.ntmps59
  go_wp2_with fail
  refine wp_scope_straight ?_
  go_wp2_with fail
  refine wp_label ?_
  go_wp2_with fail
  go_loopw [3] (fun p wr => ∃ (WR : World) (A : Mx), WR = wr ∧ OctAt wr b n false A ∧ Onl b w wr ∧ Hid (Fit n A u ∧ (∀ a c, a < 2 * n → c < 2 * n → A a c ≤ 4611686018427387903) ∧ ∀ M', Tgt n A M' → Tgt n M M')) (fun _ wr => gap n (rdM wr b) u)
  case atStart => exact ⟨_, M, rfl, h, Onl.refl _ _, fu, hi, fun _ q => q⟩
  case round =>
    clear h fu hi
    obtain ⟨WR, A, rfl, hO, cc, hA⟩ := hrel
    have he := hO.he
    have hgap : Hid (gap n (rdM WR b) u = gap n A u) := gap_agr (hO.rd hn) u
    clear hm
    go_wp2_with (first
      | (go_at_call 41; refine (k1 _ _ hO).mono ?_; rintro r w2 ⟨rfl, hw2⟩; subst w2)
      | fail)
    have hA' := hA.out
    obtain ⟨fA, iA, _⟩ := hA'
    have hlow : ∀ (B : Mx), Fit n B u → (∀ a c, a < 2 * n → c < 2 * n → B a c ≤ A a c) → ∀ a c, a < m → c < m → -4611686018427387904 ≤ B a c ∧ B a c ≤ 4611686018427387903 := fun B fB lB a c ha hc => by
      have := hm'.out
      have l1 := fB.low su (a := a) (c := c) (by omega) (by omega)
      have l2 := lB a c (by omega) (by omega)
      have l3 := iA a c (by omega) (by omega)
      omega
    clear fA
    go_loopw [10] (fun i wr => ∃ (WS : World) (k : Nat) (B : Mx), WS = wr ∧ k ≤ m ∧ i = .int .i64 k ∧ OctAt wr b n false B ∧ Hid (Agr n B (govs A k)) ∧ Onl b w wr) (fun i _ => m - (intOf i).toNat)
    case atStart => exact ⟨_, 0, A, rfl, by omega, rfl, hO, (fun a c _ _ => rfl), cc⟩
    case round =>
      clear hO cc he
      obtain ⟨WS, k, B, rfl, hk, rfl, hO, hB, cc⟩ := hrel
      by_cases ck : k < m
      · have ck' : (k : Int) < (m : Int) := by omega
        have fB : Fit n B u := hB.out.symm.fit (govs_fit hA.out.1 k (by have := hm'.out; omega))
        have hd : 0 ≤ B (ot k) k := by
          have := fB.opp (a := ot k) (ot_lt (by have := hm'.out; omega))
          rwa [ot_ot] at this
        have hs := hlow B fB fun a c ha hc => by rw [hB.out a c ha hc]; exact govs_le A a c k
        have hB2 : Agr n (pm m m 0 (gov B k) B) (govs A (k + 1)) := by
          rw [← hm'.out]
          exact (pm_agr n _ _).trans (hB.out.gov (by have := hm'.out; omega))
        have fB2 : Fit n (pm m m 0 (gov B k) B) u := hB2.symm.fit (govs_fit hA.out.1 (k + 1) (by have := hm'.out; omega))
        have hd2 : ∀ a, a < m → 0 ≤ pm m m 0 (gov B k) B a (ot a) := fun a ha => fB2.opp (by have := hm'.out; omega)
        have wc : IntKind.i64.wrap ((k : Int) + 1) = ((k + 1 : Nat) : Int) := by rw [IntKind.wrap_i64]; omega
        have q1 := kg _ _ k ck hd hs hO
        have q2 := fun V hV => kc V _ hd2 hV
        have hB3 : Hid (Agr n (pm m m 0 (gov B k) B) (govs A (k + 1))) := hB2
        clear hB hB2 fB fB2 hd hd2 hs hO hlow iA kg kc kh k1
        generalize pm m m 0 (gov B k) B = C at *
        go_wp2_with (first
          | (go_at_call 87; refine q1.mono ?_; rintro r w2 ⟨rfl, hO, c2⟩; replace cc := cc.trans c2; clear c2)
          | (go_at_call 88; refine (q2 _ hO).mono ?_; rintro r w3 ⟨rfl, k9, rfl⟩; replace hO := hO.drewN k9; replace cc := cc.drewN k9)
          | fail)
        exact ⟨⟨_, k + 1, C, rfl, by omega, by simp, hO, hB3, cc⟩, by simp [intOf]; omega⟩
      · have ek : k = m := by omega
        subst ek
        clear ck hk
        have ek := hm'.out
        have fG : Fit n (govs A k) u := govs_fit hA.out.1 k (by omega)
        have fB : Fit n B u := hB.out.symm.fit fG
        have hs := hlow B fB fun a c ha hc => by rw [hB.out a c ha hc]; exact govs_le A a c k
        have q1 := kh _ _ hs hO
        have hH : Hid (Agr n (pm k k 0 (hlv B) B) (hlv (govs A k))) := by
          have := (pm_agr n (hlv B) B).trans hB.out.hlv
          rw [ek] at this
          exact this
        have hstep : (∃ a c, a < k ∧ c < k ∧ hlv B a c < B a c) → Hid (∃ a c, a < 2 * n ∧ c < 2 * n ∧ hlv (govs A k) a c < govs A k a c) := fun ⟨a, c, ha, hc, hl⟩ => ⟨a, c, by omega, by omega, by rw [← hB.out.hlv a c (by omega) (by omega), ← hB.out a c (by omega) (by omega)]; exact hl⟩
        have hlast : (∀ a c, a < k → c < k → hlv B a c = B a c) → Hid (∀ a c, a < 2 * n → c < 2 * n → hlv (govs A k) a c = govs A k a c) := fun hl a c ha hc => by rw [← hB.out.hlv a c ha hc, ← hB.out a c ha hc]; exact hl a c (by omega) (by omega)
        clear ek hs hO hlow fB hB kg kc kh k1
        generalize hC : pm k k 0 (hlv B) B = C at *
        clear hC
        generalize hlv B = HB at *
        go_upto_region 8 with fail
        go_wp2_with (first
          | (go_at_call 89; refine q1.mono ?_; rintro r w2 ⟨⟨l, rfl, l0, l1⟩, hO, c2⟩; replace cc := cc.trans c2; clear c2; cases l)
          | fail)
        · have hl := (hlast (l0 (by first | rfl | trivial))).out
          have e1 := hm'.out
          have hT : Tgt n M C := hA.out.2.2 C ((tgt_last hA.out.1 (fun a c ha hc => by rw [e1]; exact hl a c ha hc)).to fun a c ha hc => by rw [e1, ← hl a c ha hc]; exact (hH.out a c ha hc).symm)
          refine (show ∀ (Q : Exit → Act → World → Prop) (a : Act) (W : World), Q .ret a W → Exit.noGoto Q .ret a W from fun _ _ _ q => q) _ _ _ ?_
          exact bodyPost_ret (results_none rfl _ _ _) rfl ⟨rfl, ⟨C, hO, hT⟩, cc⟩
        · obtain ⟨x, y, hx, hy, hl⟩ := (hstep (l1 (by first | rfl | trivial))).out
          have e1 := hm'.out
          refine ⟨⟨_, C, rfl, hO, cc, hH.out.symm.fit (hlv_fit fG), fun a c ha hc => ?_, fun M' t => hA.out.2.2 M' (tgt_step hA.out.1 hx hy (by rw [e1]; exact hl) (by rw [e1]; exact t.of hH.out))⟩, ?_⟩
          · rw [hH.out a c ha hc]
            exact Int.le_trans (hlv_le _ _ _) (Int.le_trans (govs_le A a c k) (hA.out.2.1 a c ha hc))
          · rw [hgap.out, gap_agr ((hO.rd hn).trans hH.out) u]
            exact gap_lt (fun a b => Int.le_trans (hlv_le _ _ _) (govs_le A a b k)) (hlv_fit fG) hx hy (Int.lt_of_lt_of_le hl (govs_le A x y k))
end Go.Proofs.Ytpcbammncaeimaa

namespace Go.Proofs.Ytpcbammncaeimaa
open Go.RowKit
set_option linter.unusedVariables false
set_option linter.unusedSimpArgs false
def low1 (M : Mx) (x y : Nat) (v : Int) : Mx := up1 M x y (min (M x y) v)
def low (M : Mx) (x y : Nat) (v : Int) : Mx := low1 (low1 M x y v) y x v
theorem OctAt.on {W W' : World} {b n : Nat} {e : Bool} {M : Mx} (h : OctAt W b n e M) (g : Below W.heap.size W W') : OctAt W' b n e M := by
  have hb : b < W.heap.size := World.block_lt_of_cell? W _ h.hv
  exact ⟨by rw [g.cell (by exact hb)]; exact h.hv, by rw [g.cell (by exact hb)]; exact h.he, fun i j hi hj => by rw [g.cell (by exact hb)]; exact h.hm i j hi hj, fun k => by rw [g.frozen (by exact hb)]; exact h.hf k⟩
theorem Onl.of {b : Nat} {w w' : World} (g : Below w.heap.size w w') : Onl b w w' := ⟨g.os, g.tape, g.output, g.size, fun k hk _ => g.block k hk⟩
theorem Onl.on {b : Nat} {w W w' : World} (h : Onl b w W) (g : Below W.heap.size W w') : Onl b w w' := h.trans (Onl.of g)
theorem Onl.below {b : Nat} {w w' : World} (h : Onl b w w') : Below (min b w.heap.size) w w' := ⟨h.os, h.tape, h.output, h.size, fun k hk => h.block k (by omega) (by omega)⟩
theorem Onl.cell {b c j : Nat} {w w' : World} (h : Onl b w w') (hc : c ≠ b) {v : Value} (q : w.cell? ⟨c, j, none⟩ = some v) : w'.cell? ⟨c, j, none⟩ = some v :=
  (World.cell?_of_block (h.block c (World.block_lt_of_cell? w _ q) hc)).trans q
set_option maxRecDepth 100000 in
set_option maxHeartbeats 1600000 in
theorem olower (b n : Nat) (M : Mx) (x y : Nat) (hx : x < 16) (hy : y < 16) (v : Int) (w : World) (h : OctAt w b n false M) :
    Calls Try.prog 58 #[.pointer (some ⟨b, 0, none⟩), .int .i64 x, .int .i64 y, .int .i64 v] w fun r w' => r = .returned (.tuple #[]) ∧ OctAt w' b n false (low M x y v) ∧ Onl b w w' := by
  have x1 := oix b x hx
  have x2 := oiy b (2 + x * 16) y hy
  have x3 := oix b y hy
  have x4 := oiy b (2 + y * 16) x hx
  have he := h.he
  have hf1 := h.hf (2 + x * 16 + y)
  have hf2 := h.hf (2 + y * 16 + x)
  have y1 := h.hm x y hx hy
  have hset := h.set hx hy (min (M x y) v)
  have hon := (Onl.refl b w).set (j := 2 + x * 16 + y) (.int .i64 (min (M x y) v))
  have y2 := hset.hm y x hy hx
  have hset2 := hset.set hy hx (min (up1 M x y (min (M x y) v) y x) v)
  have hon2 := hon.set (j := 2 + y * 16 + x) (.int .i64 (min (up1 M x y (min (M x y) v) y x) v))
  have hlow : low M x y v = up1 (up1 M x y (min (M x y) v)) y x (min (up1 M x y (min (M x y) v) y x) v) := rfl
  rw [hlow]
  clear hlow hset hon h
  generalize up1 (up1 M x y (min (M x y) v)) y x (min (up1 M x y (min (M x y) v) y x) v) = L at *
  generalize up1 M x y (min (M x y) v) y x = z2 at *
  have e1 : (if v < M x y then v else M x y) = min (M x y) v := by split <;> omega
  have e2 : (if v < z2 then v else z2) = min z2 v := by split <;> omega
  generalize min (M x y) v = m1 at *
  generalize M x y = z1 at *
  generalize min z2 v = m2 at *
  go_enter Try.func58, Try.ntmps58
  go_wp2_with fail
  go_region
  have q3 : ((w.setCell ⟨b, 2 + x * 16 + y, none⟩ (.int .i64 m1)).drew).cell? ⟨b, 2 + y * 16 + x, none⟩ = some (.int .i64 z2) := y2
  have q4 : ((w.setCell ⟨b, 2 + x * 16 + y, none⟩ (.int .i64 m1)).drew).frozen? ⟨b, 2 + y * 16 + x, none⟩ = false := by
    show (w.setCell ⟨b, 2 + x * 16 + y, none⟩ (.int .i64 m1)).frozen? ⟨b, 2 + y * 16 + x, none⟩ = false
    rw [World.frozen?_setCell]
    exact hf2
  have q5 : OctAt (((w.setCell ⟨b, 2 + x * 16 + y, none⟩ (.int .i64 m1)).drew).setCell ⟨b, 2 + y * 16 + x, none⟩ (.int .i64 m2)) b n false L := ⟨hset2.hv, hset2.he, hset2.hm, hset2.hf⟩
  have q6 : Onl b w (((w.setCell ⟨b, 2 + x * 16 + y, none⟩ (.int .i64 m1)).drew).setCell ⟨b, 2 + y * 16 + x, none⟩ (.int .i64 m2)) := ⟨hon2.os, hon2.tape, hon2.output, hon2.size, hon2.block⟩
  clear y2 hf2 hset2 hon2 y1 he hf1 e1
  generalize (w.setCell ⟨b, 2 + x * 16 + y, none⟩ (.int .i64 m1)).drew = W at *
  go_wp2_with fail
  go_region
  go_wp2_with fail
  exact bodyPost_end (results_none rfl _ _ _) rfl ⟨rfl, q5.drew, q6.drew⟩
set_option maxRecDepth 100000 in
theorem oisvar (b n : Nat) (e : Bool) (M : Mx) (i : Nat) (hi : i < n) (w : World) (h : OctAt w b n e M) : Calls Try.prog 51 #[.pointer (some ⟨b, 0, none⟩), .int .i64 i] w fun r w' => r = .returned (.bool true) ∧ w' = w := by
  have hv := h.hv
  have g1 : (0 : Int) ≤ (i : Int) := by omega
  have g2 : (i : Int) < (n : Int) := by omega
  go_enter Try.func51, Try.ntmps51
  go_wp2_with fail
  go_ret
  exact ⟨rfl, rfl⟩
theorem td2 (z : Int) : z.tdiv 2 = if 0 ≤ z then z / 2 else -(-z / 2) := by
  split
  · rw [Int.tdiv_eq_ediv_of_nonneg (by assumption)]
  · have h := Int.neg_tdiv (-z) 2
    rw [Int.neg_neg, Int.tdiv_eq_ediv_of_nonneg (a := -z) (by omega)] at h
    exact h
set_option maxRecDepth 100000 in
theorem ogreat (b n : Nat) (e : Bool) (M : Mx) (x : Nat) (hx : x < 16) (h1 : -4611686018427387904 ≤ M x x) (h2 : M x x ≤ 4611686018427387904) (w : World) (h : OctAt w b n e M) : Calls Try.prog 52 #[.pointer (some ⟨b, 0, none⟩), .int .i64 x] w fun r w' => r = .returned (.int .i64 ((M x x).tdiv 2)) ∧ w' = w := by
  have x1 := oix b x hx
  have x2 := oiy b (2 + x * 16) x hx
  have y1 := h.hm x x hx hx
  generalize M x x = z at *
  have wz : wrap64 (z.tdiv 2) = z.tdiv 2 := by unfold wrap64; rw [td2]; split <;> omega
  clear h1 h2
  go_enter Try.func52, Try.ntmps52
  go_wp2_with fail
  rw [wz]
  go_ret
  exact ⟨rfl, rfl⟩
set_option maxRecDepth 100000 in
theorem oij (p m j : Nat) (hj : j < m) (w : World) : (Instr.indexAt 112 (.slice (some ⟨p, 0, none⟩) m m) (.int .i64 j)).run Try.prog w = .ok (.pointer (some ⟨p, j, none⟩)) w := by
  have e2 : ∀ w, (sizeOf (Try.prog.elem 112)).run Try.prog w = .ok 1 w := fun w => by kernel_rfl
  rw [run_indexAt_slice (h := by first | exact Try.underlying112 | rfl), if_pos ⟨by omega, by omega⟩, e2]
  show Result.ok (Value.pointer (some (Addr.add ⟨p, 0, none⟩ ((j : Int).toNat * 1)))) w = _
  rw [Go.WideShapes.add_plain, Int.toNat_natCast, Nat.mul_one, Nat.zero_add]
set_option maxRecDepth 100000 in
set_option maxHeartbeats 800000 in
theorem ofault (b n : Nat) (e : Bool) (M : Mx) (c far : Int) (h1 : -far ≤ c) (h2 : c ≤ far) (h3 : 0 ≤ far) (h4 : far ≤ 34359738368) (p m : Nat) (hm : m ≤ 2) (l : Nat → Nat) (hl : ∀ j, j < m → l j < n) (w : World) (h : OctAt w b n e M) (hc : ∀ j, j < m → w.cell? ⟨p, j, none⟩ = some (.int .i64 (l j))) :
    Calls Try.prog 55 #[.pointer (some ⟨b, 0, none⟩), .int .i64 c, .int .i64 far, .slice (some ⟨p, 0, none⟩) m m] w fun r w' => r = .returned (.int .i64 0) ∧ w' = w := by
  have k1 := fun i hi => oisvar b n e M i hi w h
  have wf : IntKind.i64.wrap (-far) = -far := by rw [IntKind.wrap_i64]; omega
  have g1 : ¬ c < -far := by omega
  have g2 : ¬ far < c := by omega
  clear h1 h2 h3 h4
  go_enter Try.func55, Try.ntmps55
  go_wp2_with fail
  go_loopw [15] (fun i wr => ∃ (j : Nat), j ≤ m ∧ i = .int .i64 j ∧ wr = w) (fun i _ => m - (intOf i).toNat)
  case atStart => exact ⟨0, by omega, rfl, rfl⟩
  case round =>
    obtain ⟨j, hj, rfl, rfl⟩ := hrel
    by_cases cj : j < m
    · have cj' : (j : Int) < (m : Int) := by omega
      have x1 : ∀ w : World, (Instr.indexAt 112 (.slice (some ⟨p, 0, none⟩) m m) (.int .i64 j)).run Try.prog w = .ok (.pointer (some ⟨p, j, none⟩)) w := oij p m j cj
      have y1 := hc j cj
      have k1j := k1 (l j) (hl j cj)
      have wc : IntKind.i64.wrap ((j : Int) + 1) = ((j + 1 : Nat) : Int) := by rw [IntKind.wrap_i64]; omega
      generalize l j = z at *
      clear k1 hl hc
      go_wp2_with (first
        | (go_at_call 51; refine k1j.mono ?_; rintro r w2 ⟨rfl, hw2⟩; subst w2)
        | fail)
      exact ⟨⟨j + 1, by omega, by simp, by first | rfl | trivial⟩, by simp [intOf]; omega⟩
    · have ej : j = m := by omega
      subst ej
      clear cj
      go_wp2_with fail
      go_ret
      exact ⟨rfl, rfl⟩
end Go.Proofs.Ytpcbammncaeimaa

namespace Go.Proofs.Ytpcbammncaeimaa
open Go.RowKit
set_option linter.unusedVariables false
set_option linter.unusedSimpArgs false
theorem low1_le (M : Mx) (x y : Nat) (v : Int) (a c : Nat) : low1 M x y v a c ≤ M a c := by
  unfold low1 up1
  split
  · rename_i h
    rw [h.1, h.2]
    omega
  · omega
theorem low1_at (M : Mx) (x y : Nat) (v : Int) : low1 M x y v x y ≤ v := by
  unfold low1 up1
  rw [if_pos ⟨rfl, rfl⟩]
  omega
theorem low1_fit {n : Nat} {M : Mx} {u : Nat → Int} (f : Fit n M u) {x y : Nat} {v : Int} (h : u x + u y ≤ v) : Fit n (low1 M x y v) u := by
  refine ⟨f.1, fun a b ha hb => ?_⟩
  have h1 := f.2 a b ha hb
  unfold low1 up1
  split
  · rename_i q
    rw [q.1, q.2] at h1 ⊢
    omega
  · exact h1
theorem low_le (M : Mx) (x y : Nat) (v : Int) (a c : Nat) : low M x y v a c ≤ M a c := Int.le_trans (low1_le _ _ _ _ _ _) (low1_le _ _ _ _ _ _)
theorem low_1 (M : Mx) (x y : Nat) (v : Int) : low M x y v x y ≤ v := Int.le_trans (low1_le _ _ _ _ _ _) (low1_at _ _ _ _)
theorem low_2 (M : Mx) (x y : Nat) (v : Int) : low M x y v y x ≤ v := low1_at _ _ _ _
theorem low_fit {n : Nat} {M : Mx} {u : Nat → Int} (f : Fit n M u) {x y : Nat} {v : Int} (h : u x + u y ≤ v) : Fit n (low M x y v) u := low1_fit (low1_fit f h) (by omega)
theorem ob_new {w : World} {b n : Nat} {e : Bool} {M : Mx} (h : OctAt w b n e M) (o : Obj) : OctAt (w.alloc o) b n e M := h.on ((Below.refl _ _).alloc (Nat.le_refl _) _)
set_option maxRecDepth 100000 in
set_option maxHeartbeats 800000 in
theorem olimit (b n : Nat) (hn : n ≤ 8) (M : Mx) (i k : Nat) (hi : i < n) (hk : k < n) (gi gk : Bool) (c : Int) (h1 : -34359738368 ≤ c) (h2 : c ≤ 34359738368) (u : Nat → Int) (fu : Fit n (low M (2 * i + gi.toNat) (2 * k + gk.toNat) c) u) (su : ∀ a, -1099511627776 ≤ u a ∧ u a ≤ 1099511627776) (hM : ∀ a c, a < 2 * n → c < 2 * n → M a c ≤ 4611686018427387903) (w : World) (h : OctAt w b n false M) :
    Calls Try.prog 30 #[.pointer (some ⟨b, 0, none⟩), .int .i64 i, .bool gi, .int .i64 k, .bool gk, .int .i64 c] w fun r w' => r = .returned (.int .i64 0) ∧ (∃ M', OctAt w' b n false M' ∧ Tgt n (low M (2 * i + gi.toNat) (2 * k + gk.toNat) c) M') ∧ Onl b w w' := by
  have bi := Bool.toNat_le gi
  have bk := Bool.toNat_le gk
  have s1 := oside i (by omega) gi
  have s2 := oside k (by omega) gk
  have hO := ob_new h (.cells #[.int .i64 i, .int .i64 k] 3)
  have cc : Onl b w (w.alloc (.cells #[.int .i64 i, .int .i64 k] 3)) := Onl.of ((Below.refl _ _).alloc (Nat.le_refl _) _)
  have kf := ofault b n false M c 34359738368 (by omega) (by omega) (by omega) (by omega) w.heap.size 2 (by omega) (fun j => if j = 0 then i else k) (fun j hj => by show (if j = 0 then i else k) < n; split <;> omega) _ hO (fun j hj => by
    have : j = 0 ∨ j = 1 := by omega
    rcases this with rfl | rfl <;> simp [go_sem])
  have kl := fun V hV => olower b n M (2 * i + gi.toNat) (2 * k + gk.toNat) (by omega) (by omega) c V hV
  have kt := fun V hV => otight b n hn (low M (2 * i + gi.toNat) (2 * k + gk.toNat) c) u fu su (fun a d ha hd => Int.le_trans (low_le _ _ _ _ _ _) (hM a d ha hd)) V hV
  clear fu hM bi bk h
  generalize low M (2 * i + gi.toNat) (2 * k + gk.toNat) c = L at *
  generalize 2 * i + gi.toNat = x at *
  generalize 2 * k + gk.toNat = y at *
  go_enter Try.func30, Try.ntmps30
  go_wp2_with (first
    | (go_at_call 55; refine kf.mono ?_; rintro r w2 ⟨rfl, hw2⟩; subst w2)
    | (go_at_call_of 53 i; refine (s1 _).mono ?_; rintro r w3 ⟨rfl, hw3⟩; subst w3; clear s1)
    | (go_at_call_of 53 k; refine (s2 _).mono ?_; rintro r w3 ⟨rfl, hw3⟩; subst w3; clear s2)
    | (go_at_call 58; refine (kl _ hO).mono ?_; rintro r w4 ⟨rfl, hO2, c4⟩; replace cc := cc.trans c4; clear c4)
    | (go_at_call 59; refine (kt _ hO2).mono ?_; rintro r w5 ⟨rfl, hO3, c5⟩; replace cc := cc.trans c5; clear c5)
    | fail)
  go_ret
  exact ⟨rfl, hO3, cc⟩
set_option maxRecDepth 100000 in
theorem oempty (b n : Nat) (e : Bool) (M : Mx) (w : World) (h : OctAt w b n e M) : Calls Try.prog 21 #[.pointer (some ⟨b, 0, none⟩)] w fun r w' => r = .returned (.bool e) ∧ w' = w := by
  have he := h.he
  go_enter Try.func21, Try.ntmps21
  go_wp2_with fail
  go_ret
  exact ⟨rfl, rfl⟩
set_option maxRecDepth 100000 in
theorem obound (b n : Nat) (hn : n ≤ 8) (M : Mx) (i k : Nat) (hi : i < n) (hk : k < n) (gi gk : Bool) (w : World) (h : OctAt w b n false M) :
    Calls Try.prog 38 #[.pointer (some ⟨b, 0, none⟩), .int .i64 i, .bool gi, .int .i64 k, .bool gk] w fun r w' => r = .returned (.int .i64 (M (2 * i + gi.toNat) (2 * k + gk.toNat))) ∧ ∃ q, w' = w.drewN q := by
  have bi := Bool.toNat_le gi
  have bk := Bool.toNat_le gk
  have s1 := oside i (by omega) gi
  have s2 := oside k (by omega) gk
  have v1 := oisvar b n false M i hi w h
  have v2 := oisvar b n false M k hk w h
  have he := h.he
  have x1 := oix b (2 * i + gi.toNat) (by omega)
  have x2 := oiy b (2 + (2 * i + gi.toNat) * 16) (2 * k + gk.toNat) (by omega)
  have y1 := h.hm (2 * i + gi.toNat) (2 * k + gk.toNat) (by omega) (by omega)
  generalize M (2 * i + gi.toNat) (2 * k + gk.toNat) = z at *
  generalize 2 * i + gi.toNat = x at *
  generalize 2 * k + gk.toNat = y at *
  clear bi bk
  go_enter Try.func38, Try.ntmps38
  go_upto_region 5 with (first
    | (go_at_call_of 51 i; refine v1.mono ?_; rintro r w2 ⟨rfl, hw2⟩; subst w2; clear v1)
    | (go_at_call_of 51 k; refine v2.mono ?_; rintro r w2 ⟨rfl, hw2⟩; subst w2; clear v2)
    | fail)
  go_quiet (first
    | (go_at_call_of 53 i; exact Calls.quiet_of ((s1 _).mono fun r w' q => ⟨q.1, 0, q.2⟩))
    | (go_at_call_of 53 k; exact Calls.quiet_of ((s2 _).mono fun r w' q => ⟨q.1, 0, q.2⟩))
    | fail)
  go_wp2_with fail
  go_ret
  exact ⟨rfl, _, rfl⟩
end Go.Proofs.Ytpcbammncaeimaa

namespace Go.Proofs.Ytpcbammncaeimaa
open Go.RowKit
set_option linter.unusedVariables false
set_option linter.unusedSimpArgs false
theorem zc0 (x : Value) : (#[x, .bool false] ++ Array.replicate 256 (.int .i64 0) : Array Value)[0]? = some x := by
  rw [Array.getElem?_append_left (by simp)]; rfl
theorem zc1 (x : Value) : (#[x, .bool false] ++ Array.replicate 256 (.int .i64 0) : Array Value)[1]? = some (.bool false) := by
  rw [Array.getElem?_append_left (by simp)]; rfl
theorem zc2 (x : Value) (k : Nat) (hk : k < 256) : (#[x, .bool false] ++ Array.replicate 256 (.int .i64 0) : Array Value)[2 + k]? = some (.int .i64 0) := by
  rw [Array.getElem?_append_right (by simp), Array.getElem?_replicate, if_pos (by simp; omega)]
theorem ocl (V : Array Value) (k : Nat) (w : World) : (w.alloc (.cells V 70)).cell? ⟨w.heap.size, k, none⟩ = V[k]? := by
  simp [go_sem]
set_option maxRecDepth 100000 in
set_option maxHeartbeats 3200000 in
theorem onew (n : Nat) (h1 : 1 ≤ n) (h8 : n ≤ 8) (w : World) : Calls Try.prog 31 #[.int .i64 n] w fun r w' => r = .returned (.pointer (some ⟨w.heap.size, 0, none⟩)) ∧ (∃ M, OctAt w' w.heap.size n false M ∧ ∀ a c, a < 2 * n → c < 2 * n → M a c = bx a c) ∧ Below w.heap.size w w' := by
  have g1 : ¬ (n : Int) < 1 := by omega
  have g2 : ¬ (8 : Int) < (n : Int) := by omega
  go_enter Try.func31, Try.ntmps31
  go_upto_region 3 with fail
  go_step
  go_step
  go_step
  go_step
  refine wpList_build rfl 70 _ rfl (by kernel_rfl) ?_
  generalize hV : (Program.built Try.prog 70 _).getD #[] = V
  have hV2 : V = #[.int .i64 n, .bool false] ++ Array.replicate 256 (.int .i64 0) := hV.symm.trans (by kernel_rfl)
  clear hV
  have hO : OctAt (w.alloc (.cells V 70)) w.heap.size n false (fun _ _ => 0) := by
    refine ⟨?_, ?_, fun i j hi hj => ?_, fun k => by simp [go_sem]⟩
    · rw [ocl, hV2]; exact zc0 _
    · rw [ocl, hV2]; exact zc1 _
    · rw [ocl, hV2, show 2 + i * 16 + j = 2 + (i * 16 + j) by omega]; exact zc2 _ _ (by omega)
  have bW : Below w.heap.size w (w.alloc (.cells V 70)) := (Below.refl _ _).alloc (Nat.le_refl _) _
  clear hV2
  have kf := ofill w.heap.size n (2 * n) false (fun _ _ => 0) rfl (by omega) 65 #[] (fun a v => enters_of Try.func65 (by kernel_rfl) rfl a v) bx (fun _ => True) (fun _ _ _ _ => trivial) (fun a c V ha hc _ => (obox a c (by omega) (by omega) V).mono fun r w' q => ⟨q.1, 0, q.2⟩) _ hO trivial
  clear hO
  go_wp2_with (first
    | (go_at_call 64; refine kf.mono ?_; rintro r w1 ⟨rfl, hO, cc⟩)
    | fail)
  go_ret
  refine ⟨rfl, ⟨_, hO, fun a c ha hc => pm_all _ _ ha hc⟩, ?_⟩
  exact ⟨cc.os.trans bW.os, cc.tape.trans bW.tape, cc.output.trans bW.output, Nat.le_trans bW.size cc.size, fun k hk => (cc.block k (Nat.lt_of_lt_of_le hk bW.size) (by omega)).trans (bW.block k hk)⟩
end Go.Proofs.Ytpcbammncaeimaa

namespace Go.Proofs.Ytpcbammncaeimaa
open Go.RowKit
set_option linter.unusedVariables false
set_option linter.unusedSimpArgs false
def octC (n : Nat) (e : Bool) (M : Mx) : List Value := .int .i64 n :: .bool e :: (List.range 256).map fun k => .int .i64 (M (k / 16) (k % 16))
theorem octC_len (n : Nat) (e : Bool) (M : Mx) : (octC n e M).length = 258 := by simp [octC]
theorem octC_at (n : Nat) (e : Bool) (M : Mx) (k : Nat) (hk : k < 256) : (octC n e M)[2 + k]? = some (.int .i64 (M (k / 16) (k % 16))) := by
  rw [show 2 + k = k + 1 + 1 by omega]
  simp [octC, hk]
set_option maxRecDepth 100000 in
theorem oload (b n : Nat) (e : Bool) (M : Mx) (w : World) (h : OctAt w b n e M) : (Instr.loadAt 70 (.pointer (some ⟨b, 0, none⟩))).run Try.prog w = .ok (.agg (octC n e M).toArray) w := by
  have hl : (loadCells ⟨b, 0, none⟩ 258).run Try.prog w = .ok (octC n e M).toArray w := by
    have := run_loadCells_list (P := Try.prog) w ⟨b, 0, none⟩ (octC n e M) (fun j v hv => by
      rw [Go.WideShapes.add_plain, Nat.zero_add]
      have hj : j < 258 := by rw [← octC_len n e M]; exact (List.getElem?_eq_some_iff.1 hv).1
      match j, hj, hv with
      | 0, _, hv => cases hv; exact h.hv
      | 1, _, hv => cases hv; exact h.he
      | k + 2, hj, hv =>
        have hk := octC_at n e M k (by omega)
        rw [show 2 + k = k + 2 by omega] at hk
        rw [hk] at hv
        cases hv
        have := h.hm (k / 16) (k % 16) (by omega) (by omega)
        rw [show 2 + k / 16 * 16 + k % 16 = k + 2 by omega] at this
        exact this)
    rw [octC_len] at this
    exact this
  have ha : (isAgg 70).run Try.prog w = .ok true w := by kernel_rfl
  have hz : (sizeOf 70).run Try.prog w = .ok 258 w := by kernel_rfl
  simp only [Instr.loadAt, Instr.sureAddr, loadVar, Sem.run_bind, Sem.run_pure, Result.andThen, ha, hz, hl, if_true]
theorem OctAt.made (n : Nat) (e : Bool) (M : Mx) (w : World) : OctAt (w.alloc (.cells (octC n e M).toArray 70)) w.heap.size n e M := by
  have hc : ∀ k, (w.alloc (.cells (octC n e M).toArray 70)).cell? ⟨w.heap.size, k, none⟩ = (octC n e M)[k]? := fun k => by rw [ocl]; simp
  refine ⟨by rw [hc]; rfl, by rw [hc]; rfl, fun i j hi hj => ?_, fun k => by simp [go_sem]⟩
  rw [hc, show 2 + i * 16 + j = 2 + (i * 16 + j) by omega, octC_at n e M _ (by omega), show (i * 16 + j) / 16 = i by omega, show (i * 16 + j) % 16 = j by omega]
def zC : Array Value := #[.int .i64 0, .bool false] ++ Array.replicate 256 (.int .i64 0)
set_option maxRecDepth 100000 in
theorem oalloc (w : World) : (Instr.alloc 70 true (.tuple #[])).run Try.prog w = .ok (.pointer (some ⟨w.heap.size, 0, none⟩)) (w.alloc (.cells zC 70)) := by kernel_rfl
set_option maxRecDepth 100000 in
theorem ostore (n : Nat) (e : Bool) (M : Mx) (w : World) : (Instr.storeAt 70 (.pointer (some ⟨w.heap.size, 0, none⟩)) (.agg (octC n e M).toArray)).run Try.prog (w.alloc (.cells zC 70)) = .ok () (w.alloc (.cells (octC n e M).toArray 70)) :=
  run_storeAt_new w 70 zC _ (by rw [List.size_toArray, octC_len]; kernel_rfl) (by rw [show (octC n e M).toArray.size = 258 by rw [List.size_toArray, octC_len]]; simp [zC]) (by
    rw [Array.all_eq_true']
    intro x hx
    simp only [octC, List.mem_toArray, List.mem_cons, List.mem_map] at hx
    rcases hx with rfl | rfl | ⟨k, _, rfl⟩ <;> rfl)
theorem wp_load_by {o : Oper} {a : Act} {w : World} {K : Act → World → Prop} {Q : Exit → Act → World → Prop} (ty : TypeId) (x : Operand) (ho : o.op = .load ty x) (p v : Value) (hx : a.eval x = p) (hr : (Instr.loadAt ty p).run Try.prog w = .ok v w) (h : K (a.put o.dst v) w) : o.wp Try.prog a w K Q := by
  unfold Oper.wp execOp
  simp only [ho, hx, Sem.run_bind, hr, Result.andThen_ok]
  exact h
theorem wp_alloc_by {o : Oper} {a : Act} {w w' : World} {K : Act → World → Prop} {Q : Exit → Act → World → Prop} (ty : TypeId) (ho : o.op = .alloc ty) (v : Value) (hr : (Instr.alloc ty true (.tuple #[])).run Try.prog w = .ok v w') (h : K (a.put o.dst v) w') : o.wp Try.prog a w K Q := by
  unfold Oper.wp execOp
  simp only [ho, Sem.run_bind, hr, Result.andThen_ok]
  exact h
theorem wp_store_by {o : Oper} {a : Act} {w w' : World} {K : Act → World → Prop} {Q : Exit → Act → World → Prop} (ty : TypeId) (x y : Operand) (ho : o.op = .store ty x y) (p v : Value) (hx : a.eval x = p) (hy : a.eval y = v) (hr : (Instr.storeAt ty p v).run Try.prog w = .ok () w') (h : K (a.put o.dst undef) w') : o.wp Try.prog a w K Q := by
  unfold Oper.wp execOp
  simp only [ho, hx, hy, Sem.run_bind, hr, Result.andThen_ok]
  exact h
set_option maxRecDepth 100000 in
set_option maxHeartbeats 800000 in
theorem ofork (b n : Nat) (e : Bool) (M : Mx) (w : World) (h : OctAt w b n e M) : Calls Try.prog 19 #[.pointer (some ⟨b, 0, none⟩)] w fun r w' => r = .returned (.pointer (some ⟨w.heap.size, 0, none⟩)) ∧ OctAt w' w.heap.size n e M ∧ Below w.heap.size w w' := by
  have h1 := oload b n e M w h
  have h2 := oalloc w
  have h3 := ostore n e M w
  have h4 := OctAt.made n e M w
  have h5 : Below w.heap.size w (w.alloc (.cells (octC n e M).toArray 70)) := (Below.refl _ _).alloc (Nat.le_refl _) _
  generalize (octC n e M).toArray = C at *
  generalize zC = Z at *
  clear h
  go_enter Try.func19, Try.ntmps19
  go_wp2_with fail
  refine wp_load_by 70 (.tmp 7) rfl _ _ rfl h1 ?_
  go_step
  go_step
  refine wp_alloc_by 70 rfl _ h2 ?_
  go_step
  go_step
  trace_state
  refine wp_store_by 70 (.tmp 3) (.tmp 8) rfl _ _ rfl rfl h3 ?_
  go_wp2_with fail
  trace_state
  go_ret
  exact ⟨rfl, h4, h5⟩
end Go.Proofs.Ytpcbammncaeimaa

