/- TopRound: the law. -/
import Derived.Test.YtdfbmafeemflaaaOcW
import Derived.Test.YtdfbmafeemflaaaOcI
namespace Go.Proofs.Ytdfbmafeemflaaa
open Go.RowKit
set_option linter.unusedVariables false
set_option linter.unusedSimpArgs false
theorem below_onl3 {n b : Nat} {w W W' : World} (h : Below n w W) (g : Onl b W W') (hb : n ≤ b) (hs : n ≤ W.heap.size) : Below n w W' :=
  ⟨g.os.trans h.os, g.tape.trans h.tape, g.output.trans h.output, Nat.le_trans h.size g.size, fun k hk => (g.block k (by omega) (by omega)).trans (h.block k hk)⟩
theorem pt_su {x : Int} (h1 : -32768 ≤ x) (h2 : x ≤ 32767) (a : Nat) : -32768 ≤ (if a % 2 = 0 then x else -x) ∧ (if a % 2 = 0 then x else -x) ≤ 32768 := by split <;> omega
set_option maxRecDepth 100000 in
theorem oir (b j : Nat) (hj : j < 2) (w : World) : (Instr.indexAt 47 (.pointer (some ⟨b, 0, none⟩)) (.int .i64 j)).run Try.prog w = .ok (.pointer (some ⟨b, j, none⟩)) w := by
  have e1 : Try.prog.arrayLen 47 = 2 := by kernel_rfl
  have e2 : ∀ w, (sizeOf (Try.prog.elem 47)).run Try.prog w = .ok 1 w := fun w => by kernel_rfl
  rw [run_indexAt_array (h := by first | exact Try.underlying47 | rfl), e1, if_pos ⟨by omega, by omega⟩, e2]
  show Result.ok (Value.pointer (some (Addr.add ⟨b, 0, none⟩ ((j : Int).toNat * 1)))) w = _
  rw [Go.WideShapes.add_plain, Int.toNat_natCast, Nat.mul_one, Nat.zero_add]
/-- What the calls do, one behind the other. -/
structure Calls5 (b : Nat) (lo hh : Int) (g : Bool) (c : Int) : Prop where
  ks : ∀ M V, (∀ a c, a < 2 * 2 → c < 2 * 2 → M a c = bx a c) → OctAt V b 2 false M → Calls Try.prog 17 #[.pointer (some ⟨b, 0, none⟩), .int .i64 0, .agg #[.bool false, .int .i64 lo, .int .i64 hh]] V fun r w' => r = .returned (.int .i64 0) ∧ (∃ M', OctAt w' b 2 false M' ∧ Tgt 2 (low (low M 0 0 (2 * hh)) 1 1 (-2 * lo)) M') ∧ Onl b V w'
  kl : ∀ M M1 V, (∀ a c, a < 2 * 2 → c < 2 * 2 → M a c = bx a c) → Tgt 2 (low (low M 0 0 (2 * hh)) 1 1 (-2 * lo)) M1 → OctAt V b 2 false M1 → Calls Try.prog 15 #[.pointer (some ⟨b, 0, none⟩), .int .i64 1, .bool false, .int .i64 0, .bool true, .int .i64 3] V fun r w' => r = .returned (.int .i64 0) ∧ (∃ M', OctAt w' b 2 false M' ∧ Rd lo hh M') ∧ Onl b V w'
  k1 : ∀ M V, Rd lo hh M → OctAt V b 2 false M → Calls Try.prog 20 #[.pointer (some ⟨b, 0, none⟩), .int .i64 0, .bool g, .int .i64 c] V fun r w' => r = .returned (.int .i64 0) ∧ (∃ M', OctAt w' b 2 false M' ∧ Agr 2 M' (mv g 0 c M)) ∧ Onl b V w'
  k2 : ∀ M M3 V, Rd lo hh M → Agr 2 M3 (mv g 0 c M) → OctAt V b 2 false M3 → Calls Try.prog 20 #[.pointer (some ⟨b, 0, none⟩), .int .i64 0, .bool g, .int .i64 (bk g c)] V fun r w' => r = .returned (.int .i64 0) ∧ (∃ M', OctAt w' b 2 false M' ∧ Agr 2 M' M) ∧ Onl b V w'
theorem rd_low {lo hh : Int} {M : Mx} (h1 : -32768 ≤ lo) (h2 : lo ≤ 32767) (r : Rd lo hh M) {a d : Nat} (ha : a < 4) (hd : d < 4) : -65536 ≤ M a d := by
  have q := r.fit.2 a d ha hd
  have q1 := pt_su h1 h2 a
  have q2 := pt_su h1 h2 d
  simp only at q
  omega
theorem calls5 (b : Nat) {lo hh : Int} (h1 : -32768 ≤ lo) (h2 : lo ≤ hh) (h3 : hh ≤ 32767) (g : Bool) {c : Int} (c1 : -2147483648 ≤ c) (c2 : c ≤ 2147483647) : Calls5 b lo hh g c where
  ks := fun M V h hV => oset b 2 (by omega) M 0 (by omega) lo hh (by omega) h2 (by omega) _ (rd_set h1 h2 h3 h) (fun a => by have := pt_su h1 (show lo ≤ 32767 by omega) a; omega) (fun a d ha hd => by rw [h a d ha hd]; unfold bx; split <;> omega) V hV
  kl := fun M M1 V h t hV => (olimit b 2 (by omega) M1 1 0 (by omega) (by omega) false true 3 (by omega) (by omega) _ (rd_lim h1 h2 h3 h t) (fun a => by have := pt_su h1 (show lo ≤ 32767 by omega) a; omega)
    (fun a d ha hd => Int.le_trans (t.le a d ha hd) (Int.le_trans (low_le _ _ _ _ _ _) (Int.le_trans (low_le _ _ _ _ _ _) (by rw [h a d ha hd]; unfold bx; split <;> omega)))) V hV).mono fun r w' q => ⟨q.1, (let ⟨M', hO, t2⟩ := q.2.1; ⟨M', hO, rd_is h1 h2 h3 h t t2⟩), q.2.2⟩
  k1 := fun M V r hV => by
    have ag := shL_agr (rd_mv h1 h2 h3 r g c1 (by omega)).1 (rd_mv h1 h2 h3 r g c1 (show c ≤ 2147483648 by omega)).2
    refine (oshift b 2 (by omega) M 0 (by omega) g c (by omega) (fun a d ha hd => ?_) (shL g c M) rfl _ (ag.symm.fit (mv_fit g 0 c r.fit)) (fun a => ?_) V hV).mono fun e w' q => ⟨q.1, (let ⟨M', hO, t⟩ := q.2.1; ⟨M', hO, rd_sh h1 h2 h3 r c1 (by omega) t⟩), q.2.2⟩
    · have := r.up a d ha hd
      have := rd_low h1 (by omega) r ha hd
      omega
    · have q1 := pt_su h1 (show lo ≤ 32767 by omega) (fr g 0 a)
      have q2 := gn_bd (i := 0) (c := c) (B := 2147483648) (by omega) (by omega) a
      show _ ≤ (if fr g 0 a % 2 = 0 then lo else -lo) + gn 0 c a ∧ (if fr g 0 a % 2 = 0 then lo else -lo) + gn 0 c a ≤ _
      omega
  k2 := fun M M3 V r a3 hV => by
    have ag := rd_back h1 h2 h3 r a3
    refine (oshift b 2 (by omega) M3 0 (by omega) g (bk g c) (by unfold bk; split <;> omega) (fun a d ha hd => ?_) (shL g (bk g c) M3) rfl _ (ag.symm.fit r.fit) (fun a => by have := pt_su h1 (show lo ≤ 32767 by omega) a; omega) V hV).mono fun e w' q => ⟨q.1, (let ⟨M', hO, t⟩ := q.2.1; ⟨M', hO, rd_last h1 h2 h3 r a3 t⟩), q.2.2⟩
    rw [a3 a d ha hd]
    have u1 := r.up _ _ (fr_lt2 (g := g) (i := 0) ha) (fr_lt2 (g := g) (i := 0) hd)
    have u2 := rd_low h1 (by omega) r (fr_lt2 (g := g) (i := 0) ha) (fr_lt2 (g := g) (i := 0) hd)
    have q1 := gn_bd (i := 0) (c := c) (B := 2147483648) (by omega) (by omega) a
    have q2 := gn_bd (i := 0) (c := c) (B := 2147483648) (by omega) (by omega) d
    show _ ≤ M (fr g 0 a) (fr g 0 d) + gn 0 c a + gn 0 c d ∧ M (fr g 0 a) (fr g 0 d) + gn 0 c a + gn 0 c d ≤ _
    omega
end Go.Proofs.Ytdfbmafeemflaaa

