/- What wide.Sqrt answers: the root, and what is left. -/
import Derived.Test.YtmfmjinplieehaaWideD
namespace Go.Proofs.Ytmfmjinplieehaa
open Go.RowKit
set_option linter.unusedVariables false

theorem word_zero : Word 0 := ⟨by decide, by decide⟩
theorem below_set {n o : Nat} {w w' : World} (h : Below n w w') (v : Value) : Below n w (w'.setCell ⟨n + 1 + 1, o, none⟩ v) := h.setCell (by show n ≤ n + 1 + 1; omega) v
theorem below_set1 {n o : Nat} {w w' : World} (h : Below n w w') (v : Value) : Below n w (w'.setCell ⟨n + 1, o, none⟩ v) := h.setCell (by show n ≤ n + 1; omega) v
theorem two_of (j : Nat) : (2 * (j : Int)).toNat = 2 * j := by omega
theorem cmpN_neg {a b n : Int} (h : n = cmpN a b) (c : a < b) : n = -1 := by rw [h]; exact (cmpN_lt c).symm
theorem cmpN_nonneg {a b n : Int} (h : n = cmpN a b) (c : b ≤ a) : 0 ≤ n := by
  rw [h]; unfold cmpN; rw [if_neg (by omega)]; split <;> omega

/-- What holds at the label: the frame, the root, what is left. -/
def SqJ (w : World) (ah al : Int) (a' : Act) (w' : World) : Prop := ∃ (j : Nat) (r lh ll : Int) (u7 u8 u9 u10 u11 u12 u13 u14 u15 u16 u17 u18 u19 u20 u21 u22 u23 u24 u25 u26 u27 u28 u29 u30 u31 u32 u33 u34 u35 u36 u37 u38 u39 u40 u41 u42 u43 u44 u45 u46 u47 u48 u49 : Value), a' = { tmps := #[.agg #[.int .u64 ah, .int .u64 al], .pointer (some ⟨w.heap.size, 0, none⟩), .int .u64 0, .pointer (some ⟨w.heap.size + 1, 0, none⟩), .int .u64 r, .pointer (some ⟨w.heap.size + 1 + 1, 0, none⟩), .int .i64 (2 * j), u7, u8, u9, u10, u11, u12, u13, u14, u15, u16, u17, u18, u19, u20, u21, u22, u23, u24, u25, u26, u27, u28, u29, u30, u31, u32, u33, u34, u35, u36, u37, u38, u39, u40, u41, u42, u43, u44, u45, u46, u47, u48, u49, undef, undef], defers := [] } ∧ j ≤ 63 ∧ Word r ∧ Word lh ∧ Word ll ∧ SqInv (num ah al) j r (num lh ll) ∧ SqMem w.heap.size ah al lh ll w' ∧ Below w.heap.size w w'
def SqMu (a' : Act) (_ : World) : Nat := (intOf (a'.tmps.getD 6 undef)).toNat
/-- The code behind the label. -/
def restOf (f : Func) : Code := match f.body with | some (.seq _ (.scope c)) => (findLabel c 0).getD .skip | some (.scope c) => (findLabel c 0).getD .skip | _ => .skip
def bodyOf (f : Func) : Code := match restOf f with | .seq _ c => c | c => c
theorem sqRest_eq : restOf Try.f94 = .seq .skip (bodyOf Try.f94) := by kernel_rfl
theorem jump_weak {l : Nat} {J : Act → World → Prop} {m : Act → World → Prop} {Q : Exit → Act → World → Prop} : ∀ (e : Exit) (a : Act) (w : World), Exit.jump l (fun a' w' => J a' w' ∧ m a' w') Q e a w → Exit.jump l J Q e a w := by
  intro e a w h
  cases e <;> first | exact h | exact ⟨h.1, h.2.1⟩
theorem jump_ret {l : Nat} {J : Act → World → Prop} {Q : Exit → Act → World → Prop} {a : Act} {w : World} (h : Q .ret a w) : Exit.jump l J Q .ret a w := h

set_option maxRecDepth 1000000 in
set_option maxHeartbeats 6400000 in
theorem sq_pass (ah al : Int) (h1 : Word ah) (h2 : Word al) (w : World) (a : Act) (w' : World) (hJ : SqJ w ah al a w') :
    Code.wp Try.prog (bodyOf Try.f94) (Exit.jump 0 (fun a' w'' => SqJ w ah al a' w'' ∧ SqMu a' w'' < SqMu a w') (bodyPost Try.prog Try.f94 (fun e w' => ∃ r h l : Int, e = .returned (.tuple #[.int .u64 r, .agg #[.int .u64 h, .int .u64 l]]) ∧ Word r ∧ Word h ∧ Word l ∧ Hid (r * r + num h l = num ah al) ∧ Hid (num h l ≤ 2 * r) ∧ Below w.heap.size w w'))) a w' := by
  conv => arg 2; whnf
  obtain ⟨j, r, lh, ll, hJ⟩ := hJ
  obtain ⟨u7, u8, u9, u10, u11, u12, u13, u14, u15, u16, u17, u18, u19, u20, u21, u22, u23, u24, u25, u26, u27, u28, u29, u30, u31, u32, u33, u34, u35, u36, u37, u38, u39, u40, u41, u42, u43, u44, u45, u46, u47, u48, u49, rfl, hj, hr, hlh, hll, hI, hm, hb0⟩ := hJ
  obtain ⟨s0, s1, s2, c0, c1, ⟨x0, d0⟩, ⟨x1, d1⟩, e0, e1, f10, f11, f20, f21⟩ := id hm
  have t0 : 0 ≤ 2 * (j : Int) := by omega
  have t1 : 2 * (j : Int) ≤ 126 := by omega
  have hA := num_lo h1 h2
  have r0 : 0 ≤ r := hr.1
  have r1 : r < 9223372036854775808 := by have := hI.lt; have := pow_le63 j; omega
  have hL : num lh ll ≤ 36893488147419103232 := by have := hI.le; omega
  go_wp2_with fail
  refine (shr_any ah al (2 * j) h1 h2 (by omega) (by omega) _).mono ?_
  rintro e w1 ⟨ph, pl, pc, rfl, wph, wpl, P1, P2, hb1⟩
  have P3 : Hid (num ph pl = num ah al / 2 ^ (2 * j)) := by rw [two_of] at P1; exact P1
  have m1 := hm.below hb1
  clear s0 s1 s2 c0 c1 d0 d1 e0 e1 f10 f11 f20 f21 P1 P2
  obtain ⟨s0, s1, s2, c0, c1, ⟨x0, d0⟩, ⟨x1, d1⟩, e0, e1, f10, f11, f20, f21⟩ := id m1
  go_wp2_with fail
  refine (shl_any lh ll 2 hlh hll (by decide) (by decide) _).mono ?_
  rintro e w2 ⟨qh, ql, rfl, wqh, wql, Q1, hb2⟩
  have m2 := (m1.alloc _).below hb2
  have k1 : w2.cell? ⟨w1.heap.size, 1, none⟩ = some (.int .u64 pl) := by rw [(bcell hb2).1 _ _ (by simp)]; simp
  have z1 : w1.heap.size < w2.heap.size := by have := hb2.size; simp at this; omega
  have z2 : w.heap.size + 1 + 1 < w1.heap.size := s2
  clear s0 s1 s2 c0 c1 d0 d1 e0 e1 f10 f11 f20 f21
  obtain ⟨s0, s1, s2, c0, c1, ⟨y0, d0⟩, ⟨y1, d1⟩, e0, e1, f10, f11, f20, f21⟩ := id m2
  obtain ⟨wn, hn⟩ := sq_left (num ah al / 2 ^ (2 * j)) lh ll qh ql ph pl hlh hll wqh wql wph wpl P3.out Q1.out hL
  have HN : Hid _ := hn
  clear hn Q1 P3
  go_wp2_with fail
  generalize bits BinOp.or IntKind.u64 ql (bits BinOp.and IntKind.u64 pl 3) = nl at wn HN ⊢
  refine (shl_any 0 r 2 word_zero hr (by decide) (by decide) _).mono ?_
  rintro e w3 ⟨gh, gl, rfl, wgh, wgl, G1, hb3⟩
  have m3 := ((m2.set qh ql).set1 nl).below hb3
  clear k1 z1 z2 s0 s1 s2 c0 c1 d0 d1 e0 e1 f10 f11 f20 f21
  obtain ⟨s0, s1, s2, c0, c1, ⟨v0, d0⟩, ⟨v1, d1⟩, e0, e1, f10, f11, f20, f21⟩ := id m3
  obtain ⟨wg, hg⟩ := sq_grows r gh gl hr wgh wgl G1.out
  have HG : Hid _ := hg
  clear hg G1
  go_wp2_with fail
  generalize bits BinOp.or IntKind.u64 gl 1 = gl' at wg HG ⊢
  refine (cmp_any qh nl gh gl' wqh wn wgh wg _).mono ?_
  rintro e w4 ⟨n, rfl, N1, hb4⟩
  have m4 := (m3.alloc _).below hb4
  have k2 : w4.cell? ⟨w3.heap.size, 0, none⟩ = some (.int .u64 gh) := by rw [(bcell hb4).1 _ _ (by simp)]; simp
  have k3 : w4.cell? ⟨w3.heap.size, 1, none⟩ = some (.int .u64 gl') := by rw [(bcell hb4).1 _ _ (by simp)]; simp
  clear s0 s1 s2 c0 c1 d0 d1 e0 e1 f10 f11 f20 f21
  obtain ⟨s0, s1, s2, c0, c1, ⟨v2, d0⟩, ⟨v3, d1⟩, e0, e1, f10, f11, f20, f21⟩ := id m4
  have B4 : Below w.heap.size w w4 := by
    have y1 := hb0.size
    have y2 := hb1.size
    have y3 := hb2.size
    have y4 := hb3.size
    simp at y3 y4
    have b1 := hb0.trans (hb1.mono y1)
    have b2 := (b1.alloc (by omega) _).trans (hb2.mono (by simp; omega))
    have b3 := (below_set (below_set (below_set b2 _) _) _).trans (hb3.mono (by simp; omega))
    exact (b3.alloc (by omega) _).trans (hb4.mono (by simp; omega))
  by_cases hc : 4 * num lh ll + num ah al / 2 ^ (2 * j) % 4 < 4 * r + 1
  · have hn := cmpN_neg N1.out (by rw [HN.out, HG.out]; exact hc)
    subst hn
    have I' : SqNext (num ah al) j (r * 2) (num qh nl) := hI.next0 hA hj HN.out hc
    have wr : Word (r * 2) := ⟨by omega, by omega⟩
    clear hc N1 HN HG
    by_cases hj0 : j = 0
    · subst hj0
      obtain ⟨F1, F2⟩ := I'.fin
      have G1 : Hid _ := F1
      have G2 : Hid _ := F2
      clear F1 F2
      go_wp2_with fail
      go_region
      go_wp2_with fail
      refine jump_ret (bodyPost_ret (v := .tuple #[.int .u64 (r * 2), .agg #[.int .u64 qh, .int .u64 nl]]) (by simp [results, Try.results94, go_sem, *]) rfl ?_)
      exact ⟨_, _, _, rfl, wr, wqh, wn, G1, G2, (below_set1 (below_set1 B4 _) _).drew⟩
    · have t2 : (0 : Int) < 2 * j := by omega
      have I'' := I'.inv hj hj0
      go_wp2_with fail
      go_step3
      have ej : (2 * (j : Int) - 2) = 2 * ((j - 1 : Nat) : Int) := by omega
      rw [ej]
      refine ⟨rfl, ⟨j - 1, r * 2, qh, nl, _, _, _, _, _, _, _, _, _, _, _, _, _, _, _, _, _, _, _, _, _, _, _, _, _, _, _, _, _, _, _, _, _, _, _, _, _, _, _, _, _, _, _, rfl, by omega, wr, wqh, wn, I'', m4, B4⟩, ?_⟩
      simp [SqMu, intOf]; omega
  · have hge : 0 ≤ n := cmpN_nonneg N1.out (by rw [HN.out, HG.out]; omega)
    have hc' : 4 * r + 1 ≤ 4 * num lh ll + num ah al / 2 ^ (2 * j) % 4 := by omega
    obtain ⟨o1, wr⟩ := or_one (r * 2) ⟨by omega, by omega⟩ (by omega)
    go_wp2_with fail
    refine (sub_any qh nl gh gl' wqh wn wgh wg _).mono ?_
    rintro e w5 ⟨sh, sl, sb, rfl, wsh, wsl, S1, S2, hb5⟩
    have hX : num sh sl = 4 * num lh ll + num ah al / 2 ^ (2 * j) % 4 - (4 * r + 1) := by
      have q1 := num_hi wqh wn
      rw [S1.out, HN.out, HG.out]
      rw [HN.out] at q1
      omega
    have I' : SqNext (num ah al) j (r * 2 + 1) (num sh sl) := hI.next1 hA hj hX hc'
    have m5 := (m4.below hb5).set sh sl
    have m5' := m4.below hb5
    have B5 := B4.trans (hb5.mono (by omega))
    clear hX N1 HN HG S1 S2 hc hc' s0 s1 s2 c0 c1 d0 d1 e0 e1 f10 f11 f20 f21 k2 k3
    obtain ⟨s0, s1, s2, c0, c1, ⟨v4, d0⟩, ⟨v5, d1⟩, e0, e1, f10, f11, f20, f21⟩ := id m5'
    by_cases hj0 : j = 0
    · subst hj0
      obtain ⟨F1, F2⟩ := I'.fin
      have G1 : Hid _ := F1
      have G2 : Hid _ := F2
      clear F1 F2
      go_wp2_with fail
      go_region
      go_wp2_with fail
      refine jump_ret (bodyPost_ret (v := .tuple #[.int .u64 (r * 2 + 1), .agg #[.int .u64 sh, .int .u64 sl]]) (by simp [results, Try.results94, go_sem, *]) rfl ?_)
      exact ⟨_, _, _, rfl, wr, wsh, wsl, G1, G2, (below_set1 (below_set1 (below_set (below_set B5 _) _) _) _).drew⟩
    · have t2 : (0 : Int) < 2 * j := by omega
      have I'' := I'.inv hj hj0
      go_wp2_with fail
      go_step3
      have ej : (2 * (j : Int) - 2) = 2 * ((j - 1 : Nat) : Int) := by omega
      rw [ej]
      refine ⟨rfl, ⟨j - 1, r * 2 + 1, sh, sl, _, _, _, _, _, _, _, _, _, _, _, _, _, _, _, _, _, _, _, _, _, _, _, _, _, _, _, _, _, _, _, _, _, _, _, _, _, _, _, _, _, _, _, rfl, by omega, wr, wsh, wsl, I'', m5, below_set (below_set B5 _) _⟩, ?_⟩
      simp [SqMu, intOf]; omega

theorem sq_first (ah al : Int) (h1 : Word ah) (h2 : Word al) (w : World) (a : Act) (w' : World) (hJ : SqJ w ah al a w') :
    Code.wp Try.prog (bodyOf Try.f94) (Exit.jump 0 (SqJ w ah al) (bodyPost Try.prog Try.f94 (fun e w' => ∃ r h l : Int, e = .returned (.tuple #[.int .u64 r, .agg #[.int .u64 h, .int .u64 l]]) ∧ Word r ∧ Word h ∧ Word l ∧ Hid (r * r + num h l = num ah al) ∧ Hid (num h l ≤ 2 * r) ∧ Below w.heap.size w w'))) a w' :=
  Code.wp_mono jump_weak (sq_pass ah al h1 h2 w a w' hJ)

set_option maxRecDepth 1000000 in
set_option maxHeartbeats 3200000 in
theorem sqrt_any (ah al : Int) (h1 : Word ah) (h2 : Word al) (w : World) :
    Calls Try.prog 94 #[.agg #[.int .u64 ah, .int .u64 al]] w fun e w' => ∃ r h l : Int, e = .returned (.tuple #[.int .u64 r, .agg #[.int .u64 h, .int .u64 l]]) ∧ Word r ∧ Word h ∧ Word l ∧ Hid (r * r + num h l = num ah al) ∧ Hid (num h l ≤ 2 * r) ∧ Below w.heap.size w w' := by
  go_enter Try.func94, Try.ntmps94
  go_wp2_with fail
  refine wp_scope_jumps (rest := restOf Try.f94) 0 (SqJ w ah al) SqMu (by kernel_rfl) ?_ (fun a w' hJ => by rw [sqRest_eq]; exact wp_seq (wp_skip (sq_pass ah al h1 h2 w a w' hJ)))
  go_wp2_with fail
  go_step3
  rename_i K hK
  refine hK _ _ ?_
  refine sq_first ah al h1 h2 w _ _ ?_
  refine ⟨63, 0, 0, 0, undef, undef, undef, undef, undef, undef, undef, undef, undef, undef, undef, undef, undef, undef, undef, undef, undef, undef, undef, undef, undef, undef, undef, undef, undef, undef, undef, undef, undef, undef, undef, undef, undef, undef, undef, undef, undef, undef, undef, undef, undef, undef, undef, rfl, by omega, word_zero, word_zero, word_zero, sq_start _ (num_lo h1 h2) (num_hi h1 h2), ?_, below_three _ _ _ _⟩
  constructor <;> first | (simp [go_sem]; done) | (simp; omega) | (exact ⟨0, by simp [go_sem]⟩)
end Go.Proofs.Ytmfmjinplieehaa
