/- What wide.Shl and wide.Shr answer, as numbers of two words. -/
import Derived.Test.YtfbkiklopeebdaaWideA
namespace Go.Proofs.Ytfbkiklopeebdaa
open Go.RowKit
set_option linter.unusedVariables false

theorem shl_small (ah al m : Int) (h1 : Word ah) (h2 : Word al) (h0 : 0 ≤ m) (hm : m < 64) :
    Word (bits BinOp.or IntKind.u64 (IntKind.u64.wrap (ah * 2 ^ m.toNat)) (al / 2 ^ (64 - m).toNat)) ∧ Word (IntKind.u64.wrap (al * 2 ^ m.toNat)) ∧
    num (bits BinOp.or IntKind.u64 (IntKind.u64.wrap (ah * 2 ^ m.toNat)) (al / 2 ^ (64 - m).toNat)) (IntKind.u64.wrap (al * 2 ^ m.toNat)) = num ah al * 2 ^ m.toNat % 340282366920938463463374607431768211456 := by
  obtain ⟨a, rfl⟩ := Int.eq_ofNat_of_zero_le h1.1
  obtain ⟨b, rfl⟩ := Int.eq_ofNat_of_zero_le h2.1
  obtain ⟨n, rfl⟩ := Int.eq_ofNat_of_zero_le h0
  have ha := h1.2; have hb := h2.2
  have e64 : (64 - (n : Int)).toNat = 64 - n := by omega
  rw [e64, Int.toNat_natCast, wshl, wshl, castShr, bits_or_u64_nat _ _ (by omega) (by have := Nat.div_le_self b (2 ^ (64 - n)); omega)]
  obtain ⟨k1, k2⟩ := shl_nat a b n (by omega) (by omega) (by omega)
  refine ⟨⟨by omega, by omega⟩, ⟨by omega, by omega⟩, ?_⟩
  unfold num
  have c : ((a : Int) * 18446744073709551616 + b) * 2 ^ n = (((a * 18446744073709551616 + b) * 2 ^ n : Nat) : Int) := by simp
  rw [c]
  omega
theorem shl_big (ah al m : Int) (h1 : Word ah) (h2 : Word al) (hm : 64 ≤ m) :
    Word (IntKind.u64.wrap (al * 2 ^ min (m - 64).toNat 64)) ∧
    num (IntKind.u64.wrap (al * 2 ^ min (m - 64).toNat 64)) 0 = num ah al * 2 ^ m.toNat % 340282366920938463463374607431768211456 := by
  obtain ⟨a, rfl⟩ := Int.eq_ofNat_of_zero_le h1.1
  obtain ⟨b, rfl⟩ := Int.eq_ofNat_of_zero_le h2.1
  obtain ⟨n, rfl⟩ := Int.eq_ofNat_of_zero_le (show 0 ≤ m by omega)
  have ha := h1.2; have hb := h2.2
  have e64 : ((n : Int) - 64).toNat = n - 64 := by omega
  rw [e64, Int.toNat_natCast, wshl, shl_min]
  have k := shl_nat_big a b n (by omega) (by omega) (by omega)
  refine ⟨⟨by omega, by omega⟩, ?_⟩
  unfold num
  have c : ((a : Int) * 18446744073709551616 + b) * 2 ^ n = (((a * 18446744073709551616 + b) * 2 ^ n : Nat) : Int) := by simp
  rw [c]
  omega
theorem shr_small (ah al m : Int) (h1 : Word ah) (h2 : Word al) (h0 : 0 ≤ m) (hm : m < 64) :
    Word (ah / 2 ^ m.toNat) ∧ Word (bits BinOp.or IntKind.u64 (IntKind.u64.wrap (ah * 2 ^ (64 - m).toNat)) (al / 2 ^ m.toNat)) ∧
    num (ah / 2 ^ m.toNat) (bits BinOp.or IntKind.u64 (IntKind.u64.wrap (ah * 2 ^ (64 - m).toNat)) (al / 2 ^ m.toNat)) = num ah al / 2 ^ m.toNat := by
  obtain ⟨a, rfl⟩ := Int.eq_ofNat_of_zero_le h1.1
  obtain ⟨b, rfl⟩ := Int.eq_ofNat_of_zero_le h2.1
  obtain ⟨n, rfl⟩ := Int.eq_ofNat_of_zero_le h0
  have ha := h1.2; have hb := h2.2
  have e64 : (64 - (n : Int)).toNat = 64 - n := by omega
  have d1 := Nat.div_le_self b (2 ^ n)
  have d2 := Nat.div_le_self a (2 ^ n)
  rw [e64, Int.toNat_natCast, wshl, castShr, castShr, bits_or_u64_nat _ _ (by omega) (by omega)]
  obtain ⟨k1, k2⟩ := shr_nat a b n (by omega) (by omega) (by omega)
  refine ⟨⟨by omega, by omega⟩, ⟨by omega, by omega⟩, ?_⟩
  unfold num
  have c : ((a : Int) * 18446744073709551616 + b) / 2 ^ n = (((a * 18446744073709551616 + b) / 2 ^ n : Nat) : Int) := by simp
  rw [c, ← k2]
  omega
theorem shr_big (ah al m : Int) (h1 : Word ah) (h2 : Word al) (hm : 64 ≤ m) :
    Word (ah / 2 ^ min (m - 64).toNat 64) ∧
    num 0 (ah / 2 ^ min (m - 64).toNat 64) = num ah al / 2 ^ m.toNat := by
  obtain ⟨a, rfl⟩ := Int.eq_ofNat_of_zero_le h1.1
  obtain ⟨b, rfl⟩ := Int.eq_ofNat_of_zero_le h2.1
  obtain ⟨n, rfl⟩ := Int.eq_ofNat_of_zero_le (show 0 ≤ m by omega)
  have ha := h1.2; have hb := h2.2
  have e64 : ((n : Int) - 64).toNat = n - 64 := by omega
  rw [e64, Int.toNat_natCast, castShr, shr_min a _ (by omega)]
  have k := shr_nat_big a b n (by omega) (by omega)
  have d2 := Nat.div_le_self a (2 ^ (n - 64))
  refine ⟨⟨Int.natCast_nonneg _, by omega⟩, ?_⟩
  unfold num
  have c : ((a : Int) * 18446744073709551616 + b) / 2 ^ n = (((a * 18446744073709551616 + b) / 2 ^ n : Nat) : Int) := by simp
  rw [c, ← k]
  omega
/-- Moved down and up again a number is itself just if nothing was lost. -/
theorem back_num (ah al h l h' l' : Int) (k : Nat) (h1 : Word ah) (h2 : Word al) (a : Word h) (b : Word l) (a' : Word h') (b' : Word l') (e : num h l = num ah al / 2 ^ k) (e' : num h' l' = num h l * 2 ^ k % 340282366920938463463374607431768211456) :
    (h' = ah ∧ l' = al) ↔ num ah al % 2 ^ k = 0 := by
  have p0 := num_lo h1 h2
  have p1 := num_hi h1 h2
  rw [e] at e'
  obtain ⟨x, hx⟩ := Int.eq_ofNat_of_zero_le p0
  have bk := back_nat x k (by omega)
  rw [hx] at e'
  have c1 : (x : Int) / 2 ^ k * 2 ^ k % 340282366920938463463374607431768211456 = ((x / 2 ^ k * 2 ^ k % 340282366920938463463374607431768211456 : Nat) : Int) := by simp
  have c2 : (x : Int) % 2 ^ k = ((x % 2 ^ k : Nat) : Int) := by simp
  rw [c1] at e'
  rw [hx, c2]
  constructor
  · rintro ⟨rfl, rfl⟩
    rw [hx] at e'
    have := bk.1 (by omega)
    omega
  · intro h0
    have := bk.2 (by omega)
    exact num_inj a' b' h1 h2 (by rw [e', hx]; omega)

/-- Are two numbers of two words alike? -/
def eq2 (h l h' l' : Int) : Bool := h == h' && l == l'
theorem eq2_true {h l h' l' : Int} (e : h = h') (e' : l = l') : eq2 h l h' l' = true := by unfold eq2; simp [e, e']
theorem eq2_num {h l h' l' : Int} (a : Word h) (b : Word l) (a' : Word h') (b' : Word l') : eq2 h l h' l' = decide (num h l = num h' l') := by
  rw [Bool.eq_iff_iff, decide_eq_true_iff]
  unfold eq2
  rw [Bool.and_eq_true, beq_iff_eq, beq_iff_eq]
  exact ⟨fun ⟨e, e'⟩ => by rw [e, e'], num_inj a b a' b'⟩
theorem eql_u128 (h l h' l' : Int) (w : World) : (binOp .eql 49 (.agg #[.int .u64 h, .int .u64 l]) (.agg #[.int .u64 h', .int .u64 l'])).run Try.prog w = .ok (.bool (eq2 h l h' l')) w := by
  unfold eq2
  cases c : (h == h') <;> cases d : (l == l') <;> simp [go_sem, c, d]
theorem neq_u128 (h l h' l' : Int) (w : World) : (binOp .neq 49 (.agg #[.int .u64 h, .int .u64 l]) (.agg #[.int .u64 h', .int .u64 l'])).run Try.prog w = .ok (.bool (!eq2 h l h' l')) w := by
  unfold eq2
  cases c : (h == h') <;> cases d : (l == l') <;> simp [go_sem, c, d]
theorem bcell {W w1 : World} (hb : Below W.heap.size W w1) : (∀ b o, b < W.heap.size → w1.cell? ⟨b, o, none⟩ = W.cell? ⟨b, o, none⟩) ∧ (∀ b o, b < W.heap.size → w1.frozen? ⟨b, o, none⟩ = W.frozen? ⟨b, o, none⟩) :=
  ⟨fun b o h => hb.cell (p := ⟨b, o, none⟩) h, fun b o h => hb.frozen (p := ⟨b, o, none⟩) h⟩

set_option maxHeartbeats 400000 in
theorem shl_any (ah al n : Int) (h1 : Word ah) (h2 : Word al) (hn : -9223372036854775808 ≤ n) (hn' : n ≤ 9223372036854775807) (w : World) :
    Calls Try.prog 19 #[.agg #[.int .u64 ah, .int .u64 al], .int .i64 n] w fun e w' =>
      ∃ h l : Int, e = .returned (.agg #[.int .u64 h, .int .u64 l]) ∧ Word h ∧ Word l ∧ Hid (num h l = num ah al * 2 ^ n.toNat % 340282366920938463463374607431768211456) ∧ Below w.heap.size w w' := by
  have e0 : (max n 0).toNat = n.toNat := by omega
  by_cases hm : 64 ≤ max n 0
  · obtain ⟨m1, m2⟩ := shl_big ah al (max n 0) h1 h2 hm
    have m4 := m2.trans (congrArg (fun k => num ah al * 2 ^ k % 340282366920938463463374607431768211456) e0)
    have M2 : Hid _ := m4; clear m2 m4 e0
    obtain ⟨a1, a2⟩ := h1; obtain ⟨b1, b2⟩ := h2
    go_enter Try.func19, Try.ntmps19
    go_wp2
    refine bodyPost_ret (v := .agg #[.int .u64 (IntKind.u64.wrap (al * 2 ^ min (max n 0 - 64).toNat 64)), .int .u64 0]) (by simp [results, Try.results19, go_sem]) rfl ?_
    exact ⟨_, _, rfl, m1, ⟨by decide, by decide⟩, M2, below_two _ _ _⟩
  · have hm' : max n 0 < 64 := by omega
    obtain ⟨m1, m2, m3⟩ := shl_small ah al (max n 0) h1 h2 (by omega) hm'
    have m4 := m3.trans (congrArg (fun k => num ah al * 2 ^ k % 340282366920938463463374607431768211456) e0)
    have M3 : Hid _ := m4; clear m3 m4 e0
    obtain ⟨a1, a2⟩ := h1; obtain ⟨b1, b2⟩ := h2
    go_enter Try.func19, Try.ntmps19
    go_wp2
    go_region
    go_wp2
    refine bodyPost_ret (v := .agg #[.int .u64 (bits BinOp.or IntKind.u64 (IntKind.u64.wrap (ah * 2 ^ (max n 0).toNat)) (al / 2 ^ (64 - max n 0).toNat)), .int .u64 (IntKind.u64.wrap (al * 2 ^ (max n 0).toNat))]) (by simp [results, Try.results19, go_sem]) rfl ?_
    refine ⟨_, _, rfl, ?_, ?_, ?_, ?_⟩
    · exact m1
    · exact m2
    · exact M3
    · exact (below_two _ _ _).drew


/-- The two words' test, as a test on numbers. -/
theorem back_bool (ah al h l h' l' : Int) (k : Nat) (h1 : Word ah) (h2 : Word al) (a : Word h) (b : Word l) (e : num h l = num ah al / 2 ^ k) (a' : Word h') (b' : Word l') (e' : num h' l' = num h l * 2 ^ k % 340282366920938463463374607431768211456) :
    (!eq2 h' l' ah al) = decide (¬ num ah al % 2 ^ k = 0) := by
  have := back_num ah al h l h' l' k h1 h2 a b a' b' e e'
  rw [Bool.eq_iff_iff, decide_eq_true_iff, ← this]
  unfold eq2
  by_cases c : h' = ah <;> simp [c]

set_option maxHeartbeats 800000 in
theorem shr_any (ah al n : Int) (h1 : Word ah) (h2 : Word al) (hn : -9223372036854775808 ≤ n) (hn' : n ≤ 9223372036854775807) (w : World) :
    Calls Try.prog 38 #[.agg #[.int .u64 ah, .int .u64 al], .int .i64 n] w fun e w' =>
      ∃ (h l : Int) (c : Bool), e = .returned (.tuple #[.agg #[.int .u64 h, .int .u64 l], .bool c]) ∧ Word h ∧ Word l ∧ Hid (num h l = num ah al / 2 ^ n.toNat) ∧ Hid (c = decide (¬ num ah al % 2 ^ n.toNat = 0)) ∧ Below w.heap.size w w' := by
  have e0 : (max n 0).toNat = n.toNat := by omega
  have g1 : -9223372036854775808 ≤ max n 0 := by omega
  have g2 : max n 0 ≤ 9223372036854775807 := by omega
  by_cases hm : 64 ≤ max n 0
  · obtain ⟨m1, m2⟩ := shr_big ah al (max n 0) h1 h2 hm
    have m4 := m2.trans (congrArg (fun k => num ah al / 2 ^ k) e0)
    have M2 : Hid _ := m4; clear m2 m4
    have E0 : Hid _ := e0; clear e0
    have z : Word 0 := ⟨by decide, by decide⟩
    have hq := neq_u128
    obtain ⟨a1, a2⟩ := id h1; obtain ⟨b1, b2⟩ := id h2
    go_enter Try.func38, Try.ntmps38
    go_wp2
    go_region_held3 (fun w' => w'.cell? ⟨w.heap.size, 0, none⟩ = some (.int .u64 ah) ∧ w'.cell? ⟨w.heap.size, 1, none⟩ = some (.int .u64 al) ∧ w'.cell? ⟨w.heap.size + 1 + 1, 0, none⟩ = some (.int .u64 0) ∧ w'.cell? ⟨w.heap.size + 1 + 1, 1, none⟩ = some (.int .u64 (ah / 2 ^ min (max n 0 - 64).toNat 64))) (simp [go_sem, *])
      ((go_at_call 19; refine (shl_any 0 _ (max n 0) z m1 g1 g2 _).mono ?_; rintro e w1 ⟨h', l', rfl, a', b', E, hb⟩; obtain ⟨hc, hf⟩ := bcell hb))
    go_wp2
    have hs := hb.size
    simp at hs
    refine bodyPost_ret (v := .tuple #[.agg #[.int .u64 0, .int .u64 (ah / 2 ^ min (max n 0 - 64).toNat 64)], .bool (!eq2 h' l' ah al)]) (by simp [results, Try.results38, go_sem, hc]) rfl ?_
    refine ⟨_, _, _, rfl, z, m1, M2, ?_, ?_⟩
    · exact back_bool ah al _ _ h' l' n.toNat h1 h2 z m1 M2.out a' b' (by have := E.out; rw [E0.out] at this; exact this)
    · exact ((((below_three _ _ _ _).drew).trans (hb.mono (by simp; omega))).setCell (by simp) _).setCell (by simp) _
  · have hm' : max n 0 < 64 := by omega
    obtain ⟨m1, m2, m3⟩ := shr_small ah al (max n 0) h1 h2 (by omega) hm'
    have m4 := m3.trans (congrArg (fun k => num ah al / 2 ^ k) e0)
    have M2 : Hid _ := m4; clear m3 m4
    have E0 : Hid _ := e0; clear e0
    have hq := neq_u128
    obtain ⟨a1, a2⟩ := id h1; obtain ⟨b1, b2⟩ := id h2
    go_enter Try.func38, Try.ntmps38
    go_wp2
    go_region
    go_wp2
    go_region_held3 (fun w' => w'.cell? ⟨w.heap.size, 0, none⟩ = some (.int .u64 ah) ∧ w'.cell? ⟨w.heap.size, 1, none⟩ = some (.int .u64 al) ∧ w'.cell? ⟨w.heap.size + 1 + 1, 0, none⟩ = some (.int .u64 (ah / 2 ^ (max n 0).toNat)) ∧ w'.cell? ⟨w.heap.size + 1 + 1, 1, none⟩ = some (.int .u64 (bits BinOp.or IntKind.u64 (IntKind.u64.wrap (ah * 2 ^ (64 - max n 0).toNat)) (al / 2 ^ (max n 0).toNat)))) (simp [go_sem, *])
      ((go_at_call 19; refine (shl_any _ _ (max n 0) m1 m2 g1 g2 _).mono ?_; rintro e w1 ⟨h', l', rfl, a', b', E, hb⟩; obtain ⟨hc, hf⟩ := bcell hb))
    go_wp2
    have hs := hb.size
    simp at hs
    refine bodyPost_ret (v := .tuple #[.agg #[.int .u64 (ah / 2 ^ (max n 0).toNat), .int .u64 (bits BinOp.or IntKind.u64 (IntKind.u64.wrap (ah * 2 ^ (64 - max n 0).toNat)) (al / 2 ^ (max n 0).toNat))], .bool (!eq2 h' l' ah al)]) (by simp [results, Try.results38, go_sem, hc]) rfl ?_
    refine ⟨_, _, _, rfl, m1, m2, M2, ?_, ?_⟩
    · exact back_bool ah al _ _ h' l' n.toNat h1 h2 m1 m2 M2.out a' b' (by have := E.out; rw [this, E0.out])
    · exact ((((below_three _ _ _ _).drew.drew).trans (hb.mono (by simp; omega))).setCell (by simp) _).setCell (by simp) _
end Go.Proofs.Ytfbkiklopeebdaa

