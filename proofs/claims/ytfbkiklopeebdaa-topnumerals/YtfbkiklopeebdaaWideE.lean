/- What wide.Sqrt answers: the root, and what is left. -/
import Derived.Test.YtfbkiklopeebdaaWideD
namespace Go.Proofs.Ytfbkiklopeebdaa
open Go.RowKit
set_option linter.unusedVariables false

theorem word_zero : Word 0 := ⟨by decide, by decide⟩
theorem below_set {n o : Nat} {w w' : World} (h : Below n w w') (v : Value) : Below n w (w'.setCell ⟨n + 1 + 1, o, none⟩ v) := h.setCell (by show n ≤ n + 1 + 1; omega) v
theorem below_set1 {n o : Nat} {w w' : World} (h : Below n w w') (v : Value) : Below n w (w'.setCell ⟨n + 1, o, none⟩ v) := h.setCell (by show n ≤ n + 1; omega) v
theorem two_of (j : Nat) : (2 * (j : Int)).toNat = 2 * j := by omega
theorem cmpN_neg {a b n : Int} (h : n = cmpN a b) (c : a < b) : n = -1 := by rw [h]; exact (cmpN_lt c).symm
theorem cmpN_nonneg {a b n : Int} (h : n = cmpN a b) (c : b ≤ a) : 0 ≤ n := by
  rw [h]; unfold cmpN; rw [if_neg (by omega)]; split <;> omega

/-- What holds at the label: the frame, the root, what is left. -/
def SqJ (w : World) (ah al : Int) (a' : Act) (w' : World) : Prop := ∃ (j : Nat) (r lh ll : Int) (u7 u8 u9 u10 u11 u12 u13 u14 u15 u16 u17 u18 u19 u20 u21 u22 u23 u24 u25 u26 u27 u28 u29 u30 u31 u32 u33 u34 u35 u36 u37 u38 u39 u40 u41 u42 u43 u44 u45 u46 u47 u48 u49 : Value), a' = { tmps := #[.agg #[.int .u64 ah, .int .u64 al], .pointer (some ⟨w.heap.size, 0, none⟩), .int .u64 0, .pointer (some ⟨w.heap.size + 1, 0, none⟩), .int .u64 r, .pointer (some ⟨w.heap.size + 1 + 1, 0, none⟩), .int .i64 (2 * j), u7, u8, u9, u10, u11, u12, u13, u14, u15, u16, u17, u18, u19, u20, u21, u22, u23, u24, u25, u26, u27, u28, u29, u30, u31, u32, u33, u34, u35, u36, u37, u38, u39, u40, u41, u42, u43, u44, u45, u46, u47, u48, u49, undef, undef], defers := [] } ∧ j ≤ 63 ∧ Word r ∧ Word lh ∧ Word ll ∧ SqInv (num ah al) j r (num lh ll) ∧ SqMem w.heap.size ah al lh ll w' ∧ Below w.heap.size w w'
def SqMu (a' : Act) (_ : World) : Nat := (intOf (a'.tmps.getD 6 undef)).toNat
/-- The code behind the label. -/
def restOf (f : Func) : Code := match f.body with | some (.seq _ (.scope c)) => (findLabel c 0).getD .skip | some (.scope c) => (findLabel c 0).getD .skip | _ => .skip
def bodyOf (f : Func) : Code := match restOf f with | .seq _ c => c | c => c
theorem jump_weak {l : Nat} {J : Act → World → Prop} {m : Act → World → Prop} {Q : Exit → Act → World → Prop} : ∀ (e : Exit) (a : Act) (w : World), Exit.jump l (fun a' w' => J a' w' ∧ m a' w') Q e a w → Exit.jump l J Q e a w := by
  intro e a w h
  cases e <;> first | exact h | exact ⟨h.1, h.2.1⟩
theorem jump_ret {l : Nat} {J : Act → World → Prop} {Q : Exit → Act → World → Prop} {a : Act} {w : World} (h : Q .ret a w) : Exit.jump l J Q .ret a w := h

end Go.Proofs.Ytfbkiklopeebdaa

