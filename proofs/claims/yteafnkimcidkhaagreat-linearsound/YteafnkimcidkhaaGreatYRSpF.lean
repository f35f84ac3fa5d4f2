/- span's line of floats: its functions do what is said. -/
import Derived.Test.YteafnkimcidkhaaGreatYRSpWf
import Derived.Test.YteafnkimcidkhaaGreatYRG2
import Derived.Test.YteafnkimcidkhaaGreatYRMB3
import Derived.Test.YteafnkimcidkhaaGreatYRMB2
namespace Go.Proofs.YteafnkimcidkhaaGreat
open Go.RowKit
set_option linter.unusedVariables false
set_option linter.unusedSimpArgs false
def LnF (s : Bool) (p q : Nat) : Ln := { least := negF s (fI s - 1), most := fI s - 1, past := 2, ko := 144, kp := 132, k1 := 134, kv := 136, kn := 138, ku := 140, kt := 142, kz := 146, co := #[.pointer (some ⟨p, 0, none⟩)], cp := #[.pointer (some ⟨p, 0, none⟩)], c1 := #[.pointer (some ⟨p, 0, none⟩)], cv := #[.pointer (some ⟨p, 0, none⟩)], cn := #[.pointer (some ⟨p, 0, none⟩)], cu := #[.pointer (some ⟨p, 0, none⟩)], ct := #[.pointer (some ⟨p, 0, none⟩)], cz := #[.pointer (some ⟨q, 0, none⟩)] }
def WyF (s : Bool) : Ways := { dom := Word, ord := fun x y => (cmpF s x y).1, pl := plainF s, one := fun x => finF s x && (plainF s x == x), prv := prevF s, nxt := nextF s }
set_option maxRecDepth 100000 in
theorem order_f (f x y : Int) (h1 : Word x) (h2 : Word y) (p : Nat) (w : World) (hf : w.cell? ⟨p, 0, none⟩ = some (.int .i64 f)) : Calls Tryz.prog 144 #[.int .u64 x, .int .u64 y, .pointer (some ⟨p, 0, none⟩)] w fun e w' => e = .returned (.int .i64 (cmpF (f == 1) x y).1) ∧ Below w.heap.size w w' := by
 have hc := compare_fl f x y h1 h2
 generalize cmpF (f == 1) x y = c at *
 obtain ⟨c1, c2⟩ := c
 go_enter Tryz.func144, Tryz.ntmps144
 go_wp2_with (go_at_call 145; refine (hc _).mono ?_; rintro e w1 ⟨rfl, b1⟩)
 go_ret
 exact ⟨rfl, b1⟩
set_option maxRecDepth 100000 in
theorem plain_f (f x : Int) (h1 : Word x) (p : Nat) (w : World) (hf : w.cell? ⟨p, 0, none⟩ = some (.int .i64 f)) : Calls Tryz.prog 132 #[.int .u64 x, .pointer (some ⟨p, 0, none⟩)] w fun e w' => e = .returned (.int .u64 (plainF (f == 1) x)) ∧ Below w.heap.size w w' := by
 have hc := plain_any f x h1
 generalize plainF (f == 1) x = c at *
 go_enter Tryz.func132, Tryz.ntmps132
 go_wp2_with (go_at_call 133; refine (hc _).mono ?_; rintro e w1 ⟨rfl, b1⟩)
 go_ret
 exact ⟨rfl, b1⟩
set_option maxRecDepth 100000 in
theorem prev_f (f x : Int) (h1 : Word x) (p : Nat) (w : World) (hf : w.cell? ⟨p, 0, none⟩ = some (.int .i64 f)) : Calls Tryz.prog 136 #[.int .u64 x, .pointer (some ⟨p, 0, none⟩)] w fun e w' => e = .returned (.int .u64 (prevF (f == 1) x)) ∧ Below w.heap.size w w' := by
 have hc := prev_any f x h1
 generalize prevF (f == 1) x = c at *
 go_enter Tryz.func136, Tryz.ntmps136
 go_wp2_with (go_at_call 137; refine (hc _).mono ?_; rintro e w1 ⟨rfl, b1⟩)
 go_ret
 exact ⟨rfl, b1⟩
set_option maxRecDepth 100000 in
theorem next_f (f x : Int) (h1 : Word x) (p : Nat) (w : World) (hf : w.cell? ⟨p, 0, none⟩ = some (.int .i64 f)) : Calls Tryz.prog 138 #[.int .u64 x, .pointer (some ⟨p, 0, none⟩)] w fun e w' => e = .returned (.int .u64 (nextF (f == 1) x)) ∧ Below w.heap.size w w' := by
 have hc := next_any f x h1
 generalize nextF (f == 1) x = c at *
 go_enter Tryz.func138, Tryz.ntmps138
 go_wp2_with (go_at_call 139; refine (hc _).mono ?_; rintro e w1 ⟨rfl, b1⟩)
 go_ret
 exact ⟨rfl, b1⟩
set_option maxRecDepth 100000 in
theorem one_f (f x : Int) (h1 : Word x) (p : Nat) (w : World) (hf : w.cell? ⟨p, 0, none⟩ = some (.int .i64 f)) : Calls Tryz.prog 134 #[.int .u64 x, .pointer (some ⟨p, 0, none⟩)] w fun e w' => e = .returned (.bool (finF (f == 1) x && (plainF (f == 1) x == x))) ∧ Below w.heap.size w w' := by
 have hc := plain_any f x h1
 have hn := finite_fl f x h1
 generalize plainF (f == 1) x = c at *
 generalize finF (f == 1) x = d at *
 cases d
 ·go_enter Tryz.func134, Tryz.ntmps134
  go_wp2_with (first
   | (go_at_call 135; refine (hn _).mono ?_; rintro e w1 ⟨rfl, b1⟩; replace hf := sO b1 hf)
   | fail)
  go_ret
  exact ⟨rfl, b1⟩
 ·go_enter Tryz.func134, Tryz.ntmps134
  go_wp2_with (first
   | (go_at_call 135; refine (hn _).mono ?_; rintro e w1 ⟨rfl, b1⟩; replace hf := sO b1 hf)
   | (go_at_call 133; refine (hc _).mono ?_; rintro e w2 ⟨rfl, b2⟩)
   | fail)
  go_ret
  exact ⟨by simp, sp_call b1 b2⟩
theorem acts_f (f : Int) (p q B : Nat) (w0 : World) (hB : B ≤ w0.heap.size) (hp : p < B) (hf : w0.cell? ⟨p, 0, none⟩ = some (.int .i64 f)) : Actsf (LnF (f == 1) p q) (WyF (f == 1)) B w0 := by
 have hV : ∀ V, Below B w0 V → V.cell? ⟨p, 0, none⟩ = some (.int .i64 f) := fun V ok => (ok.cell (p := ⟨p, 0, none⟩) hp).trans hf
 exact {
  hB := hB
  ord := fun x y V dx dy ok => order_f f x y dx dy p V (hV V ok)
  pl := fun x V dx ok => plain_f f x dx p V (hV V ok)
  one := fun x V dx ok => one_f f x dx p V (hV V ok)
  prv := fun x V dx _ ok => prev_f f x dx p V (hV V ok)
  nxt := fun x V dx _ ok => next_f f x dx p V (hV V ok)
  eo := enters_of Tryz.func144 (by kernel_rfl) rfl
  ep := enters_of Tryz.func132 (by kernel_rfl) rfl
  e1 := enters_of Tryz.func134 (by kernel_rfl) rfl
  ev := enters_of Tryz.func136 (by kernel_rfl) rfl
  en := enters_of Tryz.func138 (by kernel_rfl) rfl }
end Go.Proofs.YteafnkimcidkhaaGreat




