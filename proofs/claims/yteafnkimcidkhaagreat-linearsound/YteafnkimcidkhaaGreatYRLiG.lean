/- linear.together hands out both forms' terms. -/
import Derived.Test.YteafnkimcidkhaaGreatYRLiF
import Derived.Test.YteafnkimcidkhaaGreatYRG1
namespace Go.Proofs.YteafnkimcidkhaaGreat
open Go.RowKit
set_option linter.unusedVariables false
set_option linter.unusedSimpArgs false
set_option maxRecDepth 100000 in
set_option maxHeartbeats 6400000 in
theorem litog (pa : Option Addr) (na ca : Nat) (pb : Option Addr) (nb cb : Nat) (w : World) : Calls Tryz.prog 121 #[.slice pa na ca, .slice pb nb cb] w fun e w' => ∃ p : Nat, e = .returned (.func (.func 166) #[] #[.pointer (some ⟨p, 0, none⟩), .pointer (some ⟨p + 1, 0, none⟩)]) ∧ w'.cell? ⟨p, 0, none⟩ = some (.slice pa na ca) ∧ w'.cell? ⟨p + 1, 0, none⟩ = some (.slice pb nb cb) ∧ w.heap.size ≤ p ∧ p + 1 < w'.heap.size ∧ Below w.heap.size w w' := by
 go_enter Tryz.func121, Tryz.ntmps121
 go_wp2_with fail
 go_ret
 exact ⟨w.heap.size, rfl, by simp [go_sem], by simp [go_sem], Nat.le_refl _, by simp, sp_new (sp_new (Below.refl _ _) _) _⟩
theorem tog_feeds (Pa Pb : Nat) (va vb : Value) (az bz : List (Int × Bool × Int × Int)) (hn : az.length + bz.length ≤ 1000) (oa : vOk az) (ob : vOk bz) (w0 w : World) (b0 : Below w0.heap.size w0 w) (ta : TAt w0 va az) (tb : TAt w0 vb bz) (hca : w.cell? ⟨Pa, 0, none⟩ = some va) (hcb : w.cell? ⟨Pb, 0, none⟩ = some vb) :
  FeedsS Tryz.prog 166 #[.pointer (some ⟨Pa, 0, none⟩), .pointer (some ⟨Pb, 0, none⟩)] (fun x : Int × (Bool × Int × Int) × (Bool × Int × Int) => #[.int .i64 x.1, .agg #[.bool x.2.1.1, .int .u64 x.2.1.2.1, .int .u64 x.2.1.2.2, .bool x.2.2.1, .int .u64 x.2.2.2.1, .int .u64 x.2.2.2.2]]) w0.heap.size (mg (az.length + bz.length) az bz) w := fun l J K W hW st st2 hY h0 =>
 tog1 l Pa Pb va vb az bz hn oa ob W w0 (b0.trans (hW.mono b0.size)) ta tb J K _ rfl hY st st2 (sO hW hca) (sO hW hcb) h0
end Go.Proofs.YteafnkimcidkhaaGreat



