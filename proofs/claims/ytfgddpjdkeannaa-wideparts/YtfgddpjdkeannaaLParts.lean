/- The statement WideParts, walked: quotients and rests are the reference's. -/
import Derived.Test.YtfgddpjdkeannaaRefI
namespace Go.Proofs.Ytfgddpjdkeannaa
open Go.RowKit
set_option linter.unusedVariables false
/-- Both divisions, whatever they are by, say the same. -/
def IsDiv (A b h l r : Int) : Prop := (b = 0 → h = 0 ∧ l = 0 ∧ r = 0) ∧ (0 < b → num h l = A / b ∧ r = A % b)
theorem isDiv_uniq {A b h l r h' l' r' : Int} (b0 : 0 ≤ b) (wh : Word h) (wl : Word l) (wh' : Word h') (wl' : Word l') (x : IsDiv A b h l r) (y : IsDiv A b h' l' r') : h = h' ∧ l = l' ∧ r = r' := by
  by_cases c : b = 0
  · obtain ⟨a1, a2, a3⟩ := x.1 c
    obtain ⟨c1, c2, c3⟩ := y.1 c
    exact ⟨a1.trans c1.symm, a2.trans c2.symm, a3.trans c3.symm⟩
  · obtain ⟨a1, a2⟩ := x.2 (by omega)
    obtain ⟨c1, c2⟩ := y.2 (by omega)
    obtain ⟨e1, e2⟩ := num_inj wh wl wh' wl' (a1.trans c1.symm)
    exact ⟨e1, e2, a2.trans c2.symm⟩
theorem div_any (ah al b : Int) (h1 : Word ah) (h2 : Word al) (h3 : Word b) (w : World) :
    Calls Try.prog 24 #[.agg #[.int .u64 ah, .int .u64 al], .int .u64 b] w fun e w' => ∃ h l r : Int, e = .returned (.tuple #[.agg #[.int .u64 h, .int .u64 l], .int .u64 r]) ∧ Word h ∧ Word l ∧ Word r ∧ IsDiv (num ah al) b h l r ∧ Below w.heap.size w w' := by
  by_cases c : b = 0
  · subst c
    refine (div_zero ah al h1 h2 w).mono ?_
    rintro e w' ⟨rfl, B⟩
    exact ⟨0, 0, 0, rfl, word_zero, word_zero, word_zero, ⟨fun _ => ⟨rfl, rfl, rfl⟩, fun h => by omega⟩, B⟩
  · refine (div_pos ah al b h1 h2 h3 (by have := h3.1; omega) w).mono ?_
    rintro e w' ⟨h, l, r, rfl, wh, wl, wr, Q, R, B⟩
    exact ⟨h, l, r, rfl, wh, wl, wr, ⟨fun e => absurd e c, fun _ => ⟨Q.out, R.out⟩⟩, B⟩
theorem rdiv_any (ah al b : Int) (h1 : Word ah) (h2 : Word al) (h3 : Word b) (w : World) :
    Calls Try.prog 25 #[.agg #[.int .u64 ah, .int .u64 al], .int .u64 b] w fun e w' => ∃ h l r : Int, e = .returned (.tuple #[.agg #[.int .u64 h, .int .u64 l], .int .u64 r]) ∧ Word h ∧ Word l ∧ Word r ∧ IsDiv (num ah al) b h l r ∧ Below w.heap.size w w' := by
  by_cases c : b = 0
  · subst c
    refine (rdiv_zero ah al w).mono ?_
    rintro e w' ⟨rfl, B⟩
    exact ⟨0, 0, 0, rfl, word_zero, word_zero, word_zero, ⟨fun _ => ⟨rfl, rfl, rfl⟩, fun h => by omega⟩, B⟩
  · refine (rdiv_pos ah al b h1 h2 h3 (by have := h3.1; omega) w).mono ?_
    rintro e w' ⟨h, l, r, rfl, wh, wl, wr, Q, R, B⟩
    exact ⟨h, l, r, rfl, wh, wl, wr, ⟨fun e => absurd e c, fun _ => ⟨Q.out, R.out⟩⟩, B⟩
set_option maxHeartbeats 1600000 in
theorem law_parts (ah al b : Int) (h1 : Word ah) (h2 : Word al) (h3 : Word b) (w : World) :
    Calls Try.prog 7 #[.agg #[.int .u64 ah, .int .u64 al], .int .u64 b] w fun e w' => e = .returned (.bool true) ∧ Below w.heap.size w w' := by
  have hq := eql_u128
  have L := (Below.refl w.heap.size w).alloc (Nat.le_refl _) (.cells #[.int .u64 ah, .int .u64 al] 24)
  have c0 := cell_new0 w (.int .u64 ah) (.int .u64 al) 24
  have c1 := cell_new1 w (.int .u64 ah) (.int .u64 al) 24
  go_enter Try.func7, Try.ntmps7
  go_wp2_with fail
  refine (div_any ah al b h1 h2 h3 _).mono ?_
  rintro e w1 ⟨xh, xl, r, rfl, wxh, wxl, wr, X, hb1⟩
  replace c0 := cell_on hb1 c0; replace c1 := cell_on hb1 c1
  replace L := below_call L hb1
  have z0 := lt_new c0
  go_wp2_with fail
  refine (rdiv_any ah al b h1 h2 h3 _).mono ?_
  rintro e w2 ⟨yh, yl, s, rfl, wyh, wyl, ws, Y, hb2⟩
  obtain ⟨rfl, rfl, rfl⟩ := isDiv_uniq h3.1 wyh wyl wxh wxl Y X
  have e0 := cell_on hb2 (cell_new0 w1 _ _ _); have e1 := cell_on hb2 (cell_new1 w1 _ _ _)
  replace L := below_call (below_new L _) hb2
  clear z0
  have z1 := lt_new e0
  go_wp2_with fail
  refine (live_any _).mono ?_
  rintro e w3 ⟨rfl, hb3⟩
  replace e0 := cell_on hb3 (cell_past e0 _); replace e1 := cell_on hb3 (cell_past e1 _)
  have k0 := cell_on hb3 (cell_new0 w2 _ _ _); have k1 := cell_on hb3 (cell_new1 w2 _ _ _)
  replace L := below_call (below_new L _) hb3
  have q1 : eq2 yh yl yh yl = true := eq2_true rfl rfl
  go_wp2_with fail
  go_ret
  exact ⟨rfl, L⟩
end Go.Proofs.Ytfgddpjdkeannaa
