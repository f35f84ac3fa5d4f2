/- span's floats: how two are reckoned with; Two and Of. -/
import Derived.Test.YteafnkimcidkhaaGreatSpFw
import Derived.Test.YteafnkimcidkhaaGreatSpVf
import Derived.Test.YteafnkimcidkhaaGreatSpOf
import Derived.Deep.DeepCutAuto
namespace Go.Proofs.YteafnkimcidkhaaGreat
open Go.RowKit
set_option linter.unusedVariables false
set_option linter.unusedSimpArgs false
/-- Two floats by an op, rounded near. -/
def gF (op : Int) (s : Bool) (x y : Int) : Int := if op = 8 then addF s 0 x y else if op = 9 then subF s 0 x y else if op = 10 then mulF s 0 x y else divF s 0 x y
set_option maxRecDepth 100000 in
set_option maxHeartbeats 6400000 in
theorem fbt_add (f : Int) (V : World) : Calls Tryz.prog 143 #[.int .i64 f, .int .i64 8] V fun e V' => Below V.heap.size V V' ∧ e = .returned (.func (.func 180) #[] #[.pointer (some ⟨V.heap.size + 1, 0, none⟩), .pointer (some ⟨V.heap.size, 0, none⟩)]) ∧ V'.cell? ⟨V.heap.size + 1, 0, none⟩ = some (.func (.func 54) #[] #[]) ∧ V'.cell? ⟨V.heap.size, 0, none⟩ = some (.int .i64 f) := by
  go_enter Tryz.func143, Tryz.ntmps143
  go_wp2_with fail
  go_ret
  exact ⟨sp_new (sp_new (Below.refl _ _) _) _, rfl, by simp [go_sem], by simp [go_sem]⟩
set_option maxRecDepth 100000 in
set_option maxHeartbeats 6400000 in
theorem fb1_add (f x y : Int) (hx : Word x) (hy : Word y) (p q : Nat) (X : World) (c1 : X.cell? ⟨p, 0, none⟩ = some (.func (.func 54) #[] #[])) (c2 : X.cell? ⟨q, 0, none⟩ = some (.int .i64 f)) :
    Calls Tryz.prog 180 #[.int .u64 x, .int .u64 y, .pointer (some ⟨p, 0, none⟩), .pointer (some ⟨q, 0, none⟩)] X fun e X' => e = .returned (.int .u64 (gF 8 (f == 1) x y)) ∧ Below X.heap.size X X' := by
  have h := add_fl f 0 x y hx hy
  have e : gF 8 (f == 1) x y = addF (f == 1) 0 x y := by simp [gF]
  rw [e]
  clear e
  generalize addF (f == 1) 0 x y = r at *
  have ef := enters_of Tryz.func54 (by kernel_rfl) rfl
  go_enter Tryz.func180, Tryz.ntmps180
  go_wp2_with (first
    | (go_at_call 54; refine (h _).mono ?_; rintro e X1 ⟨rfl, g⟩)
    | fail)
  go_ret
  exact ⟨rfl, g⟩
set_option maxRecDepth 100000 in
set_option maxHeartbeats 6400000 in
theorem f6_add (f : Int) (p : Nat) (V : World) (c : V.cell? ⟨p, 0, none⟩ = some (.int .i64 f)) : Calls Tryz.prog 142 #[.int .i64 8, .pointer (some ⟨p, 0, none⟩)] V fun e V' => Below V.heap.size V V' ∧ ∃ kb caps, e = .returned (.func (.func kb) #[] caps) ∧ (∀ args w, (callFunc kb args).run Tryz.prog w = .ok (.enter kb args) w)
    ∧ ∀ x y X, (Word x ∧ Word y) → Below V'.heap.size V' X → Calls Tryz.prog kb (#[.int .u64 x, .int .u64 y] ++ caps) X fun e X' => e = .returned (.int .u64 (gF 8 (f == 1) x y)) ∧ Below X.heap.size X X' := by
  have h := fbt_add f
  go_enter Tryz.func142, Tryz.ntmps142
  go_wp2_with (go_at_call 143; refine (h _).mono ?_; rintro e V1 ⟨g, rfl, c1, c2⟩)
  go_ret
  exact ⟨g, _, _, rfl, enters_of Tryz.func180 (by kernel_rfl) rfl, fun x y X hxy bX => fb1_add f x y hxy.1 hxy.2 _ _ X (sp_cell_on bX c1) (sp_cell_on bX c2)⟩
set_option maxRecDepth 100000 in
set_option maxHeartbeats 6400000 in
theorem fbt_sub (f : Int) (V : World) : Calls Tryz.prog 143 #[.int .i64 f, .int .i64 9] V fun e V' => Below V.heap.size V V' ∧ e = .returned (.func (.func 180) #[] #[.pointer (some ⟨V.heap.size + 1, 0, none⟩), .pointer (some ⟨V.heap.size, 0, none⟩)]) ∧ V'.cell? ⟨V.heap.size + 1, 0, none⟩ = some (.func (.func 178) #[] #[]) ∧ V'.cell? ⟨V.heap.size, 0, none⟩ = some (.int .i64 f) := by
  go_enter Tryz.func143, Tryz.ntmps143
  go_wp2_with fail
  go_ret
  exact ⟨sp_new (sp_new (Below.refl _ _) _) _, rfl, by simp [go_sem], by simp [go_sem]⟩
set_option maxRecDepth 100000 in
set_option maxHeartbeats 6400000 in
theorem fb1_sub (f x y : Int) (hx : Word x) (hy : Word y) (p q : Nat) (X : World) (c1 : X.cell? ⟨p, 0, none⟩ = some (.func (.func 178) #[] #[])) (c2 : X.cell? ⟨q, 0, none⟩ = some (.int .i64 f)) :
    Calls Tryz.prog 180 #[.int .u64 x, .int .u64 y, .pointer (some ⟨p, 0, none⟩), .pointer (some ⟨q, 0, none⟩)] X fun e X' => e = .returned (.int .u64 (gF 9 (f == 1) x y)) ∧ Below X.heap.size X X' := by
  have h := sub_fl f 0 x y hx hy
  have e : gF 9 (f == 1) x y = subF (f == 1) 0 x y := by simp [gF]
  rw [e]
  clear e
  generalize subF (f == 1) 0 x y = r at *
  have ef := enters_of Tryz.func178 (by kernel_rfl) rfl
  go_enter Tryz.func180, Tryz.ntmps180
  go_wp2_with (first
    | (go_at_call 178; refine (h _).mono ?_; rintro e X1 ⟨rfl, g⟩)
    | fail)
  go_ret
  exact ⟨rfl, g⟩
set_option maxRecDepth 100000 in
set_option maxHeartbeats 6400000 in
theorem f6_sub (f : Int) (p : Nat) (V : World) (c : V.cell? ⟨p, 0, none⟩ = some (.int .i64 f)) : Calls Tryz.prog 142 #[.int .i64 9, .pointer (some ⟨p, 0, none⟩)] V fun e V' => Below V.heap.size V V' ∧ ∃ kb caps, e = .returned (.func (.func kb) #[] caps) ∧ (∀ args w, (callFunc kb args).run Tryz.prog w = .ok (.enter kb args) w)
    ∧ ∀ x y X, (Word x ∧ Word y) → Below V'.heap.size V' X → Calls Tryz.prog kb (#[.int .u64 x, .int .u64 y] ++ caps) X fun e X' => e = .returned (.int .u64 (gF 9 (f == 1) x y)) ∧ Below X.heap.size X X' := by
  have h := fbt_sub f
  go_enter Tryz.func142, Tryz.ntmps142
  go_wp2_with (go_at_call 143; refine (h _).mono ?_; rintro e V1 ⟨g, rfl, c1, c2⟩)
  go_ret
  exact ⟨g, _, _, rfl, enters_of Tryz.func180 (by kernel_rfl) rfl, fun x y X hxy bX => fb1_sub f x y hxy.1 hxy.2 _ _ X (sp_cell_on bX c1) (sp_cell_on bX c2)⟩
set_option maxRecDepth 100000 in
set_option maxHeartbeats 6400000 in
theorem fbt_mul (f : Int) (V : World) : Calls Tryz.prog 143 #[.int .i64 f, .int .i64 10] V fun e V' => Below V.heap.size V V' ∧ e = .returned (.func (.func 180) #[] #[.pointer (some ⟨V.heap.size + 1, 0, none⟩), .pointer (some ⟨V.heap.size, 0, none⟩)]) ∧ V'.cell? ⟨V.heap.size + 1, 0, none⟩ = some (.func (.func 57) #[] #[]) ∧ V'.cell? ⟨V.heap.size, 0, none⟩ = some (.int .i64 f) := by
  go_enter Tryz.func143, Tryz.ntmps143
  go_wp2_with fail
  go_ret
  exact ⟨sp_new (sp_new (Below.refl _ _) _) _, rfl, by simp [go_sem], by simp [go_sem]⟩
set_option maxRecDepth 100000 in
set_option maxHeartbeats 6400000 in
theorem fb1_mul (f x y : Int) (hx : Word x) (hy : Word y) (p q : Nat) (X : World) (c1 : X.cell? ⟨p, 0, none⟩ = some (.func (.func 57) #[] #[])) (c2 : X.cell? ⟨q, 0, none⟩ = some (.int .i64 f)) :
    Calls Tryz.prog 180 #[.int .u64 x, .int .u64 y, .pointer (some ⟨p, 0, none⟩), .pointer (some ⟨q, 0, none⟩)] X fun e X' => e = .returned (.int .u64 (gF 10 (f == 1) x y)) ∧ Below X.heap.size X X' := by
  have h := mul_fl f 0 x y hx hy
  have e : gF 10 (f == 1) x y = mulF (f == 1) 0 x y := by simp [gF]
  rw [e]
  clear e
  generalize mulF (f == 1) 0 x y = r at *
  have ef := enters_of Tryz.func57 (by kernel_rfl) rfl
  go_enter Tryz.func180, Tryz.ntmps180
  go_wp2_with (first
    | (go_at_call 57; refine (h _).mono ?_; rintro e X1 ⟨rfl, g⟩)
    | fail)
  go_ret
  exact ⟨rfl, g⟩
set_option maxRecDepth 100000 in
set_option maxHeartbeats 6400000 in
theorem f6_mul (f : Int) (p : Nat) (V : World) (c : V.cell? ⟨p, 0, none⟩ = some (.int .i64 f)) : Calls Tryz.prog 142 #[.int .i64 10, .pointer (some ⟨p, 0, none⟩)] V fun e V' => Below V.heap.size V V' ∧ ∃ kb caps, e = .returned (.func (.func kb) #[] caps) ∧ (∀ args w, (callFunc kb args).run Tryz.prog w = .ok (.enter kb args) w)
    ∧ ∀ x y X, (Word x ∧ Word y) → Below V'.heap.size V' X → Calls Tryz.prog kb (#[.int .u64 x, .int .u64 y] ++ caps) X fun e X' => e = .returned (.int .u64 (gF 10 (f == 1) x y)) ∧ Below X.heap.size X X' := by
  have h := fbt_mul f
  go_enter Tryz.func142, Tryz.ntmps142
  go_wp2_with (go_at_call 143; refine (h _).mono ?_; rintro e V1 ⟨g, rfl, c1, c2⟩)
  go_ret
  exact ⟨g, _, _, rfl, enters_of Tryz.func180 (by kernel_rfl) rfl, fun x y X hxy bX => fb1_mul f x y hxy.1 hxy.2 _ _ X (sp_cell_on bX c1) (sp_cell_on bX c2)⟩
set_option maxRecDepth 100000 in
set_option maxHeartbeats 6400000 in
theorem fbt_div (f : Int) (V : World) : Calls Tryz.prog 143 #[.int .i64 f, .int .i64 11] V fun e V' => Below V.heap.size V V' ∧ e = .returned (.func (.func 180) #[] #[.pointer (some ⟨V.heap.size + 1, 0, none⟩), .pointer (some ⟨V.heap.size, 0, none⟩)]) ∧ V'.cell? ⟨V.heap.size + 1, 0, none⟩ = some (.func (.func 179) #[] #[]) ∧ V'.cell? ⟨V.heap.size, 0, none⟩ = some (.int .i64 f) := by
  go_enter Tryz.func143, Tryz.ntmps143
  go_wp2_with fail
  go_ret
  exact ⟨sp_new (sp_new (Below.refl _ _) _) _, rfl, by simp [go_sem], by simp [go_sem]⟩
set_option maxRecDepth 100000 in
set_option maxHeartbeats 6400000 in
theorem fb1_div (f x y : Int) (hx : Word x) (hy : Word y) (p q : Nat) (X : World) (c1 : X.cell? ⟨p, 0, none⟩ = some (.func (.func 179) #[] #[])) (c2 : X.cell? ⟨q, 0, none⟩ = some (.int .i64 f)) :
    Calls Tryz.prog 180 #[.int .u64 x, .int .u64 y, .pointer (some ⟨p, 0, none⟩), .pointer (some ⟨q, 0, none⟩)] X fun e X' => e = .returned (.int .u64 (gF 11 (f == 1) x y)) ∧ Below X.heap.size X X' := by
  have h := div_fl f 0 x y hx hy
  have e : gF 11 (f == 1) x y = divF (f == 1) 0 x y := by simp [gF]
  rw [e]
  clear e
  generalize divF (f == 1) 0 x y = r at *
  have ef := enters_of Tryz.func179 (by kernel_rfl) rfl
  go_enter Tryz.func180, Tryz.ntmps180
  go_wp2_with (first
    | (go_at_call 179; refine (h _).mono ?_; rintro e X1 ⟨rfl, g⟩)
    | fail)
  go_ret
  exact ⟨rfl, g⟩
set_option maxRecDepth 100000 in
set_option maxHeartbeats 6400000 in
theorem f6_div (f : Int) (p : Nat) (V : World) (c : V.cell? ⟨p, 0, none⟩ = some (.int .i64 f)) : Calls Tryz.prog 142 #[.int .i64 11, .pointer (some ⟨p, 0, none⟩)] V fun e V' => Below V.heap.size V V' ∧ ∃ kb caps, e = .returned (.func (.func kb) #[] caps) ∧ (∀ args w, (callFunc kb args).run Tryz.prog w = .ok (.enter kb args) w)
    ∧ ∀ x y X, (Word x ∧ Word y) → Below V'.heap.size V' X → Calls Tryz.prog kb (#[.int .u64 x, .int .u64 y] ++ caps) X fun e X' => e = .returned (.int .u64 (gF 11 (f == 1) x y)) ∧ Below X.heap.size X X' := by
  have h := fbt_div f
  go_enter Tryz.func142, Tryz.ntmps142
  go_wp2_with (go_at_call 143; refine (h _).mono ?_; rintro e V1 ⟨g, rfl, c1, c2⟩)
  go_ret
  exact ⟨g, _, _, rfl, enters_of Tryz.func180 (by kernel_rfl) rfl, fun x y X hxy bX => fb1_div f x y hxy.1 hxy.2 _ _ X (sp_cell_on bX c1) (sp_cell_on bX c2)⟩
theorem by2_f {f : Int} {L : Ln} {B : Nat} {w0 : World} (hL : FlAt f L B w0) (op : Int) (hop : op = 8 ∨ op = 9 ∨ op = 10 ∨ op = 11) : By2f L (WyF (f == 1)) B w0 op (fun x y => Word x ∧ Word y) (gF op (f == 1)) := by
  obtain ⟨p, q, rfl, h1, h2, h3, h4, h5⟩ := hL
  intro V ok
  have c : V.cell? ⟨p, 0, none⟩ = some (.int .i64 f) := (ok.cell (p := ⟨p, 0, none⟩) h2).trans h4
  rcases hop with rfl | rfl | rfl | rfl
  · exact f6_add f p V c
  · exact f6_sub f p V c
  · exact f6_mul f p V c
  · exact f6_div f p V c
theorem et_f {f : Int} {L : Ln} {B : Nat} {w0 : World} (hL : FlAt f L B w0) : ∀ args w, (callFunc L.kt args).run Tryz.prog w = .ok (.enter L.kt args) w := by
  obtain ⟨p, q, rfl, _⟩ := hL
  exact enters_of Tryz.func142 (by kernel_rfl) rfl
theorem ez_f {f : Int} {L : Ln} {B : Nat} {w0 : World} (hL : FlAt f L B w0) : ∀ args w, (callFunc L.kz args).run Tryz.prog w = .ok (.enter L.kz args) w := by
  obtain ⟨p, q, rfl, _⟩ := hL
  exact enters_of Tryz.func146 (by kernel_rfl) rfl
set_option maxRecDepth 100000 in
set_option maxHeartbeats 6400000 in
theorem trapsOf_f1 (w : World) : Calls Tryz.prog 148 #[.int .i64 1] w fun e w' => e = .returned (.int .i64 1) ∧ w' = w := by
  go_enter Tryz.func148, Tryz.ntmps148
  go_wp2_with fail
  go_ret
  exact ⟨rfl, rfl⟩
set_option maxRecDepth 100000 in
set_option maxHeartbeats 6400000 in
theorem trapsOf_f2 (w : World) : Calls Tryz.prog 148 #[.int .i64 2] w fun e w' => e = .returned (.int .i64 2) ∧ w' = w := by
  go_enter Tryz.func148, Tryz.ntmps148
  go_wp2_with fail
  go_ret
  exact ⟨rfl, rfl⟩
set_option maxRecDepth 100000 in
set_option maxHeartbeats 6400000 in
theorem trapsOf_f3 (w : World) : Calls Tryz.prog 148 #[.int .i64 3] w fun e w' => e = .returned (.int .i64 4) ∧ w' = w := by
  go_enter Tryz.func148, Tryz.ntmps148
  go_wp2_with fail
  go_ret
  exact ⟨rfl, rfl⟩
/-- What is told of a number divided by 0: 0 by 0 is none, another one is infinite. -/
def zF (h : Bool) (a b : Int) : Int := (if h then 1 else 0) + (if a = 0 ∧ b = 0 then 0 else 2)
set_option maxRecDepth 100000 in
set_option maxHeartbeats 6400000 in
theorem byZero_core (L : Ln) (q : Nat) (e1 : Bool) (a b : Int) (h : Bool) (V : World) (hl : LineAt V q L)
    (hh : ∀ X, Below V.heap.size V X → Calls Tryz.prog 147 #[.agg (lvf L), .agg #[.bool e1, .int .u64 a, .int .u64 b], .int .u64 0] X fun e X' => e = .returned (.bool h) ∧ Below X.heap.size X X') :
    Calls Tryz.prog 146 #[.agg #[.bool e1, .int .u64 a, .int .u64 b], .pointer (some ⟨q, 0, none⟩)] V fun e V' => e = .returned (.int .i64 (zF h a b)) ∧ Below V.heap.size V V' := by
  have t1 := trapsOf_f1
  have t2 := trapsOf_f2
  unfold LineAt at hl
  have l0 := hl 0 _ rfl
  have l1 := hl 1 _ rfl
  have l2 := hl 2 _ rfl
  have l3 := hl 3 _ rfl
  have l4 := hl 4 _ rfl
  have l5 := hl 5 _ rfl
  have l6 := hl 6 _ rfl
  have l7 := hl 7 _ rfl
  have l8 := hl 8 _ rfl
  have l9 := hl 9 _ rfl
  have l10 := hl 10 _ rfl
  clear hl
  have hh1 := hh _ (sp_new (Below.refl _ V) (.cells #[.bool e1, .int .u64 a, .int .u64 b] 126))
  clear hh
  have lq : q < V.heap.size := World.block_lt_of_cell? V ⟨q, 0, none⟩ l0
  unfold lvf at hh1
  cases h
  · by_cases ca : a = 0
    · by_cases cb : b = 0
      · subst ca; subst cb
        rw [show zF false 0 0 = 0 by decide]
        go_enter Tryz.func146, Tryz.ntmps146
        go_wp2_with (first
          | (go_at_call 147; refine hh1.mono ?_; rintro e w1 ⟨rfl, g⟩; have hc := fun j => g.cell (p := ⟨V.heap.size, j, none⟩) (by simp))
          | (go_at_call 148; refine (t1 _).mono ?_; rintro e w2 ⟨rfl, rfl⟩)
          | (go_at_call 148; refine (t2 _).mono ?_; rintro e w3 ⟨rfl, rfl⟩)
          | fail)
        go_ret
        exact ⟨by first | rfl | (show Ending.returned (.int .i64 (bits BinOp.or IntKind.i64 _ 2)) = _; rfl), sp_call (sp_new (Below.refl _ _) _) g⟩
      · subst ca
        rw [show zF false 0 b = 2 by simp [zF, cb]]
        have cb1 : (b != 0) = true := by simp [cb]
        clear cb
        go_enter Tryz.func146, Tryz.ntmps146
        go_wp2_with (first
          | (go_at_call 147; refine hh1.mono ?_; rintro e w1 ⟨rfl, g⟩; have hc := fun j => g.cell (p := ⟨V.heap.size, j, none⟩) (by simp))
          | (go_at_call 148; refine (t1 _).mono ?_; rintro e w2 ⟨rfl, rfl⟩)
          | (go_at_call 148; refine (t2 _).mono ?_; rintro e w3 ⟨rfl, rfl⟩)
          | fail)
        go_ret
        exact ⟨by first | rfl | (show Ending.returned (.int .i64 (bits BinOp.or IntKind.i64 _ 2)) = _; rfl), sp_call (sp_new (Below.refl _ _) _) g⟩
    · rw [show zF false a b = 2 by simp [zF, ca]]
      have ca1 : (a != 0) = true := by simp [ca]
      clear ca
      go_enter Tryz.func146, Tryz.ntmps146
      go_wp2_with (first
          | (go_at_call 147; refine hh1.mono ?_; rintro e w1 ⟨rfl, g⟩; have hc := fun j => g.cell (p := ⟨V.heap.size, j, none⟩) (by simp))
          | (go_at_call 148; refine (t1 _).mono ?_; rintro e w2 ⟨rfl, rfl⟩)
          | (go_at_call 148; refine (t2 _).mono ?_; rintro e w3 ⟨rfl, rfl⟩)
          | fail)
      go_ret
      exact ⟨by first | rfl | (show Ending.returned (.int .i64 (bits BinOp.or IntKind.i64 _ 2)) = _; rfl), sp_call (sp_new (Below.refl _ _) _) g⟩
  · by_cases ca : a = 0
    · by_cases cb : b = 0
      · subst ca; subst cb
        rw [show zF true 0 0 = 1 by decide]
        go_enter Tryz.func146, Tryz.ntmps146
        go_wp2_with (first
          | (go_at_call 147; refine hh1.mono ?_; rintro e w1 ⟨rfl, g⟩; have hc := fun j => g.cell (p := ⟨V.heap.size, j, none⟩) (by simp))
          | (go_at_call 148; refine (t1 _).mono ?_; rintro e w2 ⟨rfl, rfl⟩)
          | (go_at_call 148; refine (t2 _).mono ?_; rintro e w3 ⟨rfl, rfl⟩)
          | fail)
        go_ret
        exact ⟨by first | rfl | (show Ending.returned (.int .i64 (bits BinOp.or IntKind.i64 _ 2)) = _; rfl), sp_call (sp_new (Below.refl _ _) _) g⟩
      · subst ca
        rw [show zF true 0 b = 3 by simp [zF, cb]]
        have cb1 : (b != 0) = true := by simp [cb]
        clear cb
        go_enter Tryz.func146, Tryz.ntmps146
        go_wp2_with (first
          | (go_at_call 147; refine hh1.mono ?_; rintro e w1 ⟨rfl, g⟩; have hc := fun j => g.cell (p := ⟨V.heap.size, j, none⟩) (by simp))
          | (go_at_call 148; refine (t1 _).mono ?_; rintro e w2 ⟨rfl, rfl⟩)
          | (go_at_call 148; refine (t2 _).mono ?_; rintro e w3 ⟨rfl, rfl⟩)
          | fail)
        go_ret
        exact ⟨by first | rfl | (show Ending.returned (.int .i64 (bits BinOp.or IntKind.i64 _ 2)) = _; rfl), sp_call (sp_new (Below.refl _ _) _) g⟩
    · rw [show zF true a b = 3 by simp [zF, ca]]
      have ca1 : (a != 0) = true := by simp [ca]
      clear ca
      go_enter Tryz.func146, Tryz.ntmps146
      go_wp2_with (first
          | (go_at_call 147; refine hh1.mono ?_; rintro e w1 ⟨rfl, g⟩; have hc := fun j => g.cell (p := ⟨V.heap.size, j, none⟩) (by simp))
          | (go_at_call 148; refine (t1 _).mono ?_; rintro e w2 ⟨rfl, rfl⟩)
          | (go_at_call 148; refine (t2 _).mono ?_; rintro e w3 ⟨rfl, rfl⟩)
          | fail)
      go_ret
      exact ⟨by first | rfl | (show Ending.returned (.int .i64 (bits BinOp.or IntKind.i64 _ 2)) = _; rfl), sp_call (sp_new (Below.refl _ _) _) g⟩
theorem byZero_f {f : Int} {L : Ln} {B : Nat} {w0 : World} (hL : FlAt f L B w0) (e1 : Bool) (a b : Int) (ha : Word a) (hb : Word b) (V : World) (ok : Below B w0 V) :
    Calls Tryz.prog L.kz (#[.agg #[.bool e1, .int .u64 a, .int .u64 b]] ++ L.cz) V fun e V' => e = .returned (.int .i64 (zF (hasP (WyF (f == 1)) (e1, a, b) 0) a b)) ∧ Below V.heap.size V V' := by
  have H := fl_acts hL
  obtain ⟨p, q, rfl, h1, h2, h3, h4, h5⟩ := hL
  have w0' : Word 0 := ⟨by decide, by decide⟩
  have w1 : Word (plainF (f == 1) 0) := n_plainw _ 0 w0'
  refine byZero_core _ q e1 a b _ V (fun j v hj => ?_) (fun X bX => has_f H e1 a b 0 ha hb w0' w1 X (ok_call h1 ok bX))
  have := h5 j v hj
  exact (ok.cell (p := ⟨q, j, none⟩) h3).trans this
set_option maxRecDepth 100000 in
set_option maxHeartbeats 6400000 in
theorem ftwo_of (f op : Int) (e1 e2 : Bool) (a b c d : Int) (me : Bool) (mlo mhi TR : Int) (h : ∀ L B w0, FlAt f L B w0 → ∀ V, Below B w0 V → Calls Tryz.prog 103 #[.agg (lvf L), .int .i64 op, .agg #[.bool e1, .int .u64 a, .int .u64 b], .agg #[.bool e2, .int .u64 c, .int .u64 d]] V fun e w' => e = .returned (.tuple #[.agg #[.bool me, .int .u64 mlo, .int .u64 mhi], .int .i64 TR]) ∧ Below V.heap.size V w') (w : World) :
    Calls Tryz.prog 52 #[.int .i64 f, .int .i64 op, .agg #[.bool e1, .int .u64 a, .int .u64 b], .agg #[.bool e2, .int .u64 c, .int .u64 d]] w fun e w' => e = .returned (.tuple #[.agg #[.bool me, .int .u64 mlo, .int .u64 mhi], .int .i64 TR]) ∧ Below w.heap.size w w' := by
  have h1 := floats_at f
  have h5 := floatRange_any me mlo mhi
  have ho1 := ofFloats_any
  have ho2 := ofFloats_any
  go_enter Tryz.func52, Tryz.ntmps52
  go_upto_region 1 with fail
  obtain ⟨W, hW⟩ : ∃ W, (((w.alloc (.cells #[.bool e1, .int .u64 a, .int .u64 b] 24)).alloc (.cells #[.bool e2, .int .u64 c, .int .u64 d] 24)).alloc (.cells #[.bool false, .int .u64 0, .int .u64 0] 24)) = W := ⟨_, rfl⟩
  have a0 : W.cell? ⟨w.heap.size, 0, none⟩ = some (.bool e1) := by rw [← hW]; simp [go_sem]
  have a1 : W.cell? ⟨w.heap.size, 1, none⟩ = some (.int .u64 a) := by rw [← hW]; simp [go_sem]
  have a2 : W.cell? ⟨w.heap.size, 2, none⟩ = some (.int .u64 b) := by rw [← hW]; simp [go_sem]
  have b0 : W.cell? ⟨w.heap.size + 1, 0, none⟩ = some (.bool e2) := by rw [← hW]; simp [go_sem]
  have b1 : W.cell? ⟨w.heap.size + 1, 1, none⟩ = some (.int .u64 c) := by rw [← hW]; simp [go_sem]
  have b2 : W.cell? ⟨w.heap.size + 1, 2, none⟩ = some (.int .u64 d) := by rw [← hW]; simp [go_sem]
  have r0 : W.cell? ⟨w.heap.size + 1 + 1, 0, none⟩ = some (.bool false) := by rw [← hW]; simp [go_sem]
  have r1 : W.cell? ⟨w.heap.size + 1 + 1, 1, none⟩ = some (.int .u64 0) := by rw [← hW]; simp [go_sem]
  have r2 : W.cell? ⟨w.heap.size + 1 + 1, 2, none⟩ = some (.int .u64 0) := by rw [← hW]; simp [go_sem]
  have bW : Below w.heap.size w W := by rw [← hW]; exact (sp_new (sp_new (sp_new (Below.refl _ _) _) _) _)
  have zW : W.heap.size = w.heap.size + 3 := by rw [← hW]; simp
  have fz : ∀ j, W.frozen? ⟨w.heap.size + 1 + 1, j, none⟩ = false := by intro j; rw [← hW]; simp [go_sem]
  rw [hW]
  clear hW
  have hall : ∀ X, Below W.heap.size W X → (X.cell? ⟨w.heap.size, 0, none⟩ = some (.bool e1) ∧ X.cell? ⟨w.heap.size, 1, none⟩ = some (.int .u64 a) ∧ X.cell? ⟨w.heap.size, 2, none⟩ = some (.int .u64 b) ∧ X.cell? ⟨w.heap.size + 1, 0, none⟩ = some (.bool e2) ∧ X.cell? ⟨w.heap.size + 1, 1, none⟩ = some (.int .u64 c) ∧ X.cell? ⟨w.heap.size + 1, 2, none⟩ = some (.int .u64 d)) := fun X cc => ⟨sp_cell_on cc a0, sp_cell_on cc a1, sp_cell_on cc a2, sp_cell_on cc b0, sp_cell_on cc b1, sp_cell_on cc b2⟩
  have cc : Below W.heap.size W W := Below.refl _ _
  replace zW := Nat.le_of_eq zW.symm
  go_cut [10, 11] from 12 to 22 (fun s u0 X => ∃ b : Nat, s = .pointer (some ⟨b, 0, none⟩) ∧ u0 = .int .i64 TR ∧ W.heap.size ≤ b ∧ X.cell? ⟨b, 0, none⟩ = some (.bool me) ∧ X.cell? ⟨b, 1, none⟩ = some (.int .u64 mlo) ∧ X.cell? ⟨b, 2, none⟩ = some (.int .u64 mhi) ∧ Below W.heap.size W X)
  case first =>
   go_region_held3 (fun w' => w'.cell? ⟨w.heap.size, 0, none⟩ = some (.bool e1) ∧ w'.cell? ⟨w.heap.size, 1, none⟩ = some (.int .u64 a) ∧ w'.cell? ⟨w.heap.size, 2, none⟩ = some (.int .u64 b) ∧ w'.cell? ⟨w.heap.size + 1, 0, none⟩ = some (.bool e2) ∧ w'.cell? ⟨w.heap.size + 1, 1, none⟩ = some (.int .u64 c) ∧ w'.cell? ⟨w.heap.size + 1, 2, none⟩ = some (.int .u64 d)) (first | exact hall _ (by first | exact cc | exact cc.drew | exact sp_new cc _ | exact (sp_new cc _).drew | exact sp_new cc.drew _ | exact sp_new (sp_new cc _) _ | exact sp_set3 cc (by omega) _ _ _ | exact (sp_set3 cc (by omega) _ _ _).drew) | trivial)
     (first
       | (go_at_call 100; refine (h1 _).mono ?_; rintro e v1 ⟨L, rfl, hL, g⟩; have oL : Below v1.heap.size v1 v1 := Below.refl _ _; replace cc := sp_call (show Below W.heap.size W _ by first | exact cc | exact cc.drew | exact sp_new cc _ | exact (sp_new cc _).drew | exact sp_new cc.drew _ | exact sp_new (sp_new cc _) _) g; have zcv1 := cc.size; (try first | (have qb := carry1f (o := (Obj.cells #[.bool false, .int .u64 0, .int .u64 0] 126 (0, 0))) g (by assumption)) | (have qb := carry2f (o := (Obj.cells #[.bool false, .int .u64 0, .int .u64 0] 126 (0, 0))) g (by assumption)) | (have qb := carry3f (o := (Obj.cells #[.bool false, .int .u64 0, .int .u64 0] 126 (0, 0))) g (by assumption)) | skip); (try first | (have qb : v1.heap[W.heap.size]? = some (Obj.cells #[.bool false, .int .u64 0, .int .u64 0] 126 (0, 0)) := carry1f g (World.alloc_heap_new W (Obj.cells #[.bool false, .int .u64 0, .int .u64 0] 126 (0, 0)))) | (have qb : v1.heap[W.heap.size]? = some (Obj.cells #[.bool false, .int .u64 0, .int .u64 0] 126 (0, 0)) := carry1f g (World.alloc_heap_new W.drew (Obj.cells #[.bool false, .int .u64 0, .int .u64 0] 126 (0, 0)))) | (have qb : v1.heap[W.heap.size]? = some (Obj.cells #[.bool false, .int .u64 0, .int .u64 0] 126 (0, 0)) := carry1f g (show (World.drew (World.alloc W (Obj.cells #[.bool false, .int .u64 0, .int .u64 0] 126 (0, 0)))).heap[W.heap.size]? = some (Obj.cells #[.bool false, .int .u64 0, .int .u64 0] 126 (0, 0)) from World.alloc_heap_new W (Obj.cells #[.bool false, .int .u64 0, .int .u64 0] 126 (0, 0)))) | skip); skip)
       | (go_at_call 104; refine (ho1 _ _ _ _).mono ?_; rintro e v2 ⟨rfl, g⟩; replace cc := sp_call (show Below W.heap.size W _ by first | exact cc | exact cc.drew | exact sp_new cc _ | exact (sp_new cc _).drew | exact sp_new cc.drew _ | exact sp_new (sp_new cc _) _) g; have zcv2 := cc.size; (try first | (have qb := carry1f (o := (Obj.cells #[.bool false, .int .u64 0, .int .u64 0] 126 (0, 0))) g (by assumption)) | (have qb := carry2f (o := (Obj.cells #[.bool false, .int .u64 0, .int .u64 0] 126 (0, 0))) g (by assumption)) | (have qb := carry3f (o := (Obj.cells #[.bool false, .int .u64 0, .int .u64 0] 126 (0, 0))) g (by assumption)) | skip); (try first | (have qb : v2.heap[v1.heap.size]? = some (Obj.cells #[.bool false, .int .u64 0, .int .u64 0] 126 (0, 0)) := carry1f g (World.alloc_heap_new v1 (Obj.cells #[.bool false, .int .u64 0, .int .u64 0] 126 (0, 0)))) | (have qb : v2.heap[v1.heap.size]? = some (Obj.cells #[.bool false, .int .u64 0, .int .u64 0] 126 (0, 0)) := carry1f g (World.alloc_heap_new v1.drew (Obj.cells #[.bool false, .int .u64 0, .int .u64 0] 126 (0, 0)))) | (have qb : v2.heap[v1.heap.size]? = some (Obj.cells #[.bool false, .int .u64 0, .int .u64 0] 126 (0, 0)) := carry1f g (show (World.drew (World.alloc v1 (Obj.cells #[.bool false, .int .u64 0, .int .u64 0] 126 (0, 0)))).heap[v1.heap.size]? = some (Obj.cells #[.bool false, .int .u64 0, .int .u64 0] 126 (0, 0)) from World.alloc_heap_new v1 (Obj.cells #[.bool false, .int .u64 0, .int .u64 0] 126 (0, 0)))) | skip); replace oL := sp_call (show Below v1.heap.size v1 _ by first | exact oL | exact oL.drew | exact sp_new oL _ | exact (sp_new oL _).drew | exact sp_new oL.drew _) g; clear ho1)
       | (go_at_call 104; refine (ho2 _ _ _ _).mono ?_; rintro e v3 ⟨rfl, g⟩; replace cc := sp_call (show Below W.heap.size W _ by first | exact cc | exact cc.drew | exact sp_new cc _ | exact (sp_new cc _).drew | exact sp_new cc.drew _ | exact sp_new (sp_new cc _) _) g; have zcv3 := cc.size; (try first | (have qb := carry1f (o := (Obj.cells #[.bool false, .int .u64 0, .int .u64 0] 126 (0, 0))) g (by assumption)) | (have qb := carry2f (o := (Obj.cells #[.bool false, .int .u64 0, .int .u64 0] 126 (0, 0))) g (by assumption)) | (have qb := carry3f (o := (Obj.cells #[.bool false, .int .u64 0, .int .u64 0] 126 (0, 0))) g (by assumption)) | skip); (try first | (have qb : v3.heap[v2.heap.size]? = some (Obj.cells #[.bool false, .int .u64 0, .int .u64 0] 126 (0, 0)) := carry1f g (World.alloc_heap_new v2 (Obj.cells #[.bool false, .int .u64 0, .int .u64 0] 126 (0, 0)))) | (have qb : v3.heap[v2.heap.size]? = some (Obj.cells #[.bool false, .int .u64 0, .int .u64 0] 126 (0, 0)) := carry1f g (World.alloc_heap_new v2.drew (Obj.cells #[.bool false, .int .u64 0, .int .u64 0] 126 (0, 0)))) | (have qb : v3.heap[v2.heap.size]? = some (Obj.cells #[.bool false, .int .u64 0, .int .u64 0] 126 (0, 0)) := carry1f g (show (World.drew (World.alloc v2 (Obj.cells #[.bool false, .int .u64 0, .int .u64 0] 126 (0, 0)))).heap[v2.heap.size]? = some (Obj.cells #[.bool false, .int .u64 0, .int .u64 0] 126 (0, 0)) from World.alloc_heap_new v2 (Obj.cells #[.bool false, .int .u64 0, .int .u64 0] 126 (0, 0)))) | skip); replace oL := sp_call (show Below v1.heap.size v1 _ by first | exact oL | exact oL.drew | exact sp_new oL _ | exact (sp_new oL _).drew | exact sp_new oL.drew _) g)
       | (go_at_call 103; refine (h L _ _ hL _ (by first | exact oL | exact oL.drew | exact sp_new oL _ | exact (sp_new oL _).drew | exact sp_new oL.drew _)).mono ?_; rintro e v4 ⟨rfl, g⟩; replace cc := sp_call (show Below W.heap.size W _ by first | exact cc | exact cc.drew | exact sp_new cc _ | exact (sp_new cc _).drew | exact sp_new cc.drew _ | exact sp_new (sp_new cc _) _) g; have zcv4 := cc.size; (try first | (have qb := carry1f (o := (Obj.cells #[.bool false, .int .u64 0, .int .u64 0] 126 (0, 0))) g (by assumption)) | (have qb := carry2f (o := (Obj.cells #[.bool false, .int .u64 0, .int .u64 0] 126 (0, 0))) g (by assumption)) | (have qb := carry3f (o := (Obj.cells #[.bool false, .int .u64 0, .int .u64 0] 126 (0, 0))) g (by assumption)) | skip); (try first | (have qb : v4.heap[v3.heap.size]? = some (Obj.cells #[.bool false, .int .u64 0, .int .u64 0] 126 (0, 0)) := carry1f g (World.alloc_heap_new v3 (Obj.cells #[.bool false, .int .u64 0, .int .u64 0] 126 (0, 0)))) | (have qb : v4.heap[v3.heap.size]? = some (Obj.cells #[.bool false, .int .u64 0, .int .u64 0] 126 (0, 0)) := carry1f g (World.alloc_heap_new v3.drew (Obj.cells #[.bool false, .int .u64 0, .int .u64 0] 126 (0, 0)))) | (have qb : v4.heap[v3.heap.size]? = some (Obj.cells #[.bool false, .int .u64 0, .int .u64 0] 126 (0, 0)) := carry1f g (show (World.drew (World.alloc v3 (Obj.cells #[.bool false, .int .u64 0, .int .u64 0] 126 (0, 0)))).heap[v3.heap.size]? = some (Obj.cells #[.bool false, .int .u64 0, .int .u64 0] 126 (0, 0)) from World.alloc_heap_new v3 (Obj.cells #[.bool false, .int .u64 0, .int .u64 0] 126 (0, 0)))) | skip); (try first | (have hq := zcellsf (v := v4) (by assumption); obtain ⟨q0, q1, q2, qf⟩ := hq) | skip); skip)
       | fail)
   all_goals go_wp2_with fail
   all_goals go_meet
   all_goals exact ⟨_, rfl, rfl, by omega, by first | (simp [go_sem]; done) | (simp [go_sem, q0, q1, q2]; done), by first | (simp [go_sem]; done) | (simp [go_sem, q0, q1, q2]; done), by first | (simp [go_sem]; done) | (simp [go_sem, q0, q1, q2]; done), by first | exact sp_new cc _ | exact sp_set3 cc (by omega) _ _ _⟩
  case rest =>
   obtain ⟨bq, rfl, rfl, hbq, t0, t1, t2, cX⟩ := hcut
   replace r0 := sp_cell_on cX r0
   replace r1 := sp_cell_on cX r1
   replace r2 := sp_cell_on cX r2
   replace fz := fun j => (cX.frozen (p := ⟨w.heap.size + 1 + 1, j, none⟩) (by simp; omega)).trans (fz j)
   have zX := cX.size
   have bX := sp_call bW cX
   clear hall cc
   go_wp2_with (first
     | (go_at_call 99; refine (h5 _).mono ?_; rintro e v5 ⟨rfl, g⟩; replace fz := fun j => (g.frozen (p := ⟨w.heap.size + 1 + 1, j, none⟩) (by simp; omega)).trans (fz j); replace bX := sp_call bX g; replace r0 := sp_cell_on g r0; replace r1 := sp_cell_on g r1; replace r2 := sp_cell_on g r2; clear g)
     | fail)
   exact bodyPost_ret (v := .tuple #[.agg #[.bool me, .int .u64 mlo, .int .u64 mhi], .int .i64 TR]) (by simp [results, Tryz.results52, go_sem, r0, r1, r2]) rfl ⟨rfl, sp_set3 bX (by omega) _ _ _⟩
set_option maxRecDepth 100000 in
set_option maxHeartbeats 6400000 in
theorem fof_of (f : Int) (x y : Int) (me : Bool) (mlo mhi : Int) (h : ∀ L B w0, FlAt f L B w0 → ∀ V, Below B w0 V → Calls Tryz.prog 101 #[.agg (lvf L), .int .u64 x, .int .u64 y] V fun e w' => e = .returned (.agg #[.bool me, .int .u64 mlo, .int .u64 mhi]) ∧ Below V.heap.size V w') (w : World) :
    Calls Tryz.prog 50 #[.int .i64 f, .int .u64 x, .int .u64 y] w fun e w' => e = .returned (.agg #[.bool me, .int .u64 mlo, .int .u64 mhi]) ∧ Below w.heap.size w w' := by
  have h1 := floats_at f
  have h5 := floatRange_any me mlo mhi
  go_enter Tryz.func50, Tryz.ntmps50
  go_wp2_with fail
  obtain ⟨W, hW⟩ : ∃ W, w.alloc (.cells #[.bool false, .int .u64 0, .int .u64 0] 24) = W := ⟨_, rfl⟩
  have r0 : W.cell? ⟨w.heap.size, 0, none⟩ = some (.bool false) := by rw [← hW]; simp [go_sem]
  have r1 : W.cell? ⟨w.heap.size, 1, none⟩ = some (.int .u64 0) := by rw [← hW]; simp [go_sem]
  have r2 : W.cell? ⟨w.heap.size, 2, none⟩ = some (.int .u64 0) := by rw [← hW]; simp [go_sem]
  have fz : ∀ j, W.frozen? ⟨w.heap.size, j, none⟩ = false := by intro j; rw [← hW]; simp [go_sem]
  have bW : Below w.heap.size w W := by rw [← hW]; exact sp_new (Below.refl _ _) _
  have zW : w.heap.size < W.heap.size := by rw [← hW]; simp
  rw [hW]
  clear hW
  refine (h1 _).mono ?_
  rintro e v1 ⟨L, rfl, hL, g1⟩
  go_wp2_with fail
  refine (h L _ _ hL _ (Below.refl _ _)).mono ?_
  rintro e v2 ⟨rfl, g2⟩
  go_wp2_with fail
  refine (h5 _).mono ?_
  rintro e v3 ⟨rfl, g3⟩
  have g := sp_call (sp_call g1 g2) g3
  replace fz := fun j => (g.frozen (p := ⟨w.heap.size, j, none⟩) zW).trans (fz j)
  replace bW := sp_call bW g
  replace r0 := sp_cell_on g r0; replace r1 := sp_cell_on g r1; replace r2 := sp_cell_on g r2
  go_wp2_with fail
  exact bodyPost_ret (v := .agg #[.bool me, .int .u64 mlo, .int .u64 mhi]) (by simp [results, Tryz.results50, go_sem, r0, r1, r2]) rfl ⟨rfl, sp_set3 bW (by omega) _ _ _⟩
end Go.Proofs.YteafnkimcidkhaaGreat

