/- Texts of the proof, put together. -/
import Derived.Test.YtgdknlnpfnifiaaGreatTG3
import Derived.Test.YtgdknlnpfnifiaaGreatTG5
import Derived.Test.YtgdknlnpfnifiaaGreatTMB3
import Derived.Test.YtgdknlnpfnifiaaGreatTMB2
namespace Go.Proofs.YtgdknlnpfnifiaaGreat
def pastP (A : Ways) (L : Ln) (x : Int) : Bool := decide (A.ord (A.pl x) L.least < 0) || decide (0 < A.ord (A.pl x) L.most)
def hullP (A : Ways) (xs : List Int) : Bool × Int × Int := xs.foldl (fun acc x => joinP A acc (false, A.pl x, A.pl x)) (true, 0, 0)
def trapP (A : Ways) (L : Ln) (t : Int) (xs : List Int) : Int := xs.foldl (fun acc x => if pastP A L x then t else acc) 0
theorem hullP_snoc (A : Ways) (pre : List Int) (x : Int) : hullP A (pre ++ [x]) = joinP A (hullP A pre) (false, A.pl x, A.pl x) := by simp [hullP]
theorem trapP_snoc (A : Ways) (L : Ln) (t : Int) (pre : List Int) (x : Int) : trapP A L t (pre ++ [x]) = if pastP A L x then t else trapP A L t pre := by simp [trapP]
theorem joinP_dom {A : Ways} {p q : Bool × Int × Int} (h1 : A.dom p.2.1) (h2 : A.dom p.2.2) (h3 : A.dom q.2.1) (h4 : A.dom q.2.2) : A.dom (joinP A p q).2.1 ∧ A.dom (joinP A p q).2.2 := by
  unfold joinP
  split
  · exact ⟨h3, h4⟩
  · split
    · exact ⟨h1, h2⟩
    · exact ⟨sml_dom h1 h3, grt_dom h2 h4⟩
theorem hullP_domG {A : Ways} : ∀ (xs : List Int) (p : Bool × Int × Int), A.dom p.2.1 → A.dom p.2.2 → (∀ x ∈ xs, A.dom (A.pl x)) → A.dom (xs.foldl (fun acc x => joinP A acc (false, A.pl x, A.pl x)) p).2.1 ∧ A.dom (xs.foldl (fun acc x => joinP A acc (false, A.pl x, A.pl x)) p).2.2
  | [], p, h1, h2, _ => ⟨h1, h2⟩
  | x :: xs, p, h1, h2, hx => by
    have hj := joinP_dom (q := (false, A.pl x, A.pl x)) h1 h2 (hx x (by simp)) (hx x (by simp))
    exact hullP_domG xs _ hj.1 hj.2 (fun y hy => hx y (by simp [hy]))
theorem hullP_dom {A : Ways} (d0 : A.dom 0) (xs : List Int) (hx : ∀ x ∈ xs, A.dom (A.pl x)) : A.dom (hullP A xs).2.1 ∧ A.dom (hullP A xs).2.2 := hullP_domG xs (true, 0, 0) d0 d0 hx
end Go.Proofs.YtgdknlnpfnifiaaGreat

namespace Go.Proofs.YtgdknlnpfnifiaaGreat
def rightP (A : Ways) (p : Bool × Int × Int) : Bool := if p.1 then (p.2.1 == 0 && p.2.2 == 0) else A.one p.2.1 && (A.one p.2.2 && decide (A.ord p.2.1 p.2.2 ≤ 0))
def hasP (A : Ways) (p : Bool × Int × Int) (x : Int) : Bool := !p.1 && (A.one (A.pl x) && (decide (A.ord p.2.1 x ≤ 0) && decide (A.ord x p.2.2 ≤ 0)))
def ofP (A : Ways) (lo hi : Int) : Bool × Int × Int := if rightP A (false, A.pl lo, A.pl hi) then (false, A.pl lo, A.pl hi) else (true, 0, 0)
def belowP (A : Ways) (L : Ln) (x : Int) : Bool × Int × Int := if A.ord x L.least ≤ 0 then (true, 0, 0) else (false, L.least, A.prv x)
def aboveP (A : Ways) (L : Ln) (x : Int) : Bool × Int × Int := if 0 ≤ A.ord x L.most then (true, 0, 0) else (false, A.nxt x, L.most)
end Go.Proofs.YtgdknlnpfnifiaaGreat

namespace Go.Proofs.YtgdknlnpfnifiaaGreat
open Go.RowKit
set_option linter.unusedVariables false
set_option linter.unusedSimpArgs false
set_option maxRecDepth 100000 in
set_option maxHeartbeats 3200000 in
theorem right_f {L : Ln} {A : Ways} {B : Nat} {w0 : World} (H : Actsf L A B w0) (e1 : Bool) (a b : Int) (da : A.dom a) (db : A.dom b) (w : World) (ok : Below B w0 w) :
    Calls Tryz.prog 66 #[.agg (lvf L), .agg #[.bool e1, .int .u64 a, .int .u64 b]] w fun e w' => e = .returned (.bool (rightP A (e1, a, b))) ∧ Below w.heap.size w w' := by
  have h1 := fun V ok => H.one a V da ok
  have h2 := fun V ok => H.one b V db ok
  have h3 := fun V ok => H.ord a b V da db ok
  have h4 := none_f
  have hB := H.hB
  have eo := H.eo
  have e1' := H.e1
  unfold lvf rightP
  dsimp only
  clear H
  generalize A.one a = p1 at *
  generalize A.one b = p2 at *
  generalize A.ord a b = o at *
  cases e1
  · cases p1
    · go_enter Tryz.func66, Tryz.ntmps66
      go_wp2_with fail
      obtain ⟨W, hW⟩ : ∃ W, ((w.alloc (.cells #[.int .u64 L.least, .int .u64 L.most, .int .i64 L.past, .func (.func L.ko) #[] L.co, .func (.func L.kp) #[] L.cp, .func (.func L.k1) #[] L.c1, .func (.func L.kv) #[] L.cv, .func (.func L.kn) #[] L.cn, .func (.func L.ku) #[] L.cu, .func (.func L.kt) #[] L.ct, .func (.func L.kz) #[] L.cz] 59)).alloc (.cells #[.bool false, .int .u64 a, .int .u64 b] 50)) = W := ⟨_, rfl⟩
      have l0 : W.cell? ⟨w.heap.size, 0, none⟩ = some (.int .u64 L.least) := by rw [← hW]; simp [go_sem]
      have l1 : W.cell? ⟨w.heap.size, 1, none⟩ = some (.int .u64 L.most) := by rw [← hW]; simp [go_sem]
      have l2 : W.cell? ⟨w.heap.size, 2, none⟩ = some (.int .i64 L.past) := by rw [← hW]; simp [go_sem]
      have l3 : W.cell? ⟨w.heap.size, 3, none⟩ = some (.func (.func L.ko) #[] L.co) := by rw [← hW]; simp [go_sem]
      have l4 : W.cell? ⟨w.heap.size, 4, none⟩ = some (.func (.func L.kp) #[] L.cp) := by rw [← hW]; simp [go_sem]
      have l5 : W.cell? ⟨w.heap.size, 5, none⟩ = some (.func (.func L.k1) #[] L.c1) := by rw [← hW]; simp [go_sem]
      have l6 : W.cell? ⟨w.heap.size, 6, none⟩ = some (.func (.func L.kv) #[] L.cv) := by rw [← hW]; simp [go_sem]
      have l7 : W.cell? ⟨w.heap.size, 7, none⟩ = some (.func (.func L.kn) #[] L.cn) := by rw [← hW]; simp [go_sem]
      have l8 : W.cell? ⟨w.heap.size, 8, none⟩ = some (.func (.func L.ku) #[] L.cu) := by rw [← hW]; simp [go_sem]
      have l9 : W.cell? ⟨w.heap.size, 9, none⟩ = some (.func (.func L.kt) #[] L.ct) := by rw [← hW]; simp [go_sem]
      have l10 : W.cell? ⟨w.heap.size, 10, none⟩ = some (.func (.func L.kz) #[] L.cz) := by rw [← hW]; simp [go_sem]
      have a0 : W.cell? ⟨w.heap.size + 1, 0, none⟩ = some (.bool false) := by rw [← hW]; simp [go_sem]
      have a1 : W.cell? ⟨w.heap.size + 1, 1, none⟩ = some (.int .u64 a) := by rw [← hW]; simp [go_sem]
      have a2 : W.cell? ⟨w.heap.size + 1, 2, none⟩ = some (.int .u64 b) := by rw [← hW]; simp [go_sem]
      have okW : Below B w0 W := by rw [← hW]; exact (ok_new hB (ok_new hB ok _) _)
      have bW : Below w.heap.size w W := by rw [← hW]; exact (sp_new (sp_new (Below.refl _ _) _) _)
      have zW : W.heap.size = w.heap.size + 2 := by rw [← hW]; simp
      rw [hW]
      clear hW
      with_reducible refine (h1 _ okW).mono ?_
      rintro e w1 ⟨rfl, g1⟩
      replace l0 := sO g1 l0; replace l1 := sO g1 l1; replace l2 := sO g1 l2; replace l3 := sO g1 l3; replace l4 := sO g1 l4; replace l5 := sO g1 l5; replace l6 := sO g1 l6; replace l7 := sO g1 l7; replace l8 := sO g1 l8; replace l9 := sO g1 l9; replace l10 := sO g1 l10; replace a0 := sO g1 a0; replace a1 := sO g1 a1; replace a2 := sO g1 a2; replace okW := ok_call hB okW g1; replace bW := sp_call bW g1
      go_wp2_with fail
      go_ret
      exact ⟨by simp [*], bW⟩
    · cases p2
      · go_enter Tryz.func66, Tryz.ntmps66
        go_wp2_with fail
        obtain ⟨W, hW⟩ : ∃ W, ((w.alloc (.cells #[.int .u64 L.least, .int .u64 L.most, .int .i64 L.past, .func (.func L.ko) #[] L.co, .func (.func L.kp) #[] L.cp, .func (.func L.k1) #[] L.c1, .func (.func L.kv) #[] L.cv, .func (.func L.kn) #[] L.cn, .func (.func L.ku) #[] L.cu, .func (.func L.kt) #[] L.ct, .func (.func L.kz) #[] L.cz] 59)).alloc (.cells #[.bool false, .int .u64 a, .int .u64 b] 50)) = W := ⟨_, rfl⟩
        have l0 : W.cell? ⟨w.heap.size, 0, none⟩ = some (.int .u64 L.least) := by rw [← hW]; simp [go_sem]
        have l1 : W.cell? ⟨w.heap.size, 1, none⟩ = some (.int .u64 L.most) := by rw [← hW]; simp [go_sem]
        have l2 : W.cell? ⟨w.heap.size, 2, none⟩ = some (.int .i64 L.past) := by rw [← hW]; simp [go_sem]
        have l3 : W.cell? ⟨w.heap.size, 3, none⟩ = some (.func (.func L.ko) #[] L.co) := by rw [← hW]; simp [go_sem]
        have l4 : W.cell? ⟨w.heap.size, 4, none⟩ = some (.func (.func L.kp) #[] L.cp) := by rw [← hW]; simp [go_sem]
        have l5 : W.cell? ⟨w.heap.size, 5, none⟩ = some (.func (.func L.k1) #[] L.c1) := by rw [← hW]; simp [go_sem]
        have l6 : W.cell? ⟨w.heap.size, 6, none⟩ = some (.func (.func L.kv) #[] L.cv) := by rw [← hW]; simp [go_sem]
        have l7 : W.cell? ⟨w.heap.size, 7, none⟩ = some (.func (.func L.kn) #[] L.cn) := by rw [← hW]; simp [go_sem]
        have l8 : W.cell? ⟨w.heap.size, 8, none⟩ = some (.func (.func L.ku) #[] L.cu) := by rw [← hW]; simp [go_sem]
        have l9 : W.cell? ⟨w.heap.size, 9, none⟩ = some (.func (.func L.kt) #[] L.ct) := by rw [← hW]; simp [go_sem]
        have l10 : W.cell? ⟨w.heap.size, 10, none⟩ = some (.func (.func L.kz) #[] L.cz) := by rw [← hW]; simp [go_sem]
        have a0 : W.cell? ⟨w.heap.size + 1, 0, none⟩ = some (.bool false) := by rw [← hW]; simp [go_sem]
        have a1 : W.cell? ⟨w.heap.size + 1, 1, none⟩ = some (.int .u64 a) := by rw [← hW]; simp [go_sem]
        have a2 : W.cell? ⟨w.heap.size + 1, 2, none⟩ = some (.int .u64 b) := by rw [← hW]; simp [go_sem]
        have okW : Below B w0 W := by rw [← hW]; exact (ok_new hB (ok_new hB ok _) _)
        have bW : Below w.heap.size w W := by rw [← hW]; exact (sp_new (sp_new (Below.refl _ _) _) _)
        have zW : W.heap.size = w.heap.size + 2 := by rw [← hW]; simp
        rw [hW]
        clear hW
        with_reducible refine (h1 _ okW).mono ?_
        rintro e w1 ⟨rfl, g1⟩
        replace l0 := sO g1 l0; replace l1 := sO g1 l1; replace l2 := sO g1 l2; replace l3 := sO g1 l3; replace l4 := sO g1 l4; replace l5 := sO g1 l5; replace l6 := sO g1 l6; replace l7 := sO g1 l7; replace l8 := sO g1 l8; replace l9 := sO g1 l9; replace l10 := sO g1 l10; replace a0 := sO g1 a0; replace a1 := sO g1 a1; replace a2 := sO g1 a2; replace okW := ok_call hB okW g1; replace bW := sp_call bW g1
        go_wp2_with fail
        with_reducible refine (h2 _ okW).mono ?_
        rintro e w2 ⟨rfl, g2⟩
        replace l0 := sO g2 l0; replace l1 := sO g2 l1; replace l2 := sO g2 l2; replace l3 := sO g2 l3; replace l4 := sO g2 l4; replace l5 := sO g2 l5; replace l6 := sO g2 l6; replace l7 := sO g2 l7; replace l8 := sO g2 l8; replace l9 := sO g2 l9; replace l10 := sO g2 l10; replace a0 := sO g2 a0; replace a1 := sO g2 a1; replace a2 := sO g2 a2; replace okW := ok_call hB okW g2; replace bW := sp_call bW g2
        go_wp2_with fail
        go_ret
        exact ⟨by simp [*], bW⟩
      · by_cases qo : o ≤ 0
        · have qo' : decide (o ≤ 0) = true := decide_eq_true qo
          go_enter Tryz.func66, Tryz.ntmps66
          go_wp2_with fail
          obtain ⟨W, hW⟩ : ∃ W, ((w.alloc (.cells #[.int .u64 L.least, .int .u64 L.most, .int .i64 L.past, .func (.func L.ko) #[] L.co, .func (.func L.kp) #[] L.cp, .func (.func L.k1) #[] L.c1, .func (.func L.kv) #[] L.cv, .func (.func L.kn) #[] L.cn, .func (.func L.ku) #[] L.cu, .func (.func L.kt) #[] L.ct, .func (.func L.kz) #[] L.cz] 59)).alloc (.cells #[.bool false, .int .u64 a, .int .u64 b] 50)) = W := ⟨_, rfl⟩
          have l0 : W.cell? ⟨w.heap.size, 0, none⟩ = some (.int .u64 L.least) := by rw [← hW]; simp [go_sem]
          have l1 : W.cell? ⟨w.heap.size, 1, none⟩ = some (.int .u64 L.most) := by rw [← hW]; simp [go_sem]
          have l2 : W.cell? ⟨w.heap.size, 2, none⟩ = some (.int .i64 L.past) := by rw [← hW]; simp [go_sem]
          have l3 : W.cell? ⟨w.heap.size, 3, none⟩ = some (.func (.func L.ko) #[] L.co) := by rw [← hW]; simp [go_sem]
          have l4 : W.cell? ⟨w.heap.size, 4, none⟩ = some (.func (.func L.kp) #[] L.cp) := by rw [← hW]; simp [go_sem]
          have l5 : W.cell? ⟨w.heap.size, 5, none⟩ = some (.func (.func L.k1) #[] L.c1) := by rw [← hW]; simp [go_sem]
          have l6 : W.cell? ⟨w.heap.size, 6, none⟩ = some (.func (.func L.kv) #[] L.cv) := by rw [← hW]; simp [go_sem]
          have l7 : W.cell? ⟨w.heap.size, 7, none⟩ = some (.func (.func L.kn) #[] L.cn) := by rw [← hW]; simp [go_sem]
          have l8 : W.cell? ⟨w.heap.size, 8, none⟩ = some (.func (.func L.ku) #[] L.cu) := by rw [← hW]; simp [go_sem]
          have l9 : W.cell? ⟨w.heap.size, 9, none⟩ = some (.func (.func L.kt) #[] L.ct) := by rw [← hW]; simp [go_sem]
          have l10 : W.cell? ⟨w.heap.size, 10, none⟩ = some (.func (.func L.kz) #[] L.cz) := by rw [← hW]; simp [go_sem]
          have a0 : W.cell? ⟨w.heap.size + 1, 0, none⟩ = some (.bool false) := by rw [← hW]; simp [go_sem]
          have a1 : W.cell? ⟨w.heap.size + 1, 1, none⟩ = some (.int .u64 a) := by rw [← hW]; simp [go_sem]
          have a2 : W.cell? ⟨w.heap.size + 1, 2, none⟩ = some (.int .u64 b) := by rw [← hW]; simp [go_sem]
          have okW : Below B w0 W := by rw [← hW]; exact (ok_new hB (ok_new hB ok _) _)
          have bW : Below w.heap.size w W := by rw [← hW]; exact (sp_new (sp_new (Below.refl _ _) _) _)
          have zW : W.heap.size = w.heap.size + 2 := by rw [← hW]; simp
          rw [hW]
          clear hW
          with_reducible refine (h1 _ okW).mono ?_
          rintro e w1 ⟨rfl, g1⟩
          replace l0 := sO g1 l0; replace l1 := sO g1 l1; replace l2 := sO g1 l2; replace l3 := sO g1 l3; replace l4 := sO g1 l4; replace l5 := sO g1 l5; replace l6 := sO g1 l6; replace l7 := sO g1 l7; replace l8 := sO g1 l8; replace l9 := sO g1 l9; replace l10 := sO g1 l10; replace a0 := sO g1 a0; replace a1 := sO g1 a1; replace a2 := sO g1 a2; replace okW := ok_call hB okW g1; replace bW := sp_call bW g1
          go_wp2_with fail
          with_reducible refine (h2 _ okW).mono ?_
          rintro e w2 ⟨rfl, g2⟩
          replace l0 := sO g2 l0; replace l1 := sO g2 l1; replace l2 := sO g2 l2; replace l3 := sO g2 l3; replace l4 := sO g2 l4; replace l5 := sO g2 l5; replace l6 := sO g2 l6; replace l7 := sO g2 l7; replace l8 := sO g2 l8; replace l9 := sO g2 l9; replace l10 := sO g2 l10; replace a0 := sO g2 a0; replace a1 := sO g2 a1; replace a2 := sO g2 a2; replace okW := ok_call hB okW g2; replace bW := sp_call bW g2
          go_wp2_with fail
          with_reducible refine (h3 _ okW).mono ?_
          rintro e w3 ⟨rfl, g3⟩
          replace l0 := sO g3 l0; replace l1 := sO g3 l1; replace l2 := sO g3 l2; replace l3 := sO g3 l3; replace l4 := sO g3 l4; replace l5 := sO g3 l5; replace l6 := sO g3 l6; replace l7 := sO g3 l7; replace l8 := sO g3 l8; replace l9 := sO g3 l9; replace l10 := sO g3 l10; replace a0 := sO g3 a0; replace a1 := sO g3 a1; replace a2 := sO g3 a2; replace okW := ok_call hB okW g3; replace bW := sp_call bW g3
          go_wp2_with fail
          go_ret
          exact ⟨by simp [*], bW⟩
        · have qo' : decide (o ≤ 0) = false := decide_eq_false qo
          go_enter Tryz.func66, Tryz.ntmps66
          go_wp2_with fail
          obtain ⟨W, hW⟩ : ∃ W, ((w.alloc (.cells #[.int .u64 L.least, .int .u64 L.most, .int .i64 L.past, .func (.func L.ko) #[] L.co, .func (.func L.kp) #[] L.cp, .func (.func L.k1) #[] L.c1, .func (.func L.kv) #[] L.cv, .func (.func L.kn) #[] L.cn, .func (.func L.ku) #[] L.cu, .func (.func L.kt) #[] L.ct, .func (.func L.kz) #[] L.cz] 59)).alloc (.cells #[.bool false, .int .u64 a, .int .u64 b] 50)) = W := ⟨_, rfl⟩
          have l0 : W.cell? ⟨w.heap.size, 0, none⟩ = some (.int .u64 L.least) := by rw [← hW]; simp [go_sem]
          have l1 : W.cell? ⟨w.heap.size, 1, none⟩ = some (.int .u64 L.most) := by rw [← hW]; simp [go_sem]
          have l2 : W.cell? ⟨w.heap.size, 2, none⟩ = some (.int .i64 L.past) := by rw [← hW]; simp [go_sem]
          have l3 : W.cell? ⟨w.heap.size, 3, none⟩ = some (.func (.func L.ko) #[] L.co) := by rw [← hW]; simp [go_sem]
          have l4 : W.cell? ⟨w.heap.size, 4, none⟩ = some (.func (.func L.kp) #[] L.cp) := by rw [← hW]; simp [go_sem]
          have l5 : W.cell? ⟨w.heap.size, 5, none⟩ = some (.func (.func L.k1) #[] L.c1) := by rw [← hW]; simp [go_sem]
          have l6 : W.cell? ⟨w.heap.size, 6, none⟩ = some (.func (.func L.kv) #[] L.cv) := by rw [← hW]; simp [go_sem]
          have l7 : W.cell? ⟨w.heap.size, 7, none⟩ = some (.func (.func L.kn) #[] L.cn) := by rw [← hW]; simp [go_sem]
          have l8 : W.cell? ⟨w.heap.size, 8, none⟩ = some (.func (.func L.ku) #[] L.cu) := by rw [← hW]; simp [go_sem]
          have l9 : W.cell? ⟨w.heap.size, 9, none⟩ = some (.func (.func L.kt) #[] L.ct) := by rw [← hW]; simp [go_sem]
          have l10 : W.cell? ⟨w.heap.size, 10, none⟩ = some (.func (.func L.kz) #[] L.cz) := by rw [← hW]; simp [go_sem]
          have a0 : W.cell? ⟨w.heap.size + 1, 0, none⟩ = some (.bool false) := by rw [← hW]; simp [go_sem]
          have a1 : W.cell? ⟨w.heap.size + 1, 1, none⟩ = some (.int .u64 a) := by rw [← hW]; simp [go_sem]
          have a2 : W.cell? ⟨w.heap.size + 1, 2, none⟩ = some (.int .u64 b) := by rw [← hW]; simp [go_sem]
          have okW : Below B w0 W := by rw [← hW]; exact (ok_new hB (ok_new hB ok _) _)
          have bW : Below w.heap.size w W := by rw [← hW]; exact (sp_new (sp_new (Below.refl _ _) _) _)
          have zW : W.heap.size = w.heap.size + 2 := by rw [← hW]; simp
          rw [hW]
          clear hW
          with_reducible refine (h1 _ okW).mono ?_
          rintro e w1 ⟨rfl, g1⟩
          replace l0 := sO g1 l0; replace l1 := sO g1 l1; replace l2 := sO g1 l2; replace l3 := sO g1 l3; replace l4 := sO g1 l4; replace l5 := sO g1 l5; replace l6 := sO g1 l6; replace l7 := sO g1 l7; replace l8 := sO g1 l8; replace l9 := sO g1 l9; replace l10 := sO g1 l10; replace a0 := sO g1 a0; replace a1 := sO g1 a1; replace a2 := sO g1 a2; replace okW := ok_call hB okW g1; replace bW := sp_call bW g1
          go_wp2_with fail
          with_reducible refine (h2 _ okW).mono ?_
          rintro e w2 ⟨rfl, g2⟩
          replace l0 := sO g2 l0; replace l1 := sO g2 l1; replace l2 := sO g2 l2; replace l3 := sO g2 l3; replace l4 := sO g2 l4; replace l5 := sO g2 l5; replace l6 := sO g2 l6; replace l7 := sO g2 l7; replace l8 := sO g2 l8; replace l9 := sO g2 l9; replace l10 := sO g2 l10; replace a0 := sO g2 a0; replace a1 := sO g2 a1; replace a2 := sO g2 a2; replace okW := ok_call hB okW g2; replace bW := sp_call bW g2
          go_wp2_with fail
          with_reducible refine (h3 _ okW).mono ?_
          rintro e w3 ⟨rfl, g3⟩
          replace l0 := sO g3 l0; replace l1 := sO g3 l1; replace l2 := sO g3 l2; replace l3 := sO g3 l3; replace l4 := sO g3 l4; replace l5 := sO g3 l5; replace l6 := sO g3 l6; replace l7 := sO g3 l7; replace l8 := sO g3 l8; replace l9 := sO g3 l9; replace l10 := sO g3 l10; replace a0 := sO g3 a0; replace a1 := sO g3 a1; replace a2 := sO g3 a2; replace okW := ok_call hB okW g3; replace bW := sp_call bW g3
          go_wp2_with fail
          go_ret
          exact ⟨by simp [*], bW⟩
  · by_cases qa : a = 0
    · by_cases qb : b = 0
      · subst qa qb
        go_enter Tryz.func66, Tryz.ntmps66
        go_wp2_with fail
        obtain ⟨W, hW⟩ : ∃ W, ((w.alloc (.cells #[.int .u64 L.least, .int .u64 L.most, .int .i64 L.past, .func (.func L.ko) #[] L.co, .func (.func L.kp) #[] L.cp, .func (.func L.k1) #[] L.c1, .func (.func L.kv) #[] L.cv, .func (.func L.kn) #[] L.cn, .func (.func L.ku) #[] L.cu, .func (.func L.kt) #[] L.ct, .func (.func L.kz) #[] L.cz] 59)).alloc (.cells #[.bool true, .int .u64 0, .int .u64 0] 50)) = W := ⟨_, rfl⟩
        have l0 : W.cell? ⟨w.heap.size, 0, none⟩ = some (.int .u64 L.least) := by rw [← hW]; simp [go_sem]
        have l1 : W.cell? ⟨w.heap.size, 1, none⟩ = some (.int .u64 L.most) := by rw [← hW]; simp [go_sem]
        have l2 : W.cell? ⟨w.heap.size, 2, none⟩ = some (.int .i64 L.past) := by rw [← hW]; simp [go_sem]
        have l3 : W.cell? ⟨w.heap.size, 3, none⟩ = some (.func (.func L.ko) #[] L.co) := by rw [← hW]; simp [go_sem]
        have l4 : W.cell? ⟨w.heap.size, 4, none⟩ = some (.func (.func L.kp) #[] L.cp) := by rw [← hW]; simp [go_sem]
        have l5 : W.cell? ⟨w.heap.size, 5, none⟩ = some (.func (.func L.k1) #[] L.c1) := by rw [← hW]; simp [go_sem]
        have l6 : W.cell? ⟨w.heap.size, 6, none⟩ = some (.func (.func L.kv) #[] L.cv) := by rw [← hW]; simp [go_sem]
        have l7 : W.cell? ⟨w.heap.size, 7, none⟩ = some (.func (.func L.kn) #[] L.cn) := by rw [← hW]; simp [go_sem]
        have l8 : W.cell? ⟨w.heap.size, 8, none⟩ = some (.func (.func L.ku) #[] L.cu) := by rw [← hW]; simp [go_sem]
        have l9 : W.cell? ⟨w.heap.size, 9, none⟩ = some (.func (.func L.kt) #[] L.ct) := by rw [← hW]; simp [go_sem]
        have l10 : W.cell? ⟨w.heap.size, 10, none⟩ = some (.func (.func L.kz) #[] L.cz) := by rw [← hW]; simp [go_sem]
        have a0 : W.cell? ⟨w.heap.size + 1, 0, none⟩ = some (.bool true) := by rw [← hW]; simp [go_sem]
        have a1 : W.cell? ⟨w.heap.size + 1, 1, none⟩ = some (.int .u64 0) := by rw [← hW]; simp [go_sem]
        have a2 : W.cell? ⟨w.heap.size + 1, 2, none⟩ = some (.int .u64 0) := by rw [← hW]; simp [go_sem]
        have okW : Below B w0 W := by rw [← hW]; exact (ok_new hB (ok_new hB ok _) _)
        have bW : Below w.heap.size w W := by rw [← hW]; exact (sp_new (sp_new (Below.refl _ _) _) _)
        have zW : W.heap.size = w.heap.size + 2 := by rw [← hW]; simp
        rw [hW]
        clear hW
        go_region_held3 (fun w' => w'.cell? ⟨w.heap.size + 1, 0, none⟩ = some (.bool true) ∧ w'.cell? ⟨w.heap.size + 1, 1, none⟩ = some (.int .u64 0) ∧ w'.cell? ⟨w.heap.size + 1, 2, none⟩ = some (.int .u64 0)) (exact ⟨a0, a1, a2⟩)
          (first
            | (go_at_call 87; refine (h4 _).mono ?_; rintro e w1 ⟨rfl, g1⟩; replace g1 : Below W.heap.size W w1 := ⟨g1.os, g1.tape, g1.output, g1.size, g1.block⟩; replace a0 := sO g1 a0; replace a1 := sO g1 a1; replace a2 := sO g1 a2; replace bW := sp_call bW g1)
            | fail)
        all_goals go_wp2
        all_goals go_ret
        all_goals exact ⟨by simp [*], bW⟩
      · subst qa
        have nb : (b == 0) = false := by simp [qb]
        go_enter Tryz.func66, Tryz.ntmps66
        go_wp2_with fail
        obtain ⟨W, hW⟩ : ∃ W, ((w.alloc (.cells #[.int .u64 L.least, .int .u64 L.most, .int .i64 L.past, .func (.func L.ko) #[] L.co, .func (.func L.kp) #[] L.cp, .func (.func L.k1) #[] L.c1, .func (.func L.kv) #[] L.cv, .func (.func L.kn) #[] L.cn, .func (.func L.ku) #[] L.cu, .func (.func L.kt) #[] L.ct, .func (.func L.kz) #[] L.cz] 59)).alloc (.cells #[.bool true, .int .u64 0, .int .u64 b] 50)) = W := ⟨_, rfl⟩
        have l0 : W.cell? ⟨w.heap.size, 0, none⟩ = some (.int .u64 L.least) := by rw [← hW]; simp [go_sem]
        have l1 : W.cell? ⟨w.heap.size, 1, none⟩ = some (.int .u64 L.most) := by rw [← hW]; simp [go_sem]
        have l2 : W.cell? ⟨w.heap.size, 2, none⟩ = some (.int .i64 L.past) := by rw [← hW]; simp [go_sem]
        have l3 : W.cell? ⟨w.heap.size, 3, none⟩ = some (.func (.func L.ko) #[] L.co) := by rw [← hW]; simp [go_sem]
        have l4 : W.cell? ⟨w.heap.size, 4, none⟩ = some (.func (.func L.kp) #[] L.cp) := by rw [← hW]; simp [go_sem]
        have l5 : W.cell? ⟨w.heap.size, 5, none⟩ = some (.func (.func L.k1) #[] L.c1) := by rw [← hW]; simp [go_sem]
        have l6 : W.cell? ⟨w.heap.size, 6, none⟩ = some (.func (.func L.kv) #[] L.cv) := by rw [← hW]; simp [go_sem]
        have l7 : W.cell? ⟨w.heap.size, 7, none⟩ = some (.func (.func L.kn) #[] L.cn) := by rw [← hW]; simp [go_sem]
        have l8 : W.cell? ⟨w.heap.size, 8, none⟩ = some (.func (.func L.ku) #[] L.cu) := by rw [← hW]; simp [go_sem]
        have l9 : W.cell? ⟨w.heap.size, 9, none⟩ = some (.func (.func L.kt) #[] L.ct) := by rw [← hW]; simp [go_sem]
        have l10 : W.cell? ⟨w.heap.size, 10, none⟩ = some (.func (.func L.kz) #[] L.cz) := by rw [← hW]; simp [go_sem]
        have a0 : W.cell? ⟨w.heap.size + 1, 0, none⟩ = some (.bool true) := by rw [← hW]; simp [go_sem]
        have a1 : W.cell? ⟨w.heap.size + 1, 1, none⟩ = some (.int .u64 0) := by rw [← hW]; simp [go_sem]
        have a2 : W.cell? ⟨w.heap.size + 1, 2, none⟩ = some (.int .u64 b) := by rw [← hW]; simp [go_sem]
        have okW : Below B w0 W := by rw [← hW]; exact (ok_new hB (ok_new hB ok _) _)
        have bW : Below w.heap.size w W := by rw [← hW]; exact (sp_new (sp_new (Below.refl _ _) _) _)
        have zW : W.heap.size = w.heap.size + 2 := by rw [← hW]; simp
        rw [hW]
        clear hW
        go_region_held3 (fun w' => w'.cell? ⟨w.heap.size + 1, 0, none⟩ = some (.bool true) ∧ w'.cell? ⟨w.heap.size + 1, 1, none⟩ = some (.int .u64 0) ∧ w'.cell? ⟨w.heap.size + 1, 2, none⟩ = some (.int .u64 b)) (exact ⟨a0, a1, a2⟩)
          (first
            | (go_at_call 87; refine (h4 _).mono ?_; rintro e w1 ⟨rfl, g1⟩; replace g1 : Below W.heap.size W w1 := ⟨g1.os, g1.tape, g1.output, g1.size, g1.block⟩; replace a0 := sO g1 a0; replace a1 := sO g1 a1; replace a2 := sO g1 a2; replace bW := sp_call bW g1)
            | fail)
        all_goals go_wp2
        all_goals go_ret
        all_goals exact ⟨by simp [*], bW⟩
    · have na : (a == 0) = false := by simp [qa]
      go_enter Tryz.func66, Tryz.ntmps66
      go_wp2_with fail
      obtain ⟨W, hW⟩ : ∃ W, ((w.alloc (.cells #[.int .u64 L.least, .int .u64 L.most, .int .i64 L.past, .func (.func L.ko) #[] L.co, .func (.func L.kp) #[] L.cp, .func (.func L.k1) #[] L.c1, .func (.func L.kv) #[] L.cv, .func (.func L.kn) #[] L.cn, .func (.func L.ku) #[] L.cu, .func (.func L.kt) #[] L.ct, .func (.func L.kz) #[] L.cz] 59)).alloc (.cells #[.bool true, .int .u64 a, .int .u64 b] 50)) = W := ⟨_, rfl⟩
      have l0 : W.cell? ⟨w.heap.size, 0, none⟩ = some (.int .u64 L.least) := by rw [← hW]; simp [go_sem]
      have l1 : W.cell? ⟨w.heap.size, 1, none⟩ = some (.int .u64 L.most) := by rw [← hW]; simp [go_sem]
      have l2 : W.cell? ⟨w.heap.size, 2, none⟩ = some (.int .i64 L.past) := by rw [← hW]; simp [go_sem]
      have l3 : W.cell? ⟨w.heap.size, 3, none⟩ = some (.func (.func L.ko) #[] L.co) := by rw [← hW]; simp [go_sem]
      have l4 : W.cell? ⟨w.heap.size, 4, none⟩ = some (.func (.func L.kp) #[] L.cp) := by rw [← hW]; simp [go_sem]
      have l5 : W.cell? ⟨w.heap.size, 5, none⟩ = some (.func (.func L.k1) #[] L.c1) := by rw [← hW]; simp [go_sem]
      have l6 : W.cell? ⟨w.heap.size, 6, none⟩ = some (.func (.func L.kv) #[] L.cv) := by rw [← hW]; simp [go_sem]
      have l7 : W.cell? ⟨w.heap.size, 7, none⟩ = some (.func (.func L.kn) #[] L.cn) := by rw [← hW]; simp [go_sem]
      have l8 : W.cell? ⟨w.heap.size, 8, none⟩ = some (.func (.func L.ku) #[] L.cu) := by rw [← hW]; simp [go_sem]
      have l9 : W.cell? ⟨w.heap.size, 9, none⟩ = some (.func (.func L.kt) #[] L.ct) := by rw [← hW]; simp [go_sem]
      have l10 : W.cell? ⟨w.heap.size, 10, none⟩ = some (.func (.func L.kz) #[] L.cz) := by rw [← hW]; simp [go_sem]
      have a0 : W.cell? ⟨w.heap.size + 1, 0, none⟩ = some (.bool true) := by rw [← hW]; simp [go_sem]
      have a1 : W.cell? ⟨w.heap.size + 1, 1, none⟩ = some (.int .u64 a) := by rw [← hW]; simp [go_sem]
      have a2 : W.cell? ⟨w.heap.size + 1, 2, none⟩ = some (.int .u64 b) := by rw [← hW]; simp [go_sem]
      have okW : Below B w0 W := by rw [← hW]; exact (ok_new hB (ok_new hB ok _) _)
      have bW : Below w.heap.size w W := by rw [← hW]; exact (sp_new (sp_new (Below.refl _ _) _) _)
      have zW : W.heap.size = w.heap.size + 2 := by rw [← hW]; simp
      rw [hW]
      clear hW
      go_region_held3 (fun w' => w'.cell? ⟨w.heap.size + 1, 0, none⟩ = some (.bool true) ∧ w'.cell? ⟨w.heap.size + 1, 1, none⟩ = some (.int .u64 a) ∧ w'.cell? ⟨w.heap.size + 1, 2, none⟩ = some (.int .u64 b)) (exact ⟨a0, a1, a2⟩)
        (first
          | (go_at_call 87; refine (h4 _).mono ?_; rintro e w1 ⟨rfl, g1⟩; replace g1 : Below W.heap.size W w1 := ⟨g1.os, g1.tape, g1.output, g1.size, g1.block⟩; replace a0 := sO g1 a0; replace a1 := sO g1 a1; replace a2 := sO g1 a2; replace bW := sp_call bW g1)
          | fail)
      all_goals go_wp2
      all_goals go_ret
      all_goals exact ⟨by simp [*], bW⟩
end Go.Proofs.YtgdknlnpfnifiaaGreat


namespace Go.Proofs.YtgdknlnpfnifiaaGreat
open Go.RowKit
set_option linter.unusedVariables false
set_option linter.unusedSimpArgs false
def LnF (s : Bool) (p q : Nat) : Ln := { least := negF s (fI s - 1), most := fI s - 1, past := 2, ko := 82, kp := 70, k1 := 72, kv := 74, kn := 76, ku := 78, kt := 80, kz := 84, co := #[.pointer (some ⟨p, 0, none⟩)], cp := #[.pointer (some ⟨p, 0, none⟩)], c1 := #[.pointer (some ⟨p, 0, none⟩)], cv := #[.pointer (some ⟨p, 0, none⟩)], cn := #[.pointer (some ⟨p, 0, none⟩)], cu := #[.pointer (some ⟨p, 0, none⟩)], ct := #[.pointer (some ⟨p, 0, none⟩)], cz := #[.pointer (some ⟨q, 0, none⟩)] }
def WyF (s : Bool) : Ways := { dom := Word, ord := fun x y => (cmpF s x y).1, pl := plainF s, one := fun x => finF s x && (plainF s x == x), prv := prevF s, nxt := nextF s }
set_option maxRecDepth 100000 in
theorem order_f (f x y : Int) (h1 : Word x) (h2 : Word y) (p : Nat) (w : World) (hf : w.cell? ⟨p, 0, none⟩ = some (.int .i64 f)) : Calls Tryz.prog 82 #[.int .u64 x, .int .u64 y, .pointer (some ⟨p, 0, none⟩)] w fun e w' => e = .returned (.int .i64 (cmpF (f == 1) x y).1) ∧ Below w.heap.size w w' := by
  have hc := compare_fl f x y h1 h2
  generalize cmpF (f == 1) x y = c at *
  obtain ⟨c1, c2⟩ := c
  go_enter Tryz.func82, Tryz.ntmps82
  go_wp2_with (go_at_call 83; refine (hc _).mono ?_; rintro e w1 ⟨rfl, b1⟩)
  go_ret
  exact ⟨rfl, b1⟩
set_option maxRecDepth 100000 in
theorem plain_f (f x : Int) (h1 : Word x) (p : Nat) (w : World) (hf : w.cell? ⟨p, 0, none⟩ = some (.int .i64 f)) : Calls Tryz.prog 70 #[.int .u64 x, .pointer (some ⟨p, 0, none⟩)] w fun e w' => e = .returned (.int .u64 (plainF (f == 1) x)) ∧ Below w.heap.size w w' := by
  have hc := plain_any f x h1
  generalize plainF (f == 1) x = c at *
  go_enter Tryz.func70, Tryz.ntmps70
  go_wp2_with (go_at_call 71; refine (hc _).mono ?_; rintro e w1 ⟨rfl, b1⟩)
  go_ret
  exact ⟨rfl, b1⟩
set_option maxRecDepth 100000 in
theorem prev_f (f x : Int) (h1 : Word x) (p : Nat) (w : World) (hf : w.cell? ⟨p, 0, none⟩ = some (.int .i64 f)) : Calls Tryz.prog 74 #[.int .u64 x, .pointer (some ⟨p, 0, none⟩)] w fun e w' => e = .returned (.int .u64 (prevF (f == 1) x)) ∧ Below w.heap.size w w' := by
  have hc := prev_any f x h1
  generalize prevF (f == 1) x = c at *
  go_enter Tryz.func74, Tryz.ntmps74
  go_wp2_with (go_at_call 75; refine (hc _).mono ?_; rintro e w1 ⟨rfl, b1⟩)
  go_ret
  exact ⟨rfl, b1⟩
set_option maxRecDepth 100000 in
theorem next_f (f x : Int) (h1 : Word x) (p : Nat) (w : World) (hf : w.cell? ⟨p, 0, none⟩ = some (.int .i64 f)) : Calls Tryz.prog 76 #[.int .u64 x, .pointer (some ⟨p, 0, none⟩)] w fun e w' => e = .returned (.int .u64 (nextF (f == 1) x)) ∧ Below w.heap.size w w' := by
  have hc := next_any f x h1
  generalize nextF (f == 1) x = c at *
  go_enter Tryz.func76, Tryz.ntmps76
  go_wp2_with (go_at_call 77; refine (hc _).mono ?_; rintro e w1 ⟨rfl, b1⟩)
  go_ret
  exact ⟨rfl, b1⟩
set_option maxRecDepth 100000 in
theorem one_f (f x : Int) (h1 : Word x) (p : Nat) (w : World) (hf : w.cell? ⟨p, 0, none⟩ = some (.int .i64 f)) : Calls Tryz.prog 72 #[.int .u64 x, .pointer (some ⟨p, 0, none⟩)] w fun e w' => e = .returned (.bool (finF (f == 1) x && (plainF (f == 1) x == x))) ∧ Below w.heap.size w w' := by
  have hc := plain_any f x h1
  have hn := finite_fl f x h1
  generalize plainF (f == 1) x = c at *
  generalize finF (f == 1) x = d at *
  cases d
  · go_enter Tryz.func72, Tryz.ntmps72
    go_wp2_with (first
      | (go_at_call 73; refine (hn _).mono ?_; rintro e w1 ⟨rfl, b1⟩; replace hf := sO b1 hf)
      | fail)
    go_ret
    exact ⟨rfl, b1⟩
  · go_enter Tryz.func72, Tryz.ntmps72
    go_wp2_with (first
      | (go_at_call 73; refine (hn _).mono ?_; rintro e w1 ⟨rfl, b1⟩; replace hf := sO b1 hf)
      | (go_at_call 71; refine (hc _).mono ?_; rintro e w2 ⟨rfl, b2⟩)
      | fail)
    go_ret
    exact ⟨by simp, sp_call b1 b2⟩
theorem acts_f (f : Int) (p q B : Nat) (w0 : World) (hB : B ≤ w0.heap.size) (hp : p < B) (hf : w0.cell? ⟨p, 0, none⟩ = some (.int .i64 f)) : Actsf (LnF (f == 1) p q) (WyF (f == 1)) B w0 := by
  have hV : ∀ V, Below B w0 V → V.cell? ⟨p, 0, none⟩ = some (.int .i64 f) := fun V ok => (ok.cell (p := ⟨p, 0, none⟩) hp).trans hf
  exact {
    hB := hB
    ord := fun x y V dx dy ok => order_f f x y dx dy p V (hV V ok)
    pl := fun x V dx ok => plain_f f x dx p V (hV V ok)
    one := fun x V dx ok => one_f f x dx p V (hV V ok)
    prv := fun x V dx _ ok => prev_f f x dx p V (hV V ok)
    nxt := fun x V dx _ ok => next_f f x dx p V (hV V ok)
    eo := enters_of Tryz.func82 (by kernel_rfl) rfl
    ep := enters_of Tryz.func70 (by kernel_rfl) rfl
    e1 := enters_of Tryz.func72 (by kernel_rfl) rfl
    ev := enters_of Tryz.func74 (by kernel_rfl) rfl
    en := enters_of Tryz.func76 (by kernel_rfl) rfl }
end Go.Proofs.YtgdknlnpfnifiaaGreat


