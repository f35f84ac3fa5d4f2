/- Texts of the proof, put together. -/
import Derived.Test.YteafnkimcidkhaaGreatRG1
import Derived.Test.YteafnkimcidkhaaGreatRG2
import Derived.Test.YteafnkimcidkhaaGreatRSpWf
import Derived.Test.YteafnkimcidkhaaGreatShelf
import Derived.Test.YteafnkimcidkhaaGreatRMB1
import Derived.Test.YteafnkimcidkhaaGreatRMB2
import Derived.Test.YteafnkimcidkhaaGreatRMB3
import Derived.Test.YteafnkimcidkhaaGreatRSpF
import Derived.Test.YteafnkimcidkhaaGreatRSpFl
import Derived.Test.YteafnkimcidkhaaGreatRLjF
import Derived.Test.YteafnkimcidkhaaGreatRLjH
import Derived.Test.YteafnkimcidkhaaGreatRG3
import Derived.Test.YteafnkimcidkhaaGreatRLiF
import Derived.Test.YteafnkimcidkhaaGreatRLiG
import Derived.Test.YteafnkimcidkhaaGreatRLiH
import Derived.Test.YteafnkimcidkhaaGreatRLiI
import Derived.Test.YteafnkimcidkhaaGreatRLiJ
import Derived.Test.YteafnkimcidkhaaGreatRLiK
import Derived.Test.YteafnkimcidkhaaGreatRLiL
import Derived.Test.YteafnkimcidkhaaGreatRLiB
import Derived.Test.YteafnkimcidkhaaGreatRMB4
import Derived.Test.YteafnkimcidkhaaGreatRMB5
import Derived.Test.YteafnkimcidkhaaGreatRLiO
import Derived.Test.YteafnkimcidkhaaGreatRG5
import Derived.Test.YteafnkimcidkhaaGreatRG4
import Derived.Test.YteafnkimcidkhaaGreatRG6
import Derived.Test.YteafnkimcidkhaaGreatRG7
import Derived.Test.YteafnkimcidkhaaGreatRG8
import Derived.Test.YteafnkimcidkhaaGreatRG9
import Derived.Maps.AppendAt
import Derived.OwnWalk
import Derived.Laws.AppendOwn
namespace Go.Proofs.YteafnkimcidkhaaGreat
open Go.RowKit
set_option linter.unusedVariables false
set_option linter.unusedSimpArgs false
theorem ofP_wd {x y : Int} (hx : Word x) (hy : Word y) : wdR (ofP (WyF false) x y) := by
  unfold ofP
  split
  · exact ⟨n_plainw _ _ hx, n_plainw _ _ hy⟩
  · exact ⟨word_0, word_0⟩
theorem outP_wd {g : Int → Int → Int → Int} (gw : ∀ m x y, Word x → Word y → Word (g m x y)) {x y : Bool × Int × Int} (hx : wdR x) (hy : wdR y) : wdR (outP g x y).1 := by
  unfold outP
  split
  · exact ⟨word_0, word_0⟩
  · split
    · exact ⟨word_0, word_0⟩
    · split
      · exact ⟨word_0, word_0⟩
      · obtain ⟨ha, hb⟩ := hx
        obtain ⟨hc, hd⟩ := hy
        exact ofP_wd (lesP_word (lesP_word (lesP_word (lesP_word (gw _ _ _ ha hc) (gw _ _ _ ha hc)) (gw _ _ _ ha hd)) (gw _ _ _ hb hc)) (gw _ _ _ hb hd)) (greP_word (greP_word (greP_word (greP_word (gw _ _ _ hb hd) (gw _ _ _ ha hc)) (gw _ _ _ ha hd)) (gw _ _ _ hb hc)) (gw _ _ _ hb hd))
end Go.Proofs.YteafnkimcidkhaaGreat


namespace Go.Proofs.YteafnkimcidkhaaGreat
open Go.RowKit Go.Shelf
set_option linter.unusedVariables false
set_option linter.unusedSimpArgs false
theorem sumP_wd (x y : Bool × Int × Int) (hx : wdR x) (hy : wdR y) : wdR (sumP x y).1 := outP_wd (fun m x y h1 h2 => addF_word false m x y h1 h2) hx hy
theorem prodP_wd (x y : Bool × Int × Int) (hx : wdR x) (hy : wdR y) : wdR (prodP x y).1 := outP_wd (fun m x y h1 h2 => mulF_word false m x y) hx hy
end Go.Proofs.YteafnkimcidkhaaGreat


namespace Go.Proofs.YteafnkimcidkhaaGreat
open Go.RowKit
set_option linter.unusedVariables false
set_option linter.unusedSimpArgs false
set_option maxRecDepth 100000 in
theorem tixT (b o m c j : Nat) (hj : j < m) (w : World) : (Instr.indexAt 29 (.slice (some ⟨b, o, none⟩) m c) (.int .i64 j)).run Tryz.prog w = .ok (.pointer (some ⟨b, o + j * 4, none⟩)) w := by
  have e2 : ∀ w, (sizeOf (Tryz.prog.elem 29)).run Tryz.prog w = .ok 4 w := fun w => by kernel_rfl
  rw [run_indexAt_slice (h := by first | exact Tryz.underlying29 | rfl), if_pos ⟨by omega, by omega⟩, e2]
  simp [go_sem]
structure RefI (w : World) (p : Nat) (x0 x1 : Bool) (x2 x3 : Int) (ls : List (Int × Bool × Int × Int)) (va : Value) (j : Nat) (v : Value) (V : World) : Prop where
  a4 : V.cell? ⟨p, 4, none⟩ = some va
  q : V.heap[p + 1 + 1]? = some (.cells #[.bool x0, .bool x1, .int .u64 x2, .int .u64 x3, v] 38 (0, 0))
  r : V.heap[p + 1]? = some (.cells #[.bool false, .bool false, .int .u64 0, .int .u64 0, .slice none 0 0] 38 (0, 0))
  own : V.ownsRow (p + 3) 100 4 v j (tcs (ls.take j))
  bel : Below w.heap.size w V
  siz : p + 3 ≤ V.heap.size
theorem RefI.on {w : World} {p : Nat} {x0 x1 : Bool} {x2 x3 : Int} {ls : List (Int × Bool × Int × Int)} {va : Value} {j : Nat} {v : Value} {V V' : World} (h : RefI w p x0 x1 x2 x3 ls va j v V) (g : Below V.heap.size V V') : RefI w p x0 x1 x2 x3 ls va j v V' :=
  ⟨sO g h.a4, carryF g h.q, carryF g h.r, lo_on g h.own, sp_call h.bel g, Nat.le_trans h.siz g.size⟩
theorem lj_c5 {V : World} {b : Nat} {t : TypeId} {x0 x1 x2 x3 x4 : Value} (q : V.heap[b]? = some (.cells #[x0, x1, x2, x3, x4] t (0, 0))) : V.cell? ⟨b, 0, none⟩ = some x0 ∧ V.cell? ⟨b, 1, none⟩ = some x1 ∧ V.cell? ⟨b, 2, none⟩ = some x2 ∧ V.cell? ⟨b, 3, none⟩ = some x3 ∧ V.cell? ⟨b, 4, none⟩ = some x4 ∧ ∀ j, V.frozen? ⟨b, j, none⟩ = false :=
  ⟨by simp [World.cell?, q], by simp [World.cell?, q], by simp [World.cell?, q], by simp [World.cell?, q], by simp [World.cell?, q], fun j => by simp [World.frozen?, q]⟩
end Go.Proofs.YteafnkimcidkhaaGreat


namespace Go.Proofs.YteafnkimcidkhaaGreat
open Go.RowKit
set_option linter.unusedVariables false
set_option linter.unusedSimpArgs false
def rg (rs : List (Bool × Int × Int)) (q : Int) : Bool × Int × Int := rs.getD q.toNat (false, 0, 0)
def arP (rs : List (Bool × Int × Int)) (t : Int × Bool × Int × Int) : Bool := decide (t.1 < (rs.length : Int)) && liR (rg rs t.1)
def seP (rs : List (Bool × Int × Int)) (t : Int × Bool × Int × Int) : Bool := (rg rs t.1).1
set_option maxRecDepth 100000 in
theorem tixF (b o m c j : Nat) (hj : j < m) (w : World) : (Instr.indexAt 51 (.slice (some ⟨b, o, none⟩) m c) (.int .i64 j)).run Tryz.prog w = .ok (.pointer (some ⟨b, o + j * 3, none⟩)) w := by
  have e2 : ∀ w, (sizeOf (Tryz.prog.elem 51)).run Tryz.prog w = .ok 3 w := fun w => by kernel_rfl
  rw [run_indexAt_slice (h := by first | exact Tryz.underlying51 | rfl), if_pos ⟨by omega, by omega⟩, e2]
  simp [go_sem]
theorem TAt.get {W : World} {pa : Option Addr} {n ca : Nat} {ls : List (Int × Bool × Int × Int)} (h : TAt W (.slice pa n ca) ls) {j : Nat} {t : Int × Bool × Int × Int} (hj : ls[j]? = some t) : ∃ b o : Nat, pa = some ⟨b, o, none⟩ ∧ (W.cell? ⟨b, o + j * 4, none⟩ = some (.int .i64 t.1) ∧ W.cell? ⟨b, o + j * 4 + 1, none⟩ = some (.bool t.2.1) ∧ W.cell? ⟨b, o + j * 4 + 2, none⟩ = some (.int .u64 t.2.2.1) ∧ W.cell? ⟨b, o + j * 4 + 3, none⟩ = some (.int .u64 t.2.2.2)) := by
  rcases h with ⟨_, h⟩ | ⟨b, o, cap, h1, h2, h3⟩
  · rw [h] at hj; simp at hj
  · cases h1
    exact ⟨b, o, rfl, h3 j t hj⟩
theorem RAt.get {W : World} {pa : Option Addr} {n ca : Nat} {rs : List (Bool × Int × Int)} (h : RAt W (.slice pa n ca) rs) {q : Int} (h0 : 0 ≤ q) (hq : q < (rs.length : Int)) : ∃ b o : Nat, pa = some ⟨b, o, none⟩ ∧ W.cell? ⟨b, o + q.toNat * 3, none⟩ = some (.bool (rg rs q).1) ∧ W.cell? ⟨b, o + q.toNat * 3 + 1, none⟩ = some (.int .u64 (rg rs q).2.1) ∧ W.cell? ⟨b, o + q.toNat * 3 + 2, none⟩ = some (.int .u64 (rg rs q).2.2) := by
  have hj : rs[q.toNat]? = some (rg rs q) := by
    rw [List.getElem?_eq_getElem (show q.toNat < rs.length by omega)]
    simp [rg, List.getD, List.getElem?_eq_getElem (show q.toNat < rs.length by omega)]
  rcases h with ⟨_, h⟩ | ⟨b, o, cap, h1, h2, h3⟩
  · rw [h] at hj; simp at hj
  · cases h1
    exact ⟨b, o, rfl, h3 _ _ hj⟩
theorem rg_wd {rs : List (Bool × Int × Int)} (hw : ∀ r ∈ rs, wdR r) (q : Int) : wdR (rg rs q) := by
  unfold rg
  by_cases h : q.toNat < rs.length
  · have : rs.getD q.toNat (false, 0, 0) = rs[q.toNat] := by simp [List.getD, List.getElem?_eq_getElem h]
    rw [this]
    exact hw _ (List.getElem_mem h)
  · have : rs.getD q.toNat (false, 0, 0) = (false, 0, 0) := by simp [List.getD, List.getElem?_eq_none (show rs.length ≤ q.toNat by omega)]
    rw [this]
    exact wd0
theorem all_step {α : Type} {f : α → Bool} {l : List α} {j : Nat} {t : α} (h : l[j]? = some t) : (l.drop j).all f = (f t && (l.drop (j + 1)).all f) := by
  have hj := (List.getElem?_eq_some_iff.1 h)
  rw [List.drop_eq_getElem_cons hj.1, hj.2]
  rfl
theorem any_step {α : Type} {f : α → Bool} {l : List α} {j : Nat} {t : α} (h : l[j]? = some t) : (l.drop j).any f = (f t || (l.drop (j + 1)).any f) := by
  have hj := (List.getElem?_eq_some_iff.1 h)
  rw [List.drop_eq_getElem_cons hj.1, hj.2]
  rfl
set_option maxRecDepth 100000 in
set_option maxHeartbeats 6400000 in
theorem allright_any (ls : List (Int × Bool × Int × Int)) (rs : List (Bool × Int × Int)) (hl : ls.length ≤ 400) (hn : ∀ t ∈ ls, 0 ≤ t.1) (hw : ∀ r ∈ rs, wdR r) (va vr : Value) (w : World) (ta : TAt w va ls) (tr : RAt w vr rs) :
    Calls Tryz.prog 74 #[va, vr] w fun e w' => e = .returned (.bool (ls.all (arP rs))) ∧ Below w.heap.size w w' := by
  obtain ⟨pa, ca, rfl⟩ := ta.len
  obtain ⟨pr, cr, rfl⟩ := tr.len
  obtain ⟨len, hlen⟩ : ∃ n, ls.length = n := ⟨_, rfl⟩
  obtain ⟨m, hm⟩ : ∃ n, rs.length = n := ⟨_, rfl⟩
  have ta' : Hid (TAt w (.slice pa len ca) ls) := by rw [← hlen]; exact ta
  have tr' : Hid (RAt w (.slice pr m cr) rs) := by rw [← hm]; exact tr
  have hlen' : Hid (ls.length = len) := hlen
  have hm' : Hid (rs.length = m) := hm
  rw [hlen, hm]
  have l4 : len ≤ 400 := by omega
  clear ta tr hlen hm hl
  go_enter Tryz.func74, Tryz.ntmps74
  go_wp2_with fail
  go_loopw [9] (fun i wr => ∃ (V : World) (j : Nat), V = wr ∧ j ≤ len ∧ i = .int .i64 j ∧ Below w.heap.size w wr ∧ (ls.all (arP rs) = (ls.drop j).all (arP rs))) (fun i _ => len - (intOf i).toNat)
  case atStart => exact ⟨_, 0, rfl, by omega, rfl, Below.refl _ _, rfl⟩
  case round =>
    obtain ⟨V, j, rfl, hj, rfl, bV, heq⟩ := hrel
    by_cases cj : j < len
    case neg =>
      have ej : j = len := by omega
      subst ej
      have fin : Hid (ls.all (arP rs) = true) := (show ls.all (arP rs) = true by rw [heq, List.drop_of_length_le (by rw [hlen'.out]; exact Nat.le_refl _)]; rfl)
      clear heq
      go_wp2_with fail
      go_ret
      exact ⟨by rw [fin.out]; rfl, bV⟩
    case pos =>
      have cj' : (j : Int) < (len : Int) := by omega
      have wj : IntKind.i64.wrap ((j : Int) + 1) = ((j + 1 : Nat) : Int) := by rw [IntKind.wrap_i64]; omega
      obtain ⟨t, ht⟩ : ∃ t, ls[j]? = some t := ⟨_, List.getElem?_eq_getElem (by rw [hlen'.out]; exact cj)⟩
      have st := all_step (f := arP rs) ht
      rw [← heq] at st
      have n0 := hn t (List.mem_of_getElem? ht)
      obtain ⟨b, o, rfl, y0, y1, y2, y3⟩ := (ta'.out.on bV).get ht
      have ix := tixT b o len ca j cj
      have wr := rg_wd hw t.1
      have trV := tr'.out.on bV
      clear ht heq
      obtain ⟨t0, t1, t2, t3⟩ := t
      dsimp only at *
      by_cases c1 : t0 < (m : Int)
      case neg =>
        have c1' : (m : Int) ≤ t0 := by omega
        have ff : Hid (ls.all (arP rs) = false) := (show ls.all (arP rs) = false by rw [st]; simp [arP, hm'.out, c1])
        clear st
        go_wp2_with fail
        go_ret
        exact ⟨by rw [ff.out]; rfl, sp_call bV (sp_new (Below.refl _ _) _)⟩
      case pos =>
        have c1' : ¬ (m : Int) ≤ t0 := by omega
        obtain ⟨br, ro, rfl, r0, r1, r2⟩ := trV.get n0 (by rw [hm'.out]; exact c1)
        obtain ⟨k, rfl⟩ : ∃ k : Nat, t0 = (k : Int) := ⟨t0.toNat, by omega⟩
        simp only [Int.toNat_natCast] at r0 r1 r2
        have ix2 := tixF br ro m cr k (by omega)
        have kr := isrange_any (rg rs (k : Int)) wr
        have av : arP rs ((k : Int), t1, t2, t3) = liR (rg rs (k : Int)) := by simp [arP, hm'.out]; omega
        rw [av] at st
        cases hR : liR (rg rs (k : Int))
        case false =>
          rw [hR] at kr st
          have ff : Hid (ls.all (arP rs) = false) := (show ls.all (arP rs) = false by rw [st]; rfl)
          clear st av trV
          go_upto_region 4 with fail
          have gZ := sp_new (Below.refl _ V) (.cells #[.int .i64 (k : Int), .bool t1, .int .u64 t2, .int .u64 t3] 99)
          have bZ := sp_call bV gZ
          have z0 : (V.alloc (.cells #[.int .i64 (k : Int), .bool t1, .int .u64 t2, .int .u64 t3] 99)).cell? ⟨V.heap.size, 0, none⟩ = some (.int .i64 (k : Int)) := by simp [go_sem]
          replace r0 := sO gZ r0; replace r1 := sO gZ r1; replace r2 := sO gZ r2
          generalize V.alloc (.cells #[.int .i64 (k : Int), .bool t1, .int .u64 t2, .int .u64 t3] 99) = Z at *
          clear gZ
          go_wp2_with (first | (go_at_call 77; refine (kr _).mono ?_; rintro e v1 ⟨rfl, g⟩; replace bZ := sp_call bZ g; clear g kr) | fail)
          go_ret
          exact ⟨by rw [ff.out]; rfl, bZ⟩
        case true =>
          rw [hR] at kr st
          have nx : Hid (ls.all (arP rs) = (ls.drop (j + 1)).all (arP rs)) := (show ls.all (arP rs) = (ls.drop (j + 1)).all (arP rs) by rw [st, Bool.true_and])
          clear st av trV
          go_upto_region 4 with fail
          have gZ := sp_new (Below.refl _ V) (.cells #[.int .i64 (k : Int), .bool t1, .int .u64 t2, .int .u64 t3] 99)
          have bZ := sp_call bV gZ
          have z0 : (V.alloc (.cells #[.int .i64 (k : Int), .bool t1, .int .u64 t2, .int .u64 t3] 99)).cell? ⟨V.heap.size, 0, none⟩ = some (.int .i64 (k : Int)) := by simp [go_sem]
          replace r0 := sO gZ r0; replace r1 := sO gZ r1; replace r2 := sO gZ r2
          generalize V.alloc (.cells #[.int .i64 (k : Int), .bool t1, .int .u64 t2, .int .u64 t3] 99) = Z at *
          clear gZ
          go_wp2_with (first | (go_at_call 77; refine (kr _).mono ?_; rintro e v1 ⟨rfl, g⟩; replace bZ := sp_call bZ g; clear g kr) | fail)
          exact ⟨⟨_, j + 1, rfl, by omega, by first | rfl | go_num | simp, bZ, nx.out⟩, by simp [intOf]; omega⟩
set_option maxRecDepth 100000 in
set_option maxHeartbeats 6400000 in
theorem someempty_any (ls : List (Int × Bool × Int × Int)) (rs : List (Bool × Int × Int)) (hl : ls.length ≤ 400) (hn : ∀ t ∈ ls, 0 ≤ t.1 ∧ t.1 < (rs.length : Int)) (va vr : Value) (w : World) (ta : TAt w va ls) (tr : RAt w vr rs) :
    Calls Tryz.prog 75 #[va, vr] w fun e w' => e = .returned (.bool (ls.any (seP rs))) ∧ Below w.heap.size w w' := by
  obtain ⟨pa, ca, rfl⟩ := ta.len
  obtain ⟨pr, cr, rfl⟩ := tr.len
  obtain ⟨len, hlen⟩ : ∃ n, ls.length = n := ⟨_, rfl⟩
  obtain ⟨m, hm⟩ : ∃ n, rs.length = n := ⟨_, rfl⟩
  have ta' : Hid (TAt w (.slice pa len ca) ls) := by rw [← hlen]; exact ta
  have tr' : Hid (RAt w (.slice pr m cr) rs) := by rw [← hm]; exact tr
  have hlen' : Hid (ls.length = len) := hlen
  have hm' : Hid (rs.length = m) := hm
  rw [hlen, hm]
  have l4 : len ≤ 400 := by omega
  clear ta tr hlen hm hl
  go_enter Tryz.func75, Tryz.ntmps75
  go_wp2_with fail
  go_loopw [9] (fun i wr => ∃ (V : World) (j : Nat), V = wr ∧ j ≤ len ∧ i = .int .i64 j ∧ Below w.heap.size w wr ∧ (ls.any (seP rs) = (ls.drop j).any (seP rs))) (fun i _ => len - (intOf i).toNat)
  case atStart => exact ⟨_, 0, rfl, by omega, rfl, Below.refl _ _, rfl⟩
  case round =>
    obtain ⟨V, j, rfl, hj, rfl, bV, heq⟩ := hrel
    by_cases cj : j < len
    case neg =>
      have ej : j = len := by omega
      subst ej
      have fin : Hid (ls.any (seP rs) = false) := (show ls.any (seP rs) = false by rw [heq, List.drop_of_length_le (by rw [hlen'.out]; exact Nat.le_refl _)]; rfl)
      clear heq
      go_wp2_with fail
      go_ret
      exact ⟨by rw [fin.out]; rfl, bV⟩
    case pos =>
      have cj' : (j : Int) < (len : Int) := by omega
      have wj : IntKind.i64.wrap ((j : Int) + 1) = ((j + 1 : Nat) : Int) := by rw [IntKind.wrap_i64]; omega
      obtain ⟨t, ht⟩ : ∃ t, ls[j]? = some t := ⟨_, List.getElem?_eq_getElem (by rw [hlen'.out]; exact cj)⟩
      have st := any_step (f := seP rs) ht
      rw [← heq] at st
      obtain ⟨n0, n1⟩ := hn t (List.mem_of_getElem? ht)
      obtain ⟨b, o, rfl, y0, y1, y2, y3⟩ := (ta'.out.on bV).get ht
      have ix := tixT b o len ca j cj
      have trV := tr'.out.on bV
      clear ht heq
      obtain ⟨t0, t1, t2, t3⟩ := t
      dsimp only at *
      obtain ⟨br, ro, rfl, r0, r1, r2⟩ := trV.get n0 n1
      obtain ⟨k, rfl⟩ : ∃ k : Nat, t0 = (k : Int) := ⟨t0.toNat, by omega⟩
      simp only [Int.toNat_natCast] at r0 r1 r2
      have ix2 := tixF br ro m cr k (by rw [hm'.out] at n1; omega)
      have av : seP rs ((k : Int), t1, t2, t3) = (rg rs (k : Int)).1 := rfl
      rw [av] at st
      generalize (rg rs (k : Int)).1 = R0 at *
      cases R0
      case true =>
        have ff : Hid (ls.any (seP rs) = true) := (show ls.any (seP rs) = true by rw [st]; rfl)
        clear st av trV
        go_upto_region 4 with fail
        have gZ := sp_new (Below.refl _ V) (.cells #[.int .i64 (k : Int), .bool t1, .int .u64 t2, .int .u64 t3] 99)
        have bZ := sp_call bV gZ
        have z0 : (V.alloc (.cells #[.int .i64 (k : Int), .bool t1, .int .u64 t2, .int .u64 t3] 99)).cell? ⟨V.heap.size, 0, none⟩ = some (.int .i64 (k : Int)) := by simp [go_sem]
        replace r0 := sO gZ r0; replace r1 := sO gZ r1; replace r2 := sO gZ r2
        generalize V.alloc (.cells #[.int .i64 (k : Int), .bool t1, .int .u64 t2, .int .u64 t3] 99) = Z at *
        clear gZ
        go_wp2_with fail
        go_ret
        exact ⟨by rw [ff.out]; rfl, bZ⟩
      case false =>
        have nx : Hid (ls.any (seP rs) = (ls.drop (j + 1)).any (seP rs)) := (show ls.any (seP rs) = (ls.drop (j + 1)).any (seP rs) by rw [st, Bool.false_or])
        clear st av trV
        go_upto_region 4 with fail
        have gZ := sp_new (Below.refl _ V) (.cells #[.int .i64 (k : Int), .bool t1, .int .u64 t2, .int .u64 t3] 99)
        have bZ := sp_call bV gZ
        have z0 : (V.alloc (.cells #[.int .i64 (k : Int), .bool t1, .int .u64 t2, .int .u64 t3] 99)).cell? ⟨V.heap.size, 0, none⟩ = some (.int .i64 (k : Int)) := by simp [go_sem]
        replace r0 := sO gZ r0; replace r1 := sO gZ r1; replace r2 := sO gZ r2
        generalize V.alloc (.cells #[.int .i64 (k : Int), .bool t1, .int .u64 t2, .int .u64 t3] 99) = Z at *
        clear gZ
        go_wp2_with fail
        exact ⟨⟨_, j + 1, rfl, by omega, by first | rfl | go_num | simp, bZ, nx.out⟩, by simp [intOf]; omega⟩
end Go.Proofs.YteafnkimcidkhaaGreat


namespace Go.Proofs.YteafnkimcidkhaaGreat
open Go.RowKit
set_option linter.unusedVariables false
set_option linter.unusedSimpArgs false
set_option maxRecDepth 100000 in
set_option maxHeartbeats 6400000 in
theorem lieval_no (wa ae : Bool) (al ah : Int) (va : Value) (hva : ∃ o n c, va = .slice o n c) (vl : Value) (ok : World → Prop) (hok : ∀ W V, ok W → Below W.heap.size W V → ok V) (kb : ∀ V, ok V → Calls Tryz.prog 73 #[.agg #[.bool wa, .bool ae, .int .u64 al, .int .u64 ah, va]] V fun e w' => e = .returned (.bool false) ∧ Below V.heap.size V w') (w : World) (h0 : ok w) :
    Calls Tryz.prog 35 #[.agg #[.bool wa, .bool ae, .int .u64 al, .int .u64 ah, va], vl] w fun e w' => e = .returned (.tuple #[.agg #[.bool false, .int .u64 0, .int .u64 0], .bool false]) ∧ Below w.heap.size w w' := by
  obtain ⟨pa, na, ca, rfl⟩ := hva
  go_enter Tryz.func35, Tryz.ntmps35
  go_upto_region 1 with fail
  obtain ⟨W, hW⟩ : ∃ W, ((w.alloc (.cells #[.bool wa, .bool ae, .int .u64 al, .int .u64 ah, .slice pa na ca] 31)).alloc (.cells #[.bool false, .int .u64 0, .int .u64 0] 24)) = W := ⟨_, rfl⟩
  have a0 : W.cell? ⟨w.heap.size, 0, none⟩ = some (.bool wa) := by rw [← hW]; simp [go_sem]
  have a1 : W.cell? ⟨w.heap.size, 1, none⟩ = some (.bool ae) := by rw [← hW]; simp [go_sem]
  have a2 : W.cell? ⟨w.heap.size, 2, none⟩ = some (.int .u64 al) := by rw [← hW]; simp [go_sem]
  have a3 : W.cell? ⟨w.heap.size, 3, none⟩ = some (.int .u64 ah) := by rw [← hW]; simp [go_sem]
  have a4 : W.cell? ⟨w.heap.size, 4, none⟩ = some (.slice pa na ca) := by rw [← hW]; simp [go_sem]
  have r0 : W.cell? ⟨w.heap.size + 1, 0, none⟩ = some (.bool false) := by rw [← hW]; simp [go_sem]
  have r1 : W.cell? ⟨w.heap.size + 1, 1, none⟩ = some (.int .u64 0) := by rw [← hW]; simp [go_sem]
  have r2 : W.cell? ⟨w.heap.size + 1, 2, none⟩ = some (.int .u64 0) := by rw [← hW]; simp [go_sem]
  have bW : Below w.heap.size w W := by rw [← hW]; exact (sp_new (sp_new (Below.refl _ _) _) _)
  have zW : W.heap.size = w.heap.size + 2 := by rw [← hW]; simp
  have fz : ∀ j, W.frozen? ⟨w.heap.size + 1, j, none⟩ = false := by intro j; rw [← hW]; simp [go_sem]
  rw [hW]
  clear hW
  replace zW := Nat.le_of_eq zW.symm
  have oW := hok _ _ h0 bW
  go_wp2_with (first
    | (go_at_call 73; (with_reducible refine (kb _ oW).mono ?_); rintro e v1 ⟨rfl, g⟩; replace fz : ∀ j, v1.frozen? ⟨w.heap.size + 1, j, none⟩ = false := fun j => (g.frozen (p := ⟨w.heap.size + 1, j, none⟩) (by first | (simp; done) | (simp; omega))).trans (fz j); replace bW := sp_call bW g; replace zW := Nat.le_trans zW g.size; replace a0 := sO g a0; replace a1 := sO g a1; replace a2 := sO g a2; replace a3 := sO g a3; replace a4 := sO g a4; replace r0 := sO g r0; replace r1 := sO g r1; replace r2 := sO g r2; clear g)
    | fail)
  exact bodyPost_ret (v := .tuple #[.agg #[.bool false, .int .u64 0, .int .u64 0], .bool false]) (by simp [results, Tryz.results35, go_sem, r0, r1, r2]) rfl ⟨rfl, (by (repeat (first | with_reducible assumption | with_reducible refine li_set1 ?_ (by omega) _ | with_reducible refine sp_new ?_ _)))⟩
end Go.Proofs.YteafnkimcidkhaaGreat

namespace Go.Proofs.YteafnkimcidkhaaGreat
open Go.RowKit
set_option linter.unusedVariables false
set_option linter.unusedSimpArgs false
theorem lj_old {W : World} {c : Nat} {o : Obj} (q : W.heap[c]? = some o) (o' : Obj) : (W.alloc o').heap[c]? = some o := (Below.heap_alloc W o' c (Array.getElem?_eq_some_iff.1 q).1).trans q
theorem lj_set3 {W : World} {b : Nat} {t : TypeId} {z : Nat × Nat} {y0 y1 y2 : Value} (q : W.heap[b]? = some (.cells #[y0, y1, y2] t z)) (x0 x1 x2 : Value) : (((W.setCell ⟨b, 0, none⟩ x0).setCell ⟨b, 1, none⟩ x1).setCell ⟨b, 2, none⟩ x2).heap[b]? = some (.cells #[x0, x1, x2] t z) := by
  have h := (at_set (at_set (at_set q 0 x0) 1 x1) 2 x2)
  simpa using h
theorem lj_far3 {W : World} {b c : Nat} {o : Obj} (q : W.heap[c]? = some o) (x0 x1 x2 : Value) (h : b ≠ c) : (((W.setCell ⟨b, 0, none⟩ x0).setCell ⟨b, 1, none⟩ x1).setCell ⟨b, 2, none⟩ x2).heap[c]? = some o := by
  rw [at_far _ _ h, at_far _ _ h, at_far _ _ h, q]
set_option maxRecDepth 100000 in
set_option maxHeartbeats 6400000 in
theorem lieval_ar (x0 x1 : Bool) (x2 x3 : Int) (ls : List (Int × Bool × Int × Int)) (rs : List (Bool × Int × Int)) (pa pr : Option Addr) (len ca m cr : Nat) (kb : ∀ V, TAt V (.slice pa len ca) ls → Calls Tryz.prog 73 #[.agg #[.bool x0, .bool x1, .int .u64 x2, .int .u64 x3, .slice pa len ca]] V fun e w' => e = .returned (.bool true) ∧ Below V.heap.size V w') (ka : ∀ V, TAt V (.slice pa len ca) ls → RAt V (.slice pr m cr) rs → Calls Tryz.prog 74 #[.slice pa len ca, .slice pr m cr] V fun e w' => e = .returned (.bool false) ∧ Below V.heap.size V w') (w : World) (ta : TAt w (.slice pa len ca) ls) (tr : RAt w (.slice pr m cr) rs) :
    Calls Tryz.prog 35 #[.agg #[.bool x0, .bool x1, .int .u64 x2, .int .u64 x3, .slice pa len ca], .slice pr m cr] w fun e w' => e = .returned (.tuple #[.agg #[.bool false, .int .u64 0, .int .u64 0], .bool false]) ∧ Below w.heap.size w w' := by
  obtain ⟨p, hp⟩ : ∃ p, w.heap.size = p := ⟨_, rfl⟩
  obtain ⟨W, hW⟩ : ∃ W, (w.alloc (.cells #[.bool x0, .bool x1, .int .u64 x2, .int .u64 x3, .slice pa len ca] 31)).alloc (.cells #[.bool false, .int .u64 0, .int .u64 0] 24) = W := ⟨_, rfl⟩
  have bW : Below w.heap.size w W := by rw [← hW]; exact sp_new (sp_new (Below.refl _ _) _) _
  have a0 : W.cell? ⟨p, 0, none⟩ = some (.bool x0) := by rw [← hW, ← hp]; simp [go_sem]
  have a1 : W.cell? ⟨p, 1, none⟩ = some (.bool x1) := by rw [← hW, ← hp]; simp [go_sem]
  have a2 : W.cell? ⟨p, 2, none⟩ = some (.int .u64 x2) := by rw [← hW, ← hp]; simp [go_sem]
  have a3 : W.cell? ⟨p, 3, none⟩ = some (.int .u64 x3) := by rw [← hW, ← hp]; simp [go_sem]
  have a4 : W.cell? ⟨p, 4, none⟩ = some (.slice pa len ca) := by rw [← hW, ← hp]; simp [go_sem]
  have q : W.heap[p + 1]? = some (.cells #[.bool false, .int .u64 0, .int .u64 0] 24 (0, 0)) := by
    have := World.alloc_heap_new (w.alloc (.cells #[.bool x0, .bool x1, .int .u64 x2, .int .u64 x3, .slice pa len ca] 31)) (.cells #[.bool false, .int .u64 0, .int .u64 0] 24)
    rw [hW] at this
    rw [← hp]
    simpa using this
  go_enter Tryz.func35, Tryz.ntmps35
  go_upto_region 1 with fail
  (try rw [hW])
  (try rw [hp])
  clear hW
  have kb1 := fun V g => kb V (ta.on g)
  have ka1 := fun V g => ka V (ta.on g) (tr.on g)
  go_upto_region 2 with (first
    | (go_at_call 73; refine (kb1 _ bW).mono ?_; rintro e v1 ⟨rfl, g⟩; replace a0 := sO g a0; replace a1 := sO g a1; replace a2 := sO g a2; replace a3 := sO g a3; replace a4 := sO g a4; replace q := carryF g q; replace bW := sp_call bW g; clear g; clear kb1)
    | (go_at_call 74; refine (ka1 _ bW).mono ?_; rintro e v2 ⟨rfl, g⟩; replace a0 := sO g a0; replace a1 := sO g a1; replace a2 := sO g a2; replace a3 := sO g a3; replace a4 := sO g a4; replace q := carryF g q; replace bW := sp_call bW g; clear g; clear ka1)
    | fail)
  obtain ⟨q0, q1, q2, qf⟩ := lj_cells3 q
  go_wp2_with fail
  exact bodyPost_ret (v := .tuple #[.agg #[.bool false, .int .u64 0, .int .u64 0], .bool false]) (by simp [results, Tryz.results35, go_sem, q0, q1, q2]) rfl ⟨rfl, by first | exact sp_set3 bW (by omega) _ _ _ | (rw [← hp]; exact sp_set3 bW (by omega) _ _ _)⟩
set_option maxRecDepth 100000 in
set_option maxHeartbeats 6400000 in
theorem lieval_em (x0 x1 : Bool) (x2 x3 : Int) (ls : List (Int × Bool × Int × Int)) (rs : List (Bool × Int × Int)) (pa pr : Option Addr) (len ca m cr : Nat) (kb : ∀ V, TAt V (.slice pa len ca) ls → Calls Tryz.prog 73 #[.agg #[.bool x0, .bool x1, .int .u64 x2, .int .u64 x3, .slice pa len ca]] V fun e w' => e = .returned (.bool true) ∧ Below V.heap.size V w') (ka : ∀ V, TAt V (.slice pa len ca) ls → RAt V (.slice pr m cr) rs → Calls Tryz.prog 74 #[.slice pa len ca, .slice pr m cr] V fun e w' => e = .returned (.bool true) ∧ Below V.heap.size V w') (ks : ∀ V, TAt V (.slice pa len ca) ls → RAt V (.slice pr m cr) rs → Calls Tryz.prog 75 #[.slice pa len ca, .slice pr m cr] V fun e w' => e = .returned (.bool true) ∧ Below V.heap.size V w') (w : World) (ta : TAt w (.slice pa len ca) ls) (tr : RAt w (.slice pr m cr) rs) :
    Calls Tryz.prog 35 #[.agg #[.bool x0, .bool x1, .int .u64 x2, .int .u64 x3, .slice pa len ca], .slice pr m cr] w fun e w' => e = .returned (.tuple #[.agg #[.bool true, .int .u64 0, .int .u64 0], .bool true]) ∧ Below w.heap.size w w' := by
  obtain ⟨p, hp⟩ : ∃ p, w.heap.size = p := ⟨_, rfl⟩
  obtain ⟨W, hW⟩ : ∃ W, (w.alloc (.cells #[.bool x0, .bool x1, .int .u64 x2, .int .u64 x3, .slice pa len ca] 31)).alloc (.cells #[.bool false, .int .u64 0, .int .u64 0] 24) = W := ⟨_, rfl⟩
  have bW : Below w.heap.size w W := by rw [← hW]; exact sp_new (sp_new (Below.refl _ _) _) _
  have a0 : W.cell? ⟨p, 0, none⟩ = some (.bool x0) := by rw [← hW, ← hp]; simp [go_sem]
  have a1 : W.cell? ⟨p, 1, none⟩ = some (.bool x1) := by rw [← hW, ← hp]; simp [go_sem]
  have a2 : W.cell? ⟨p, 2, none⟩ = some (.int .u64 x2) := by rw [← hW, ← hp]; simp [go_sem]
  have a3 : W.cell? ⟨p, 3, none⟩ = some (.int .u64 x3) := by rw [← hW, ← hp]; simp [go_sem]
  have a4 : W.cell? ⟨p, 4, none⟩ = some (.slice pa len ca) := by rw [← hW, ← hp]; simp [go_sem]
  have q : W.heap[p + 1]? = some (.cells #[.bool false, .int .u64 0, .int .u64 0] 24 (0, 0)) := by
    have := World.alloc_heap_new (w.alloc (.cells #[.bool x0, .bool x1, .int .u64 x2, .int .u64 x3, .slice pa len ca] 31)) (.cells #[.bool false, .int .u64 0, .int .u64 0] 24)
    rw [hW] at this
    rw [← hp]
    simpa using this
  go_enter Tryz.func35, Tryz.ntmps35
  go_upto_region 1 with fail
  (try rw [hW])
  (try rw [hp])
  clear hW
  have kb1 := fun V g => kb V (ta.on g)
  have ka1 := fun V g => ka V (ta.on g) (tr.on g)
  go_upto_region 4 with (first
    | (go_at_call 73; refine (kb1 _ bW).mono ?_; rintro e v1 ⟨rfl, g⟩; replace a0 := sO g a0; replace a1 := sO g a1; replace a2 := sO g a2; replace a3 := sO g a3; replace a4 := sO g a4; replace q := carryF g q; replace bW := sp_call bW g; clear g; clear kb1)
    | (go_at_call 74; refine (ka1 _ bW).mono ?_; rintro e v2 ⟨rfl, g⟩; replace a0 := sO g a0; replace a1 := sO g a1; replace a2 := sO g a2; replace a3 := sO g a3; replace a4 := sO g a4; replace q := carryF g q; replace bW := sp_call bW g; clear g; clear ka1)
    | (go_at_call 75; refine (ks _ (ta.on bW) (tr.on bW)).mono ?_; rintro e v3 ⟨rfl, g⟩; replace a0 := sO g a0; replace a1 := sO g a1; replace a2 := sO g a2; replace a3 := sO g a3; replace a4 := sO g a4; replace q := carryF g q; replace bW := sp_call bW g; clear g)
    | fail)
  obtain ⟨q0, q1, q2, qf⟩ := lj_cells3 q
  go_wp2_with fail
  exact bodyPost_ret (v := .tuple #[.agg #[.bool true, .int .u64 0, .int .u64 0], .bool true]) (by simp [results, Tryz.results35, go_sem, q0, q1, q2]) rfl ⟨rfl, by first | exact sp_set3 bW (by omega) _ _ _ | (rw [← hp]; exact sp_set3 bW (by omega) _ _ _)⟩
def evL (rs : List (Bool × Int × Int)) : Bool × Int × Int → List (Int × Bool × Int × Int) → (Bool × Int × Int) × Bool
  | r, [] => (r, true)
  | r, t :: ls => if (prodP t.2 (rg rs t.1)).2 = false then ((false, 0, 0), false) else if (sumP r (prodP t.2 (rg rs t.1)).1).2 = false then ((false, 0, 0), false) else evL rs (sumP r (prodP t.2 (rg rs t.1)).1).1 ls
theorem evL_step {rs : List (Bool × Int × Int)} {r : Bool × Int × Int} {ls : List (Int × Bool × Int × Int)} {j : Nat} {t : Int × Bool × Int × Int} (h : ls[j]? = some t) : evL rs r (ls.drop j) = if (prodP t.2 (rg rs t.1)).2 = false then ((false, 0, 0), false) else if (sumP r (prodP t.2 (rg rs t.1)).1).2 = false then ((false, 0, 0), false) else evL rs (sumP r (prodP t.2 (rg rs t.1)).1).1 (ls.drop (j + 1)) := by
  have hj := (List.getElem?_eq_some_iff.1 h)
  rw [List.drop_eq_getElem_cons hj.1, hj.2]
  rfl
set_option maxRecDepth 100000 in
set_option maxHeartbeats 6400000 in
theorem lieval_go (x0 x1 : Bool) (x2 x3 : Int) (ls : List (Int × Bool × Int × Int)) (rs : List (Bool × Int × Int)) (pa pr : Option Addr) (len ca m cr : Nat) (hlen : ls.length = len) (hm : rs.length = m) (hl : len ≤ 400) (hn : ∀ t ∈ ls, 0 ≤ t.1 ∧ t.1 < (m : Int)) (wl : ∀ t ∈ ls, wdR t.2) (wr : ∀ r ∈ rs, wdR r) (wx : wdR (x1, x2, x3)) (kb : ∀ V, TAt V (.slice pa len ca) ls → Calls Tryz.prog 73 #[.agg #[.bool x0, .bool x1, .int .u64 x2, .int .u64 x3, .slice pa len ca]] V fun e w' => e = .returned (.bool true) ∧ Below V.heap.size V w') (ka : ∀ V, TAt V (.slice pa len ca) ls → RAt V (.slice pr m cr) rs → Calls Tryz.prog 74 #[.slice pa len ca, .slice pr m cr] V fun e w' => e = .returned (.bool true) ∧ Below V.heap.size V w') (ks : ∀ V, TAt V (.slice pa len ca) ls → RAt V (.slice pr m cr) rs → Calls Tryz.prog 75 #[.slice pa len ca, .slice pr m cr] V fun e w' => e = .returned (.bool false) ∧ Below V.heap.size V w') (w : World) (ta : TAt w (.slice pa len ca) ls) (tr : RAt w (.slice pr m cr) rs) :
    Calls Tryz.prog 35 #[.agg #[.bool x0, .bool x1, .int .u64 x2, .int .u64 x3, .slice pa len ca], .slice pr m cr] w fun e w' => e = .returned (.tuple #[.agg #[.bool (evL rs (x1, x2, x3) ls).1.1, .int .u64 (evL rs (x1, x2, x3) ls).1.2.1, .int .u64 (evL rs (x1, x2, x3) ls).1.2.2], .bool (evL rs (x1, x2, x3) ls).2]) ∧ Below w.heap.size w w' := by
  obtain ⟨p, hp⟩ : ∃ p, w.heap.size = p := ⟨_, rfl⟩
  obtain ⟨W, hW⟩ : ∃ W, (w.alloc (.cells #[.bool x0, .bool x1, .int .u64 x2, .int .u64 x3, .slice pa len ca] 31)).alloc (.cells #[.bool false, .int .u64 0, .int .u64 0] 24) = W := ⟨_, rfl⟩
  have bW : Below w.heap.size w W := by rw [← hW]; exact sp_new (sp_new (Below.refl _ _) _) _
  have a0 : W.cell? ⟨p, 0, none⟩ = some (.bool x0) := by rw [← hW, ← hp]; simp [go_sem]
  have a1 : W.cell? ⟨p, 1, none⟩ = some (.bool x1) := by rw [← hW, ← hp]; simp [go_sem]
  have a2 : W.cell? ⟨p, 2, none⟩ = some (.int .u64 x2) := by rw [← hW, ← hp]; simp [go_sem]
  have a3 : W.cell? ⟨p, 3, none⟩ = some (.int .u64 x3) := by rw [← hW, ← hp]; simp [go_sem]
  have a4 : W.cell? ⟨p, 4, none⟩ = some (.slice pa len ca) := by rw [← hW, ← hp]; simp [go_sem]
  have q : W.heap[p + 1]? = some (.cells #[.bool false, .int .u64 0, .int .u64 0] 24 (0, 0)) := by
    have := World.alloc_heap_new (w.alloc (.cells #[.bool x0, .bool x1, .int .u64 x2, .int .u64 x3, .slice pa len ca] 31)) (.cells #[.bool false, .int .u64 0, .int .u64 0] 24)
    rw [hW] at this
    rw [← hp]
    simpa using this
  go_enter Tryz.func35, Tryz.ntmps35
  go_upto_region 1 with fail
  (try rw [hW])
  (try rw [hp])
  clear hW
  have kb1 := fun V g => kb V (ta.on g)
  have ka1 := fun V g => ka V (ta.on g) (tr.on g)
  go_upto_region 5 with (first
    | (go_at_call 73; refine (kb1 _ bW).mono ?_; rintro e v1 ⟨rfl, g⟩; replace a0 := sO g a0; replace a1 := sO g a1; replace a2 := sO g a2; replace a3 := sO g a3; replace a4 := sO g a4; replace q := carryF g q; replace bW := sp_call bW g; clear g; clear kb1)
    | (go_at_call 74; refine (ka1 _ bW).mono ?_; rintro e v2 ⟨rfl, g⟩; replace a0 := sO g a0; replace a1 := sO g a1; replace a2 := sO g a2; replace a3 := sO g a3; replace a4 := sO g a4; replace q := carryF g q; replace bW := sp_call bW g; clear g; clear ka1)
    | (go_at_call 75; refine (ks _ (ta.on bW) (tr.on bW)).mono ?_; rintro e v3 ⟨rfl, g⟩; replace a0 := sO g a0; replace a1 := sO g a1; replace a2 := sO g a2; replace a3 := sO g a3; replace a4 := sO g a4; replace q := carryF g q; replace bW := sp_call bW g; clear g)
    | fail)
  clear ks kb ka
  go_upto_region 6 with fail
  obtain ⟨b6, hb6⟩ : ∃ b, v3.heap.size = b := ⟨_, rfl⟩
  have n61 : b6 ≠ p + 1 := by have := (Array.getElem?_eq_some_iff.1 q).1; omega
  have z6 : w.heap.size ≤ b6 := by have := bW.size; omega
  obtain ⟨V0, hV0⟩ : ∃ V, v3.alloc (.cells #[.bool x1, .int .u64 x2, .int .u64 x3] 24) = V := ⟨_, rfl⟩
  have gN : Below v3.heap.size v3 V0 := by rw [← hV0]; exact sp_new (Below.refl _ _) _
  have q6 : V0.heap[b6]? = some (.cells #[.bool x1, .int .u64 x2, .int .u64 x3] 24 (0, 0)) := by
    have := World.alloc_heap_new v3 (.cells #[.bool x1, .int .u64 x2, .int .u64 x3] 24)
    rw [hV0, hb6] at this
    exact this
  replace a4 := sO gN a4
  replace q := carryF gN q
  replace bW := sp_call bW gN
  rw [hV0]
  (try rw [hb6])
  clear gN hV0 hb6 a0 a1 a2 a3
  have ta' : Hid (TAt w (.slice pa len ca) ls) := ta
  have tr' : Hid (RAt w (.slice pr m cr) rs) := tr
  have hlen' : Hid (ls.length = len) := hlen
  have hm' : Hid (rs.length = m) := hm
  clear ta tr hlen hm
  have kPr := lprod_any
  have kSu := lsum_any
  go_upto_region 7 with fail
  clear a4
  go_loopw [32] (fun i wr => ∃ (V : World) (j : Nat) (R : Bool × Int × Int), V = wr ∧ j ≤ len ∧ i = .int .i64 j ∧ V.heap[p + 1]? = some (.cells #[.bool false, .int .u64 0, .int .u64 0] 24 (0, 0)) ∧ V.heap[b6]? = some (.cells #[.bool R.1, .int .u64 R.2.1, .int .u64 R.2.2] 24 (0, 0)) ∧ Below w.heap.size w V ∧ wdR R ∧ (evL rs (x1, x2, x3) ls = evL rs R (ls.drop j))) (fun i _ => len - (intOf i).toNat)
  case atStart => exact ⟨_, 0, (x1, x2, x3), rfl, by omega, rfl, q, q6, bW, wx, rfl⟩
  case round =>
    clear q q6 bW
    obtain ⟨V, j, ⟨R0, R1, R2⟩, rfl, hj, rfl, q, q6, bV, wR, heq⟩ := hrel
    dsimp only at q6
    by_cases cj : j < len
    case neg =>
      have ej : j = len := by omega
      subst ej
      have fin : evL rs (x1, x2, x3) ls = ((R0, R1, R2), true) := by rw [heq, List.drop_of_length_le (by rw [hlen'.out]; exact Nat.le_refl _)]; rfl
      clear heq
      obtain ⟨q0, q1, q2, qf⟩ := lj_cells3 q
      obtain ⟨g0, g1, g2, gf⟩ := lj_cells3 q6
      go_wp2_with fail
      exact bodyPost_ret (v := .tuple #[.agg #[.bool R0, .int .u64 R1, .int .u64 R2], .bool true]) (by simp [results, Tryz.results35, go_sem, q0, q1, q2]) rfl ⟨by rw [fin], by first | exact sp_set3 bV (by omega) _ _ _ | (rw [← hp]; exact sp_set3 bV (by omega) _ _ _)⟩
    case pos =>
      have cj' : (j : Int) < (len : Int) := by omega
      have wj : IntKind.i64.wrap ((j : Int) + 1) = ((j + 1 : Nat) : Int) := by rw [IntKind.wrap_i64]; omega
      obtain ⟨t, ht⟩ : ∃ t, ls[j]? = some t := ⟨_, List.getElem?_eq_getElem (by rw [hlen'.out]; exact cj)⟩
      have st := evL_step (rs := rs) (r := (R0, R1, R2)) ht
      rw [← heq] at st
      obtain ⟨n0, n1⟩ := hn t (List.mem_of_getElem? ht)
      have wt := wl t (List.mem_of_getElem? ht)
      obtain ⟨b, o, rfl, y0, y1, y2, y3⟩ := (ta'.out.on bV).get ht
      obtain ⟨br, ro, rfl, r0, r1, r2⟩ := (tr'.out.on bV).get n0 (by rw [hm'.out]; exact n1)
      have ix := tixT b o len ca j cj
      have wg := rg_wd wr t.1
      clear ht heq
      obtain ⟨t0, t1, t2, t3⟩ := t
      dsimp only at *
      obtain ⟨k, rfl⟩ : ∃ k : Nat, t0 = (k : Int) := ⟨t0.toNat, by omega⟩
      simp only [Int.toNat_natCast] at r0 r1 r2
      have ix2 := tixF br ro m cr k (by omega)
      have kp := kPr (t1, t2, t3) (rg rs (k : Int)) wt wg
      have wp := prodP_wd (t1, t2, t3) (rg rs (k : Int)) wt wg
      have kS := fun (_ : (prodP (t1, t2, t3) (rg rs (k : Int))).2 = true) => kSu (R0, R1, R2) (prodP (t1, t2, t3) (rg rs (k : Int))).1 wR wp
      have nwd : Hid (wdR (sumP (R0, R1, R2) (prodP (t1, t2, t3) (rg rs (k : Int))).1).1) := sumP_wd _ _ wR wp
      have stp : ((prodP (t1, t2, t3) (rg rs (k : Int))).2 = false → evL rs (x1, x2, x3) ls = ((false, 0, 0), false)) ∧ ((prodP (t1, t2, t3) (rg rs (k : Int))).2 = true → ((sumP (R0, R1, R2) (prodP (t1, t2, t3) (rg rs (k : Int))).1).2 = false → evL rs (x1, x2, x3) ls = ((false, 0, 0), false)) ∧ ((sumP (R0, R1, R2) (prodP (t1, t2, t3) (rg rs (k : Int))).1).2 = true → evL rs (x1, x2, x3) ls = evL rs (sumP (R0, R1, R2) (prodP (t1, t2, t3) (rg rs (k : Int))).1).1 (ls.drop (j + 1)))) :=
        ⟨fun h => by rw [st, if_pos h], fun h => ⟨fun h2 => by rw [st, if_neg (by rw [h]; simp), if_pos h2], fun h2 => by rw [st, if_neg (by rw [h]; simp), if_neg (by rw [h2]; simp)]⟩⟩
      clear st wp wt wg
      generalize sumP (R0, R1, R2) (prodP (t1, t2, t3) (rg rs (k : Int))).1 = NN at *
      generalize prodP (t1, t2, t3) (rg rs (k : Int)) = PP at *
      generalize rg rs (k : Int) = SS at *
      obtain ⟨⟨ne, nl, nh⟩, nk⟩ := NN
      obtain ⟨⟨pe, pl, ph⟩, pk⟩ := PP
      obtain ⟨s0, s1, s2⟩ := SS
      dsimp only at *
      go_upto_region 9 with fail
      obtain ⟨qq, hqq⟩ : ∃ b, V.heap.size = b := ⟨_, rfl⟩
      obtain ⟨Z, hZ⟩ : ∃ Z, V.alloc (.cells #[.int .i64 (k : Int), .bool t1, .int .u64 t2, .int .u64 t3] 99) = Z := ⟨_, rfl⟩
      have gZ : Below V.heap.size V Z := by rw [← hZ]; exact sp_new (Below.refl _ _) _
      have z0 : Z.cell? ⟨qq, 0, none⟩ = some (.int .i64 (k : Int)) := by rw [← hZ, ← hqq]; simp [go_sem]
      have z1 : Z.cell? ⟨qq, 1, none⟩ = some (.bool t1) := by rw [← hZ, ← hqq]; simp [go_sem]
      have z2 : Z.cell? ⟨qq, 2, none⟩ = some (.int .u64 t2) := by rw [← hZ, ← hqq]; simp [go_sem]
      have z3 : Z.cell? ⟨qq, 3, none⟩ = some (.int .u64 t3) := by rw [← hZ, ← hqq]; simp [go_sem]
      replace r0 := sO gZ r0; replace r1 := sO gZ r1; replace r2 := sO gZ r2
      replace q := carryF gZ q
      replace q6 := carryF gZ q6
      replace bV := sp_call bV gZ
      rw [hZ]
      (try rw [hqq])
      clear hZ gZ hqq y0 y1 y2 y3 ix kPr kSu
      have hall : ∀ X9, Below Z.heap.size Z X9 → (X9.cell? ⟨qq, 0, none⟩ = some (.int .i64 (k : Int)) ∧ X9.cell? ⟨qq, 1, none⟩ = some (.bool t1) ∧ X9.cell? ⟨qq, 2, none⟩ = some (.int .u64 t2) ∧ X9.cell? ⟨qq, 3, none⟩ = some (.int .u64 t3) ∧ X9.cell? ⟨br, ro + k * 3, none⟩ = some (.bool s0) ∧ X9.cell? ⟨br, ro + k * 3 + 1, none⟩ = some (.int .u64 s1) ∧ X9.cell? ⟨br, ro + k * 3 + 2, none⟩ = some (.int .u64 s2)) := fun X9 g9 => ⟨sO g9 z0, sO g9 z1, sO g9 z2, sO g9 z3, sO g9 r0, sO g9 r1, sO g9 r2⟩
      have cc : Below Z.heap.size Z Z.drew := (Below.refl _ _).drew
      refine wp_region_held_drew (S := (fun w' => w'.cell? ⟨qq, 0, none⟩ = some (.int .i64 (k : Int)) ∧ w'.cell? ⟨qq, 1, none⟩ = some (.bool t1) ∧ w'.cell? ⟨qq, 2, none⟩ = some (.int .u64 t2) ∧ w'.cell? ⟨qq, 3, none⟩ = some (.int .u64 t3) ∧ w'.cell? ⟨br, ro + k * 3, none⟩ = some (.bool s0) ∧ w'.cell? ⟨br, ro + k * 3 + 1, none⟩ = some (.int .u64 s1) ∧ w'.cell? ⟨br, ro + k * 3 + 2, none⟩ = some (.int .u64 s2))) (by kernel_rfl) (hall _ cc) (fun hH => ?_)
      refine wpAnyH_take (i := 0) (oi := _) (v := .pointer (some ⟨qq, 1, none⟩)) rfl (by kernel_rfl) (by kernel_rfl) (by kernel_rfl) (fun _ _ _ h => h) (Or.inl ⟨by rfl, fun w' hSw => by obtain ⟨zz0, zz1, zz2, zz3, zr0, zr1, zr2⟩ := hSw; go_simp⟩) hH ?_
      simp only [Act.put, List.getElem_toArray, List.getElem_cons_zero, List.getElem_cons_succ, List.setIfInBounds_toArray, List.set_cons_zero, List.set_cons_succ]
      refine wpAnyH_take (i := 1) (oi := _) (v := .agg #[.bool t1, .int .u64 t2, .int .u64 t3]) rfl (by kernel_rfl) (by kernel_rfl) (by kernel_rfl) (fun _ _ _ h => h) (Or.inl ⟨by rfl, fun w' hSw => by obtain ⟨zz0, zz1, zz2, zz3, zr0, zr1, zr2⟩ := hSw; go_simp⟩) hH ?_
      simp only [Act.put, List.getElem_toArray, List.getElem_cons_zero, List.getElem_cons_succ, List.setIfInBounds_toArray, List.set_cons_zero, List.set_cons_succ]
      refine wpAnyH_take (i := 2) (oi := _) (v := .slice (some ⟨br, ro, none⟩) m cr) rfl (by kernel_rfl) (by kernel_rfl) (by kernel_rfl) (fun _ _ _ h => h) (Or.inl ⟨by rfl, fun w' hSw => by obtain ⟨zz0, zz1, zz2, zz3, zr0, zr1, zr2⟩ := hSw; go_simp⟩) hH ?_
      simp only [Act.put, List.getElem_toArray, List.getElem_cons_zero, List.getElem_cons_succ, List.setIfInBounds_toArray, List.set_cons_zero, List.set_cons_succ]
      refine wpAnyH_take (i := 3) (oi := _) (v := .pointer (some ⟨qq, 0, none⟩)) rfl (by kernel_rfl) (by kernel_rfl) (by kernel_rfl) (fun _ _ _ h => h) (Or.inl ⟨by rfl, fun w' hSw => by obtain ⟨zz0, zz1, zz2, zz3, zr0, zr1, zr2⟩ := hSw; go_simp⟩) hH ?_
      simp only [Act.put, List.getElem_toArray, List.getElem_cons_zero, List.getElem_cons_succ, List.setIfInBounds_toArray, List.set_cons_zero, List.set_cons_succ]
      refine wpAnyH_take (i := 4) (oi := _) (v := .int .i64 (k : Int)) rfl (by kernel_rfl) (by kernel_rfl) (by kernel_rfl) (fun _ _ _ h => h) (Or.inl ⟨by rfl, fun w' hSw => by obtain ⟨zz0, zz1, zz2, zz3, zr0, zr1, zr2⟩ := hSw; go_simp⟩) hH ?_
      simp only [Act.put, List.getElem_toArray, List.getElem_cons_zero, List.getElem_cons_succ, List.setIfInBounds_toArray, List.set_cons_zero, List.set_cons_succ]
      refine wpAnyH_take (i := 5) (oi := _) (v := .pointer (some ⟨br, ro + k * 3, none⟩)) rfl (by kernel_rfl) (by kernel_rfl) (by kernel_rfl) (fun _ _ _ h => h) (Or.inl ⟨by rfl, fun w' hSw => by obtain ⟨zz0, zz1, zz2, zz3, zr0, zr1, zr2⟩ := hSw; go_simp⟩) hH ?_
      simp only [Act.put, List.getElem_toArray, List.getElem_cons_zero, List.getElem_cons_succ, List.setIfInBounds_toArray, List.set_cons_zero, List.set_cons_succ]
      refine wpAnyH_take (i := 6) (oi := _) (v := .agg #[.bool s0, .int .u64 s1, .int .u64 s2]) rfl (by kernel_rfl) (by kernel_rfl) (by kernel_rfl) (fun _ _ _ h => h) (Or.inl ⟨by rfl, fun w' hSw => by obtain ⟨zz0, zz1, zz2, zz3, zr0, zr1, zr2⟩ := hSw; go_simp⟩) hH ?_
      simp only [Act.put, List.getElem_toArray, List.getElem_cons_zero, List.getElem_cons_succ, List.setIfInBounds_toArray, List.set_cons_zero, List.set_cons_succ]
      replace q : Z.drew.heap[p + 1]? = _ := q
      replace q6 : Z.drew.heap[b6]? = _ := q6
      replace bV := bV.drew
      generalize hY : Z.drew = Y0 at *
      clear hY
      refine wpAnyH_ready (rs := [7, 11]) (by kernel_rfl) (by simp) (AllReadyH.cons (o := _) rfl (fun K hK => ?_) (AllReadyH.cons (o := _) rfl (fun K hK => ?_) AllReadyH.nil))
      go_simp
      refine (kp _).mono ?_
      rintro e Y1 ⟨rfl, g⟩
      replace cc := sp_call cc g
      replace q := carryF g q; replace q6 := carryF g q6; replace bV := sp_call bV g
      clear g
      go_wp2_with fail
      refine hK.out _ _ (hall _ cc) (fun hH => ?_)
      clear hK K
      try simp only [Act.put, List.getElem_toArray, List.getElem_cons_zero, List.getElem_cons_succ, List.setIfInBounds_toArray, List.set_cons_zero, List.set_cons_succ]
      refine wpAnyH_take (i := 8) (oi := _) (v := .tuple #[.agg #[.bool pe, .int .u64 pl, .int .u64 ph], .bool pk]) rfl (by kernel_rfl) (by kernel_rfl) (by kernel_rfl) (fun _ _ _ h => h) (Or.inl ⟨by rfl, fun w' hSw => by obtain ⟨zz0, zz1, zz2, zz3, zr0, zr1, zr2⟩ := hSw; go_simp⟩) hH ?_
      simp only [Act.put, List.getElem_toArray, List.getElem_cons_zero, List.getElem_cons_succ, List.setIfInBounds_toArray, List.set_cons_zero, List.set_cons_succ]
      refine wpAnyH_take (i := 9) (oi := _) (v := .agg #[.bool pe, .int .u64 pl, .int .u64 ph]) rfl (by kernel_rfl) (by kernel_rfl) (by kernel_rfl) (fun _ _ _ h => h) (Or.inl ⟨by rfl, fun w' hSw => by obtain ⟨zz0, zz1, zz2, zz3, zr0, zr1, zr2⟩ := hSw; go_simp⟩) hH ?_
      simp only [Act.put, List.getElem_toArray, List.getElem_cons_zero, List.getElem_cons_succ, List.setIfInBounds_toArray, List.set_cons_zero, List.set_cons_succ]
      refine wpAnyH_take (i := 10) (oi := _) (v := .bool pk) rfl (by kernel_rfl) (by kernel_rfl) (by kernel_rfl) (fun _ _ _ h => h) (Or.inl ⟨by rfl, fun w' hSw => by obtain ⟨zz0, zz1, zz2, zz3, zr0, zr1, zr2⟩ := hSw; go_simp⟩) hH ?_
      simp only [Act.put, List.getElem_toArray, List.getElem_cons_zero, List.getElem_cons_succ, List.setIfInBounds_toArray, List.set_cons_zero, List.set_cons_succ]
      refine wpAnyH_ready (rs := [11]) (by kernel_rfl) (by simp) (AllReadyH.cons (o := _) rfl (fun K hK => ?_) AllReadyH.nil)
      go_simp
      have q9 := World.alloc_heap_new Y1 (.cells #[.bool false, .int .u64 0, .int .u64 0] 24)
      have ne6 : b6 ≠ Y1.heap.size := Nat.ne_of_lt (Array.getElem?_eq_some_iff.1 q6).1
      have ne1 : p + 1 ≠ Y1.heap.size := Nat.ne_of_lt (Array.getElem?_eq_some_iff.1 q).1
      have z9 : w.heap.size ≤ Y1.heap.size := bV.size
      have y9 : Z.heap.size ≤ Y1.heap.size := cc.size
      replace q := lj_old q (.cells #[.bool false, .int .u64 0, .int .u64 0] 24)
      replace q6 := lj_old q6 (.cells #[.bool false, .int .u64 0, .int .u64 0] 24)
      replace bV := sp_new bV (.cells #[.bool false, .int .u64 0, .int .u64 0] 24)
      replace cc := sp_new cc (.cells #[.bool false, .int .u64 0, .int .u64 0] 24)
      generalize hB : Y1.heap.size = b9 at *
      generalize hY : Y1.alloc (.cells #[.bool false, .int .u64 0, .int .u64 0] 24) = Y2 at *
      clear hY hB
      refine hK.out _ _ (hall _ cc) (fun hH => ?_)
      clear hK K
      try simp only [Act.put, List.getElem_toArray, List.getElem_cons_zero, List.getElem_cons_succ, List.setIfInBounds_toArray, List.set_cons_zero, List.set_cons_succ]
      rotate_left
      go_simp
      have q9 := World.alloc_heap_new Y0 (.cells #[.bool false, .int .u64 0, .int .u64 0] 24)
      have ne6 : b6 ≠ Y0.heap.size := Nat.ne_of_lt (Array.getElem?_eq_some_iff.1 q6).1
      have ne1 : p + 1 ≠ Y0.heap.size := Nat.ne_of_lt (Array.getElem?_eq_some_iff.1 q).1
      have z9 : w.heap.size ≤ Y0.heap.size := bV.size
      have y9 : Z.heap.size ≤ Y0.heap.size := cc.size
      replace q := lj_old q (.cells #[.bool false, .int .u64 0, .int .u64 0] 24)
      replace q6 := lj_old q6 (.cells #[.bool false, .int .u64 0, .int .u64 0] 24)
      replace bV := sp_new bV (.cells #[.bool false, .int .u64 0, .int .u64 0] 24)
      replace cc := sp_new cc (.cells #[.bool false, .int .u64 0, .int .u64 0] 24)
      generalize hB : Y0.heap.size = b9 at *
      generalize hY : Y0.alloc (.cells #[.bool false, .int .u64 0, .int .u64 0] 24) = Y1 at *
      clear hY hB
      refine hK.out _ _ (hall _ cc) (fun hH => ?_)
      clear hK K
      try simp only [Act.put, List.getElem_toArray, List.getElem_cons_zero, List.getElem_cons_succ, List.setIfInBounds_toArray, List.set_cons_zero, List.set_cons_succ]
      refine wpAnyH_ready (rs := [7]) (by kernel_rfl) (by simp) (AllReadyH.cons (o := _) rfl (fun K hK => ?_) AllReadyH.nil)
      go_simp
      refine (kp _).mono ?_
      rintro e Y2 ⟨rfl, g⟩
      replace q9 := carryF g q9
      replace cc := sp_call cc g
      replace q := carryF g q; replace q6 := carryF g q6; replace bV := sp_call bV g
      clear g
      go_wp2_with fail
      refine hK.out _ _ (hall _ cc) (fun hH => ?_)
      clear hK K
      try simp only [Act.put, List.getElem_toArray, List.getElem_cons_zero, List.getElem_cons_succ, List.setIfInBounds_toArray, List.set_cons_zero, List.set_cons_succ]
      refine wpAnyH_take (i := 8) (oi := _) (v := .tuple #[.agg #[.bool pe, .int .u64 pl, .int .u64 ph], .bool pk]) rfl (by kernel_rfl) (by kernel_rfl) (by kernel_rfl) (fun _ _ _ h => h) (Or.inl ⟨by rfl, fun w' hSw => by obtain ⟨zz0, zz1, zz2, zz3, zr0, zr1, zr2⟩ := hSw; go_simp⟩) hH ?_
      simp only [Act.put, List.getElem_toArray, List.getElem_cons_zero, List.getElem_cons_succ, List.setIfInBounds_toArray, List.set_cons_zero, List.set_cons_succ]
      refine wpAnyH_take (i := 9) (oi := _) (v := .agg #[.bool pe, .int .u64 pl, .int .u64 ph]) rfl (by kernel_rfl) (by kernel_rfl) (by kernel_rfl) (fun _ _ _ h => h) (Or.inl ⟨by rfl, fun w' hSw => by obtain ⟨zz0, zz1, zz2, zz3, zr0, zr1, zr2⟩ := hSw; go_simp⟩) hH ?_
      simp only [Act.put, List.getElem_toArray, List.getElem_cons_zero, List.getElem_cons_succ, List.setIfInBounds_toArray, List.set_cons_zero, List.set_cons_succ]
      refine wpAnyH_take (i := 10) (oi := _) (v := .bool pk) rfl (by kernel_rfl) (by kernel_rfl) (by kernel_rfl) (fun _ _ _ h => h) (Or.inl ⟨by rfl, fun w' hSw => by obtain ⟨zz0, zz1, zz2, zz3, zr0, zr1, zr2⟩ := hSw; go_simp⟩) hH ?_
      simp only [Act.put, List.getElem_toArray, List.getElem_cons_zero, List.getElem_cons_succ, List.setIfInBounds_toArray, List.set_cons_zero, List.set_cons_succ]
      all_goals
        refine wpAnyH_ready (rs := [12]) (by kernel_rfl) (by simp) (AllReadyH.cons (o := _) rfl (fun K hK => ?_) AllReadyH.nil)
        obtain ⟨u0, u1, u2, uf⟩ := lj_cells3 q9
        go_simp
        clear u0 u1 u2 uf
        replace q := lj_far3 (b := b9) q (.bool pe) (.int .u64 pl) (.int .u64 ph) (Ne.symm ne1)
        replace q6 := lj_far3 (b := b9) q6 (.bool pe) (.int .u64 pl) (.int .u64 ph) (Ne.symm ne6)
        replace q9 := lj_set3 q9 (.bool pe) (.int .u64 pl) (.int .u64 ph)
        replace bV := sp_set3 (b := b9) bV z9 (.bool pe) (.int .u64 pl) (.int .u64 ph)
        replace cc := sp_set3 (b := b9) cc y9 (.bool pe) (.int .u64 pl) (.int .u64 ph)
        generalize hY : (((Y2.setCell ⟨b9, 0, none⟩ (.bool pe)).setCell ⟨b9, 1, none⟩ (.int .u64 pl)).setCell ⟨b9, 2, none⟩ (.int .u64 ph)) = Y3 at *
        clear hY
        refine hK.out _ _ (hall _ cc) (fun hH => ?_)
        clear hK K
        try simp only [Act.put, List.getElem_toArray, List.getElem_cons_zero, List.getElem_cons_succ, List.setIfInBounds_toArray, List.set_cons_zero, List.set_cons_succ]
        refine wpAnyH_take (i := 13) (oi := _) (v := .bool pk) rfl (by kernel_rfl) (by kernel_rfl) (by kernel_rfl) (fun _ _ _ h => h) (Or.inl ⟨by rfl, fun w' hSw => by obtain ⟨zz0, zz1, zz2, zz3, zr0, zr1, zr2⟩ := hSw; go_simp⟩) hH ?_
        simp only [Act.put, List.getElem_toArray, List.getElem_cons_zero, List.getElem_cons_succ, List.setIfInBounds_toArray, List.set_cons_zero, List.set_cons_succ]
        refine wpAnyH_done (by kernel_rfl) ?_ _
        clear cc hall hH z0 z1 z2 z3 r0 r1 r2
        cases pk
        case false =>
          replace stp := stp.1 rfl
          go_upto_region 11 with fail
          obtain ⟨q0, q1, q2, qf⟩ := lj_cells3 q
          go_wp2_with fail
          exact bodyPost_ret (v := .tuple #[.agg #[.bool false, .int .u64 0, .int .u64 0], .bool false]) (by simp [results, Tryz.results35, go_sem, q0, q1, q2]) rfl ⟨by rw [stp], by first | exact sp_set3 bV (by omega) _ _ _ | (rw [← hp]; exact sp_set3 bV (by omega) _ _ _)⟩
        case true =>
          replace stp := stp.2 rfl
          replace kS := kS rfl
          obtain ⟨g0, g1, g2, gf⟩ := lj_cells3 q6
          obtain ⟨h0, h1, h2, hf⟩ := lj_cells3 q9
          go_upto_region 13 with (first | (go_at_call 13; refine (kS _).mono ?_; rintro e v9 ⟨rfl, g⟩; replace q := carryF g q; replace q6 := carryF g q6; replace bV := sp_call bV g; clear g kS g0 g1 g2 gf h0 h1 h2 hf; obtain ⟨g0, g1, g2, gf⟩ := lj_cells3 q6) | fail)
          replace q := lj_far3 (b := b6) q (.bool ne) (.int .u64 nl) (.int .u64 nh) n61
          replace q6 := lj_set3 q6 (.bool ne) (.int .u64 nl) (.int .u64 nh)
          replace bV := sp_set3 (b := b6) bV z6 (.bool ne) (.int .u64 nl) (.int .u64 nh)
          generalize hY : (((v9.setCell ⟨b6, 0, none⟩ (.bool ne)).setCell ⟨b6, 1, none⟩ (.int .u64 nl)).setCell ⟨b6, 2, none⟩ (.int .u64 nh)) = Y9 at *
          clear hY g0 g1 g2 gf
          cases nk
          case false =>
            replace stp := stp.1 rfl
            go_upto_region 14 with fail
            obtain ⟨q0, q1, q2, qf⟩ := lj_cells3 q
            go_wp2_with fail
            exact bodyPost_ret (v := .tuple #[.agg #[.bool false, .int .u64 0, .int .u64 0], .bool false]) (by simp [results, Tryz.results35, go_sem, q0, q1, q2]) rfl ⟨by rw [stp], by first | exact sp_set3 bV (by omega) _ _ _ | (rw [← hp]; exact sp_set3 bV (by omega) _ _ _)⟩
          case true =>
            replace stp := stp.2 rfl
            go_wp2_with fail
            exact ⟨⟨_, j + 1, (ne, nl, nh), rfl, by omega, by first | rfl | go_num | simp, q, q6, bV, nwd.out, stp⟩, by simp [intOf]; omega⟩

def evaP (A : Frm) (rs : List (Bool × Int × Int)) : (Bool × Int × Int) × Bool := if (frB A && A.2.2.all (arP rs)) = false then ((false, 0, 0), false) else if A.2.2.any (seP rs) = true then ((true, 0, 0), true) else evL rs A.2.1 A.2.2
theorem rT_ge : ∀ (ls : List (Int × Bool × Int × Int)) (q : Int), rT liN liZ q ls = true → ∀ t ∈ ls, q < t.1
  | [], q, _, t, ht => by simp at ht
  | u :: ls, q, h, t, ht => by
    rw [rT_cons] at h
    simp only [Bool.and_eq_true, Bool.not_eq_true', decide_eq_false_iff_not] at h
    rcases List.mem_cons.1 ht with rfl | ht
    · omega
    · have := rT_ge ls u.1 h.2 t ht
      omega
theorem frB_ge {A : Frm} (h : frB A = true) : ∀ t ∈ A.2.2, 0 ≤ t.1 := by
  have h1 : frR A = true ∧ A.1 = false := by simpa [frB] using h
  have h2 := h1.1
  unfold frR fR at h2
  rw [if_neg (by rw [h1.2]; simp)] at h2
  simp only [Bool.and_eq_true] at h2
  intro t ht
  have := rT_ge _ _ h2.2.2 t ht
  omega
theorem form_eval (A : Frm) (hA : fOk A) (rs : List (Bool × Int × Int)) (hr : ∀ r ∈ rs, wdR r) (va vr : Value) (w : World) (ta : TAt w va A.2.2) (tr : RAt w vr rs) :
    Calls Tryz.prog 35 #[.agg #[.bool A.1, .bool A.2.1.1, .int .u64 A.2.1.2.1, .int .u64 A.2.1.2.2, va], vr] w fun e w' => e = .returned (.tuple #[.agg #[.bool (evaP A rs).1.1, .int .u64 (evaP A rs).1.2.1, .int .u64 (evaP A rs).1.2.2], .bool (evaP A rs).2]) ∧ Below w.heap.size w w' := by
  by_cases hb : frB A = true
  case neg =>
    have hb' : frB A = false := by revert hb; cases frB A <;> simp
    have e : evaP A rs = ((false, 0, 0), false) := if_pos (by rw [hb']; rfl)
    rw [e]
    have k := fun V (h : TAt V va A.2.2) => form_bound A hA va V h
    rw [hb'] at k
    exact lieval_no A.1 A.2.1.1 A.2.1.2.1 A.2.1.2.2 va ta.sl vr (fun V => TAt V va A.2.2) (fun W V h g => h.on g) k w ta
  case pos =>
    have k := fun V (h : TAt V va A.2.2) => form_bound A hA va V h
    rw [hb] at k
    have k2 := fun V (h : TAt V va A.2.2) (h2 : RAt V vr rs) => allright_any A.2.2 rs hA.2.2 (frB_ge hb) hr va vr V h h2
    have ta0 := ta
    have tr0 := tr
    obtain ⟨pa, ca, rfl⟩ := ta.len
    obtain ⟨pr, cr, rfl⟩ := tr.len
    cases hq : A.2.2.all (arP rs)
    case false =>
      have e : evaP A rs = ((false, 0, 0), false) := if_pos (by rw [hb, hq]; rfl)
      rw [e]
      rw [hq] at k2
      exact lieval_ar A.1 A.2.1.1 A.2.1.2.1 A.2.1.2.2 A.2.2 rs pa pr _ ca _ cr k k2 w ta0 tr0
    case true =>
      rw [hq] at k2
      have bd : ∀ t ∈ A.2.2, 0 ≤ t.1 ∧ t.1 < (rs.length : Int) := fun t ht => ⟨frB_ge hb t ht, by
        have := List.all_eq_true.1 hq t ht
        simp only [arP, Bool.and_eq_true, decide_eq_true_eq] at this
        exact this.1⟩
      have k3 := fun V (h : TAt V (.slice pa A.2.2.length ca) A.2.2) (h2 : RAt V (.slice pr rs.length cr) rs) => someempty_any A.2.2 rs hA.2.2 bd _ _ V h h2
      cases hs : A.2.2.any (seP rs)
      case true =>
        have e : evaP A rs = ((true, 0, 0), true) := (if_neg (by rw [hb, hq]; simp)).trans (if_pos hs)
        rw [e]
        rw [hs] at k3
        exact lieval_em A.1 A.2.1.1 A.2.1.2.1 A.2.1.2.2 A.2.2 rs pa pr _ ca _ cr k k2 k3 w ta0 tr0
      case false =>
        have e : evaP A rs = evL rs A.2.1 A.2.2 := (if_neg (by rw [hb, hq]; simp)).trans (if_neg (by rw [hs]; simp))
        rw [e]
        rw [hs] at k3
        exact lieval_go A.1 A.2.1.1 A.2.1.2.1 A.2.1.2.2 A.2.2 rs pa pr _ ca _ cr rfl rfl hA.2.2 bd (fun t ht => (hA.2.1 t ht).2) hr hA.1 k k2 k3 w ta0 tr0
end Go.Proofs.YteafnkimcidkhaaGreat


namespace Go.Proofs.YteafnkimcidkhaaGreat
open Go.RowKit
set_option linter.unusedVariables false
set_option linter.unusedSimpArgs false
set_option maxRecDepth 100000 in
set_option maxHeartbeats 6400000 in
theorem fewA (wa ae : Bool) (al ah : Int) (v : Value) (ls : List (Int × Bool × Int × Int)) (w : World) (hv : TAt w v ls) :
    Calls Tryz.prog 18 #[.agg #[.bool wa, .bool ae, .int .u64 al, .int .u64 ah, v]] w fun e w' => ((ls.length ≤ 40 ∧ e = .returned (.agg #[.bool wa, .bool ae, .int .u64 al, .int .u64 ah, v])) ∨ (40 < ls.length ∧ ∃ b o ca, v = .slice (some ⟨b, o, none⟩) ls.length ca ∧ e = .returned (.agg #[.bool wa, .bool ae, .int .u64 al, .int .u64 ah, .slice (some ⟨b, o, none⟩) 40 ca]))) ∧ Below w.heap.size w w' := by
  have hv0 := hv
  obtain ⟨pa, ca, rfl⟩ := hv.len
  by_cases h40 : ls.length ≤ 40
  · have h40' : ¬ (40 : Int) < (ls.length : Int) := by omega
    go_enter Tryz.func18, Tryz.ntmps18
    go_upto_region 1 with fail
    obtain ⟨W, hW⟩ : ∃ W, ((w.alloc (.cells #[.bool wa, .bool ae, .int .u64 al, .int .u64 ah, .slice pa ls.length ca] 31)).alloc (.cells #[.bool false, .bool false, .int .u64 0, .int .u64 0, .slice none 0 0] 31)) = W := ⟨_, rfl⟩
    have a0 : W.cell? ⟨w.heap.size, 0, none⟩ = some (.bool wa) := by rw [← hW]; simp [go_sem]
    have a1 : W.cell? ⟨w.heap.size, 1, none⟩ = some (.bool ae) := by rw [← hW]; simp [go_sem]
    have a2 : W.cell? ⟨w.heap.size, 2, none⟩ = some (.int .u64 al) := by rw [← hW]; simp [go_sem]
    have a3 : W.cell? ⟨w.heap.size, 3, none⟩ = some (.int .u64 ah) := by rw [← hW]; simp [go_sem]
    have a4 : W.cell? ⟨w.heap.size, 4, none⟩ = some (.slice pa ls.length ca) := by rw [← hW]; simp [go_sem]
    have r0 : W.cell? ⟨w.heap.size + 1, 0, none⟩ = some (.bool false) := by rw [← hW]; simp [go_sem]
    have r1 : W.cell? ⟨w.heap.size + 1, 1, none⟩ = some (.bool false) := by rw [← hW]; simp [go_sem]
    have r2 : W.cell? ⟨w.heap.size + 1, 2, none⟩ = some (.int .u64 0) := by rw [← hW]; simp [go_sem]
    have r3 : W.cell? ⟨w.heap.size + 1, 3, none⟩ = some (.int .u64 0) := by rw [← hW]; simp [go_sem]
    have r4 : W.cell? ⟨w.heap.size + 1, 4, none⟩ = some (.slice none 0 0) := by rw [← hW]; simp [go_sem]
    have bW : Below w.heap.size w W := by rw [← hW]; exact (sp_new (sp_new (Below.refl _ _) _) _)
    have zW : W.heap.size = w.heap.size + 2 := by rw [← hW]; simp
    have fz : ∀ j, W.frozen? ⟨w.heap.size + 1, j, none⟩ = false := by intro j; rw [← hW]; simp [go_sem]
    rw [hW]
    clear hW
    replace zW := Nat.le_of_eq zW.symm
    go_wp2_with fail
    exact bodyPost_ret (v := .agg #[.bool wa, .bool ae, .int .u64 al, .int .u64 ah, .slice pa ls.length ca]) (by simp [results, Tryz.results18, go_sem, r0, r1, r2, r3, r4]) rfl ⟨Or.inl (by first | exact ⟨h40, rfl⟩ | exact rfl), (by (repeat (first | with_reducible assumption | with_reducible refine li_set1 ?_ (by omega) _ | with_reducible refine sp_new ?_ _)))⟩
  · have h40' : (40 : Int) < (ls.length : Int) := by omega
    rcases hv with ⟨_, h0⟩ | ⟨b, o, cap, hs, hc, hcells⟩
    · rw [h0] at h40; simp at h40
    · cases hs
      have hc' : (40 : Int) ≤ (ca : Int) := by omega
      have hc2 : 40 ≤ ca := by omega
      have ht : TAt w (.slice (some ⟨b, o, none⟩) 40 ca) (ls.take 40) := by
        have e40 : (ls.take 40).length = 40 := by simp; omega
        refine Or.inr ⟨b, o, ca, by rw [e40], by omega, fun j t hj => hcells j t ?_⟩
        rw [List.getElem?_take] at hj
        split at hj
        · exact hj
        · cases hj
      go_enter Tryz.func18, Tryz.ntmps18
      go_upto_region 1 with fail
      obtain ⟨W, hW⟩ : ∃ W, ((w.alloc (.cells #[.bool wa, .bool ae, .int .u64 al, .int .u64 ah, .slice (some ⟨b, o, none⟩) ls.length ca] 31)).alloc (.cells #[.bool false, .bool false, .int .u64 0, .int .u64 0, .slice none 0 0] 31)) = W := ⟨_, rfl⟩
      have a0 : W.cell? ⟨w.heap.size, 0, none⟩ = some (.bool wa) := by rw [← hW]; simp [go_sem]
      have a1 : W.cell? ⟨w.heap.size, 1, none⟩ = some (.bool ae) := by rw [← hW]; simp [go_sem]
      have a2 : W.cell? ⟨w.heap.size, 2, none⟩ = some (.int .u64 al) := by rw [← hW]; simp [go_sem]
      have a3 : W.cell? ⟨w.heap.size, 3, none⟩ = some (.int .u64 ah) := by rw [← hW]; simp [go_sem]
      have a4 : W.cell? ⟨w.heap.size, 4, none⟩ = some (.slice (some ⟨b, o, none⟩) ls.length ca) := by rw [← hW]; simp [go_sem]
      have r0 : W.cell? ⟨w.heap.size + 1, 0, none⟩ = some (.bool false) := by rw [← hW]; simp [go_sem]
      have r1 : W.cell? ⟨w.heap.size + 1, 1, none⟩ = some (.bool false) := by rw [← hW]; simp [go_sem]
      have r2 : W.cell? ⟨w.heap.size + 1, 2, none⟩ = some (.int .u64 0) := by rw [← hW]; simp [go_sem]
      have r3 : W.cell? ⟨w.heap.size + 1, 3, none⟩ = some (.int .u64 0) := by rw [← hW]; simp [go_sem]
      have r4 : W.cell? ⟨w.heap.size + 1, 4, none⟩ = some (.slice none 0 0) := by rw [← hW]; simp [go_sem]
      have bW : Below w.heap.size w W := by rw [← hW]; exact (sp_new (sp_new (Below.refl _ _) _) _)
      have zW : W.heap.size = w.heap.size + 2 := by rw [← hW]; simp
      have fa : ∀ j, W.frozen? ⟨w.heap.size, j, none⟩ = false := by intro j; rw [← hW]; simp [go_sem]
      have fz : ∀ j, W.frozen? ⟨w.heap.size + 1, j, none⟩ = false := by intro j; rw [← hW]; simp [go_sem]
      rw [hW]
      clear hW
      replace zW := Nat.le_of_eq zW.symm
      go_wp2_with fail
      exact bodyPost_ret (v := .agg #[.bool wa, .bool ae, .int .u64 al, .int .u64 ah, .slice (some ⟨b, o, none⟩) 40 ca]) (by simp [results, Tryz.results18, go_sem, r0, r1, r2, r3, r4]) rfl ⟨Or.inr ⟨by omega, b, o, ca, rfl, rfl⟩, (by (repeat (first | with_reducible assumption | with_reducible refine li_set1 ?_ (by omega) _ | with_reducible refine sp_new ?_ _)))⟩
set_option maxRecDepth 100000 in
set_option maxHeartbeats 6400000 in
theorem fewB (aw ae : Bool) (al ah : Int) (v : Value) (ls : List (Int × Bool × Int × Int)) (w : World) (hv : TAt w v ls) :
    Calls Tryz.prog 18 #[.agg #[.bool aw, .bool ae, .int .u64 al, .int .u64 ah, v]] w fun e w' => (∃ u, e = .returned (.agg #[.bool aw, .bool ae, .int .u64 al, .int .u64 ah, u]) ∧ ∀ W0, TAt W0 v ls → TAt W0 u (ls.take 40)) ∧ Below w.heap.size w w' := by
  by_cases h40 : ls.length ≤ 40
  · refine (fewA aw ae al ah v ls w hv).mono fun e w' q => ⟨?_, q.2⟩
    rcases q.1 with ⟨_, he⟩ | ⟨h, _⟩
    · exact ⟨v, he, fun W0 h0 => by rw [List.take_of_length_le h40]; exact h0⟩
    · omega
  · refine (fewA aw ae al ah v ls w hv).mono fun e w' q => ⟨?_, q.2⟩
    rcases q.1 with ⟨h, _⟩ | ⟨_, b, o, ca, hv2, he⟩
    · omega
    · refine ⟨_, he, fun W0 h0 => ?_⟩
      subst hv2
      rcases h0 with ⟨h1, _⟩ | ⟨b', o', cap, h1, hc, hcells⟩
      · cases h1
      · cases h1
        have e40 : (ls.take 40).length = 40 := by simp; omega
        refine Or.inr ⟨b, o, ca, by rw [e40], by omega, fun j t hj => hcells j t ?_⟩
        rw [List.getElem?_take] at hj
        split at hj
        · exact hj
        · cases hj
end Go.Proofs.YteafnkimcidkhaaGreat

namespace Go.Proofs.YteafnkimcidkhaaGreat
open Go.RowKit
set_option linter.unusedVariables false
set_option linter.unusedSimpArgs false
def rJoinF (s : Bool) (p q : Bool × Int × Int) : Bool × Int × Int := if p.1 then q else if q.1 then p else (false, if lessF s q.2.1 p.2.1 then q.2.1 else p.2.1, if lessF s p.2.2 q.2.2 then q.2.2 else p.2.2)
def rWithinF (s : Bool) (p q : Bool × Int × Int) : Bool := p.1 || (!q.1 && (!lessF s p.2.1 q.2.1 && !lessF s q.2.2 p.2.2))
set_option maxRecDepth 100000 in
set_option maxHeartbeats 6400000 in
theorem rjoinF_any (s : Bool) (e1 : Bool) (a b : Int) (e2 : Bool) (c d : Int) (h1 : Word a) (h2 : Word b) (h3 : Word c) (h4 : Word d) (w : World) : Calls Tryz.prog 48 #[.int .i64 (fb s), .agg #[.bool e1, .int .u64 a, .int .u64 b], .agg #[.bool e2, .int .u64 c, .int .u64 d]] w fun r w' => r = .returned (.agg #[.bool (rJoinF s (e1, a, b) (e2, c, d)).1, .int .u64 (rJoinF s (e1, a, b) (e2, c, d)).2.1, .int .u64 (rJoinF s (e1, a, b) (e2, c, d)).2.2]) ∧ Below w.heap.size w w' := by
  have hda : ∀ (w : World) (n : Nat) (o : Obj), (w.drewN n).alloc o = (w.alloc o).drewN n := fun _ _ _ => rfl
  have hds : ∀ (w : World) (n : Nat) (p : Addr) (v : Value), (w.drewN n).setCell p v = (w.setCell p v).drewN n := fun _ _ _ _ => rfl
  unfold rJoinF
  dsimp only
  cases e1
  · cases e2
    · simp only [Bool.false_eq_true, if_false]
      have l1 := rless_any s c a h3 h1
      have l2 := rless_any s b d h2 h4
      rcases q1 : lessF s c a with _ | _
      · rw [q1] at l1
        rcases q2 : lessF s b d with _ | _
        · rw [q2] at l2
          clear q1 q2
          generalize fb s = f at *
          simp only [Bool.false_eq_true, if_false, if_true]
          go_enter Tryz.func48, Tryz.ntmps48
          go_wp2_with (first
            | (go_at_call 82; refine (l1 _).mono ?_; rintro e w_l1 ⟨rfl, n_l1, rfl⟩; clear l1)
            | (go_at_call 82; refine (l2 _).mono ?_; rintro e w_l2 ⟨rfl, n_l2, rfl⟩; clear l2)
            | fail)
          exact bodyPost_ret (v := .agg #[.bool false, .int .u64 a, .int .u64 b]) (by simp [results, Tryz.results48, go_sem]) rfl ⟨by simp [*], by (repeat (first | with_reducible exact Below.refl _ _ | with_reducible assumption | with_reducible refine sp_dNr ?_ _ | with_reducible refine sp_new ?_ _ | with_reducible refine sp_drewr ?_ | with_reducible refine sp_set1r ?_ (by omega) _))⟩
        · rw [q2] at l2
          clear q1 q2
          generalize fb s = f at *
          simp only [Bool.false_eq_true, if_false, if_true]
          go_enter Tryz.func48, Tryz.ntmps48
          go_wp2_with (first
            | (go_at_call 82; refine (l1 _).mono ?_; rintro e w_l1 ⟨rfl, n_l1, rfl⟩; clear l1)
            | (go_at_call 82; refine (l2 _).mono ?_; rintro e w_l2 ⟨rfl, n_l2, rfl⟩; clear l2)
            | fail)
          exact bodyPost_ret (v := .agg #[.bool false, .int .u64 a, .int .u64 d]) (by simp [results, Tryz.results48, go_sem]) rfl ⟨by simp [*], by (repeat (first | with_reducible exact Below.refl _ _ | with_reducible assumption | with_reducible refine sp_dNr ?_ _ | with_reducible refine sp_new ?_ _ | with_reducible refine sp_drewr ?_ | with_reducible refine sp_set1r ?_ (by omega) _))⟩
      · rw [q1] at l1
        rcases q2 : lessF s b d with _ | _
        · rw [q2] at l2
          clear q1 q2
          generalize fb s = f at *
          simp only [Bool.false_eq_true, if_false, if_true]
          go_enter Tryz.func48, Tryz.ntmps48
          go_wp2_with (first
            | (go_at_call 82; refine (l1 _).mono ?_; rintro e w_l1 ⟨rfl, n_l1, rfl⟩; clear l1)
            | (go_at_call 82; refine (l2 _).mono ?_; rintro e w_l2 ⟨rfl, n_l2, rfl⟩; clear l2)
            | fail)
          exact bodyPost_ret (v := .agg #[.bool false, .int .u64 c, .int .u64 b]) (by simp [results, Tryz.results48, go_sem]) rfl ⟨by simp [*], by (repeat (first | with_reducible exact Below.refl _ _ | with_reducible assumption | with_reducible refine sp_dNr ?_ _ | with_reducible refine sp_new ?_ _ | with_reducible refine sp_drewr ?_ | with_reducible refine sp_set1r ?_ (by omega) _))⟩
        · rw [q2] at l2
          clear q1 q2
          generalize fb s = f at *
          simp only [Bool.false_eq_true, if_false, if_true]
          go_enter Tryz.func48, Tryz.ntmps48
          go_wp2_with (first
            | (go_at_call 82; refine (l1 _).mono ?_; rintro e w_l1 ⟨rfl, n_l1, rfl⟩; clear l1)
            | (go_at_call 82; refine (l2 _).mono ?_; rintro e w_l2 ⟨rfl, n_l2, rfl⟩; clear l2)
            | fail)
          exact bodyPost_ret (v := .agg #[.bool false, .int .u64 c, .int .u64 d]) (by simp [results, Tryz.results48, go_sem]) rfl ⟨by simp [*], by (repeat (first | with_reducible exact Below.refl _ _ | with_reducible assumption | with_reducible refine sp_dNr ?_ _ | with_reducible refine sp_new ?_ _ | with_reducible refine sp_drewr ?_ | with_reducible refine sp_set1r ?_ (by omega) _))⟩
    · simp only [if_true, Bool.false_eq_true, if_false]
      generalize fb s = f at *
      go_enter Tryz.func48, Tryz.ntmps48
      go_wp2_with (first
        | fail)
      exact bodyPost_ret (v := .agg #[.bool false, .int .u64 a, .int .u64 b]) (by simp [results, Tryz.results48, go_sem]) rfl ⟨by simp [*], by (repeat (first | with_reducible exact Below.refl _ _ | with_reducible assumption | with_reducible refine sp_dNr ?_ _ | with_reducible refine sp_new ?_ _ | with_reducible refine sp_drewr ?_ | with_reducible refine sp_set1r ?_ (by omega) _))⟩
  · simp only [if_true]
    generalize fb s = f at *
    go_enter Tryz.func48, Tryz.ntmps48
    go_wp2_with (first
      | fail)
    exact bodyPost_ret (v := .agg #[.bool e2, .int .u64 c, .int .u64 d]) (by simp [results, Tryz.results48, go_sem]) rfl ⟨by simp [*], by (repeat (first | with_reducible exact Below.refl _ _ | with_reducible assumption | with_reducible refine sp_dNr ?_ _ | with_reducible refine sp_new ?_ _ | with_reducible refine sp_drewr ?_ | with_reducible refine sp_set1r ?_ (by omega) _))⟩
set_option maxRecDepth 100000 in
set_option maxHeartbeats 6400000 in
theorem rwithinF_any (s : Bool) (e1 : Bool) (a b : Int) (e2 : Bool) (c d : Int) (h1 : Word a) (h2 : Word b) (h3 : Word c) (h4 : Word d) (w : World) : Calls Tryz.prog 49 #[.int .i64 (fb s), .agg #[.bool e1, .int .u64 a, .int .u64 b], .agg #[.bool e2, .int .u64 c, .int .u64 d]] w fun r w' => r = .returned (.bool (rWithinF s (e1, a, b) (e2, c, d))) ∧ Below w.heap.size w w' := by
  unfold rWithinF
  dsimp only
  have l1 := rless_any s a c h1 h3
  have l2 := rless_any s d b h4 h2
  generalize lessF s a c = L1 at *
  generalize lessF s d b = L2 at *
  generalize fb s = f at *
  cases e1
  · cases e2
    · cases L1
      · cases L2
        all_goals
          go_enter Tryz.func49, Tryz.ntmps49
          go_wp2_with (first
            | (go_at_call 82; refine (l1 _).mono ?_; rintro e w_l1 ⟨rfl, n_l1, rfl⟩; clear l1)
            | (go_at_call 82; refine (l2 _).mono ?_; rintro e w_l2 ⟨rfl, n_l2, rfl⟩; clear l2)
            | fail)
          go_ret
          exact ⟨by simp [*], by (repeat (first | with_reducible exact Below.refl _ _ | with_reducible assumption | with_reducible refine sp_dNr ?_ _ | with_reducible refine sp_new ?_ _ | with_reducible refine sp_drewr ?_ | with_reducible refine sp_set1r ?_ (by omega) _))⟩
      · skip
        go_enter Tryz.func49, Tryz.ntmps49
        go_wp2_with (first
          | (go_at_call 82; refine (l1 _).mono ?_; rintro e w_l1 ⟨rfl, n_l1, rfl⟩; clear l1)
          | (go_at_call 82; refine (l2 _).mono ?_; rintro e w_l2 ⟨rfl, n_l2, rfl⟩; clear l2)
          | fail)
        go_ret
        exact ⟨by simp [*], by (repeat (first | with_reducible exact Below.refl _ _ | with_reducible assumption | with_reducible refine sp_dNr ?_ _ | with_reducible refine sp_new ?_ _ | with_reducible refine sp_drewr ?_ | with_reducible refine sp_set1r ?_ (by omega) _))⟩
    · skip
      go_enter Tryz.func49, Tryz.ntmps49
      go_wp2_with (first
        | fail)
      go_ret
      exact ⟨by simp [*], by (repeat (first | with_reducible exact Below.refl _ _ | with_reducible assumption | with_reducible refine sp_dNr ?_ _ | with_reducible refine sp_new ?_ _ | with_reducible refine sp_drewr ?_ | with_reducible refine sp_set1r ?_ (by omega) _))⟩
  · skip
    go_enter Tryz.func49, Tryz.ntmps49
    go_wp2_with (first
      | fail)
    go_ret
    exact ⟨by simp [*], by (repeat (first | with_reducible exact Below.refl _ _ | with_reducible assumption | with_reducible refine sp_dNr ?_ _ | with_reducible refine sp_new ?_ _ | with_reducible refine sp_drewr ?_ | with_reducible refine sp_set1r ?_ (by omega) _))⟩
end Go.Proofs.YteafnkimcidkhaaGreat


namespace Go.Proofs.YteafnkimcidkhaaGreat
open Go.RowKit
set_option linter.unusedVariables false
set_option linter.unusedSimpArgs false
def rcs : List (Bool × Int × Int) → List Value
  | [] => []
  | r :: l => .bool r.1 :: .int .u64 r.2.1 :: .int .u64 r.2.2 :: rcs l
theorem rcs_app : ∀ (a b : List (Bool × Int × Int)), rcs (a ++ b) = rcs a ++ rcs b
  | [], b => rfl
  | r :: a, b => by simp [rcs, rcs_app a b]
theorem rcs_get : ∀ (l : List (Bool × Int × Int)) (j : Nat) (r : Bool × Int × Int), l[j]? = some r → (rcs l)[j * 3]? = some (.bool r.1) ∧ (rcs l)[j * 3 + 1]? = some (.int .u64 r.2.1) ∧ (rcs l)[j * 3 + 2]? = some (.int .u64 r.2.2)
  | r :: l, 0, r', h => by simp at h; subst h; simp [rcs]
  | r :: l, j + 1, r', h => by
    have := rcs_get l j r' (by simpa using h)
    rw [show (j + 1) * 3 = j * 3 + 1 + 1 + 1 by omega]
    simpa [rcs] using this
theorem lo_rat {w : World} {base : Nat} {e : TypeId} {v : Value} {ls : List (Bool × Int × Int)} (h : w.ownsRow base e 3 v ls.length (rcs ls)) : RAt w v ls := by
  rcases lo_cells h with ⟨h1, h2⟩ | ⟨g, cap, h1, _, h2, _, h3⟩
  · exact Or.inl ⟨h1, List.length_eq_zero_iff.1 h2⟩
  · refine Or.inr ⟨g, 0, cap, h1, h2, fun j r hj => ?_⟩
    have := rcs_get ls j r hj
    simp only [Nat.zero_add]
    exact ⟨h3 _ _ this.1, h3 _ _ this.2.1, h3 _ _ this.2.2⟩
def wdn (rs ms : List (Bool × Int × Int)) (i : Nat) : Bool × Int × Int := if (decide (i < ms.length) && (liR (rg ms i) && liR (rg rs i))) = true then rJoinF false (rg rs i) (rg ms i) else rg rs i
def wdl (rs ms : List (Bool × Int × Int)) (n : Nat) : List (Bool × Int × Int) := (List.range n).map (wdn rs ms)
theorem wdl_succ (rs ms : List (Bool × Int × Int)) (n : Nat) : wdl rs ms (n + 1) = wdl rs ms n ++ [wdn rs ms n] := by simp [wdl, List.range_succ]
theorem wdl_len (rs ms : List (Bool × Int × Int)) (n : Nat) : (wdl rs ms n).length = n := by simp [wdl]
set_option maxRecDepth 100000 in
theorem fr_info : (Tryz.prog.info? 24).map (fun i => (i.zero, i.size, i.bytes)) = some (some (.agg #[.bool false, .int .u64 0, .int .u64 0]), 3, 24) := by kernel_rfl
theorem fr_cell (w : World) (x y z : Value) (t : TypeId) : ∀ j v, [x, y, z][j]? = some v → (w.alloc (.cells #[x, y, z] t)).cell? (Addr.add ⟨w.heap.size, 0, none⟩ j) = some v := by
  intro j v h
  match j, h with
  | 0, h => simp at h; subst h; simp [go_sem, Addr.add]
  | 1, h => simp at h; subst h; simp [go_sem, Addr.add]
  | 2, h => simp at h; subst h; simp [go_sem, Addr.add]
  | j + 3, h => simp at h
theorem fr_one (l h : Int) (e : Bool) : ∀ u ∈ [Value.bool e, .int .u64 l, .int .u64 h], u.oneCell' = true := by
  intro u hu; simp at hu; rcases hu with rfl | rfl | rfl <;> rfl
theorem own3 {V : World} {base n size b : Nat} {e : TypeId} {v : Value} {xs : List Value} (h : V.ownsRow base e size v n xs) (hb : ∀ k, v.ownBlock = some k → k ≠ b) (x y z : Value) : (((V.setCell ⟨b, 0, none⟩ x).setCell ⟨b, 1, none⟩ y).setCell ⟨b, 2, none⟩ z).ownsRow base e size v n xs := by
  obtain ⟨h1, h2⟩ := h
  refine ⟨h1, h2.imp id ?_⟩
  rintro ⟨g, cap, cur, rfl, e2, e3, e4⟩
  have ne : b ≠ g := fun q => hb g rfl q.symm
  exact ⟨g, cap, cur, rfl, e2, by rw [at_far _ _ ne, at_far _ _ ne, at_far _ _ ne]; exact e3, e4⟩
set_option maxRecDepth 100000 in
set_option maxHeartbeats 6400000 in
theorem limo (aw ae : Bool) (al ah : Int) (va : Value) (la Xa : List (Int × Bool × Int × Int)) (rs ms : List (Bool × Int × Int)) (pr pm : Option Addr) (nr cr nm cM : Nat) (hnr : rs.length = nr) (hnm : ms.length = nm) (hr0 : ∀ r ∈ rs, wdR r) (hm0 : ∀ r ∈ ms, wdR r)
    (kf : ∀ V, TAt V va la → Calls Tryz.prog 18 #[.agg #[.bool aw, .bool ae, .int .u64 al, .int .u64 ah, va]] V fun e w' => (∃ v, e = .returned (.agg #[.bool aw, .bool ae, .int .u64 al, .int .u64 ah, v]) ∧ ∀ W0, TAt W0 va la → TAt W0 v Xa) ∧ Below V.heap.size V w')
    (r0 : Bool) (r1 r2 : Int) (e1 : Bool) (s0 : Bool) (s1 s2 : Int) (e2 : Bool)
    (ke1 : ∀ V v u, TAt V v Xa → RAt V u (rs.take 40) → Calls Tryz.prog 35 #[.agg #[.bool aw, .bool ae, .int .u64 al, .int .u64 ah, v], u] V fun e w' => e = .returned (.tuple #[.agg #[.bool r0, .int .u64 r1, .int .u64 r2], .bool e1]) ∧ Below V.heap.size V w')
    (ke2 : ∀ V v u, TAt V v Xa → RAt V u (wdl rs ms (min nr 40)) → Calls Tryz.prog 35 #[.agg #[.bool aw, .bool ae, .int .u64 al, .int .u64 ah, v], u] V fun e w' => e = .returned (.tuple #[.agg #[.bool s0, .int .u64 s1, .int .u64 s2], .bool e2]) ∧ Below V.heap.size V w')
    (kl : ∀ V, Calls Tryz.prog 17 #[] V fun e w' => e = .returned (.bool true) ∧ Below V.heap.size V w')
    (kw : e2 = true → e1 = true ∧ ∀ V, Calls Tryz.prog 49 #[.int .i64 0, .agg #[.bool r0, .int .u64 r1, .int .u64 r2], .agg #[.bool s0, .int .u64 s1, .int .u64 s2]] V fun e w' => e = .returned (.bool true) ∧ Below V.heap.size V w')
    (w : World) (ta : TAt w va la) (tr : RAt w (.slice pr nr cr) rs) (tm : RAt w (.slice pm nm cM) ms) :
    Calls Tryz.prog 10 #[.agg #[.bool aw, .bool ae, .int .u64 al, .int .u64 ah, va], .slice pr nr cr, .slice pm nm cM] w fun e w' => e = .returned (.bool true) ∧ Below w.heap.size w w' := by
  obtain ⟨i0, hi, hz0, hz1, hz2⟩ : ∃ i, Tryz.prog.info? 24 = some i ∧ i.zero = some (.agg #[.bool false, .int .u64 0, .int .u64 0]) ∧ i.size = 3 ∧ i.bytes = 24 := by
    have h := fr_info
    cases hq : Tryz.prog.info? 24 with
    | none => rw [hq] at h; cases h
    | some i => rw [hq] at h; simp only [Option.map_some, Option.some.injEq, Prod.mk.injEq] at h; exact ⟨i, rfl, h.1, h.2.1, h.2.2⟩
  have ta0 := ta
  obtain ⟨pa, ca, rfl⟩ := ta.len
  obtain ⟨na, hna⟩ : ∃ na, na = la.length := ⟨_, rfl⟩
  rw [← hna] at ta kf ta0 ⊢
  clear hna
  obtain ⟨p, hp⟩ : ∃ p, w.heap.size = p := ⟨_, rfl⟩
  obtain ⟨W, hW⟩ : ∃ W, w.alloc (.cells #[.bool aw, .bool ae, .int .u64 al, .int .u64 ah, .slice pa na ca] 31) = W := ⟨_, rfl⟩
  have bW : Below w.heap.size w W := by rw [← hW]; exact sp_new (Below.refl _ _) _
  have a0 : W.cell? ⟨p, 0, none⟩ = some (.bool aw) := by rw [← hW, ← hp]; simp [go_sem]
  have a1 : W.cell? ⟨p, 1, none⟩ = some (.bool ae) := by rw [← hW, ← hp]; simp [go_sem]
  have a2 : W.cell? ⟨p, 2, none⟩ = some (.int .u64 al) := by rw [← hW, ← hp]; simp [go_sem]
  have a3 : W.cell? ⟨p, 3, none⟩ = some (.int .u64 ah) := by rw [← hW, ← hp]; simp [go_sem]
  have a4 : W.cell? ⟨p, 4, none⟩ = some (.slice pa na ca) := by rw [← hW, ← hp]; simp [go_sem]
  go_enter Tryz.func10, Tryz.ntmps10
  go_upto_region 1 with fail
  (try rw [hW])
  (try rw [hp])
  clear hW
  have kf1 := kf W (ta0.on bW)
  go_upto_region 2 with (first | (go_at_call 18; refine kf1.mono ?_; rintro e v0 ⟨⟨v, rfl, hv⟩, g⟩; have tX := hv _ ((ta0.on bW).on g); obtain ⟨p7, c7, rfl⟩ := tX.len; replace bW := sp_call bW g; clear g kf1 hv) | fail)
  obtain ⟨b7, hb7⟩ : ∃ b, v0.heap.size = b := ⟨_, rfl⟩
  obtain ⟨V0, hV0⟩ : ∃ V, v0.alloc (.cells #[.bool aw, .bool ae, .int .u64 al, .int .u64 ah, .slice p7 Xa.length c7] 31) = V := ⟨_, rfl⟩
  have gN : Below v0.heap.size v0 V0 := by rw [← hV0]; exact sp_new (Below.refl _ _) _
  have q7 : V0.heap[b7]? = some (.cells #[.bool aw, .bool ae, .int .u64 al, .int .u64 ah, .slice p7 Xa.length c7] 31 (0, 0)) := by
    have := World.alloc_heap_new v0 (.cells #[.bool aw, .bool ae, .int .u64 al, .int .u64 ah, .slice p7 Xa.length c7] 31)
    rw [hV0, hb7] at this
    exact this
  have tX0 : Hid (TAt V0 (.slice p7 Xa.length c7) Xa) := tX.on gN
  have bW0 : Hid (Below w.heap.size w V0) := sp_call bW gN
  rw [hV0]
  (try rw [hb7])
  have q7' : Hid (V0.heap[b7]? = some (.cells #[.bool aw, .bool ae, .int .u64 al, .int .u64 ah, .slice p7 Xa.length c7] 31 (0, 0))) := q7
  have tr' : Hid (RAt w (.slice pr nr cr) rs) := tr
  have tm' : Hid (RAt w (.slice pm nm cM) ms) := tm
  have hnr' : Hid (rs.length = nr) := hnr
  have hnm' : Hid (ms.length = nm) := hnm
  have hr : Hid (∀ r ∈ rs, wdR r) := hr0
  have hm : Hid (∀ r ∈ ms, wdR r) := hm0
  have ke1' : Hid (∀ V v u, TAt V v Xa → RAt V u (rs.take 40) → Calls Tryz.prog 35 #[.agg #[.bool aw, .bool ae, .int .u64 al, .int .u64 ah, v], u] V fun e w' => e = .returned (.tuple #[.agg #[.bool r0, .int .u64 r1, .int .u64 r2], .bool e1]) ∧ Below V.heap.size V w') := ke1
  have ke2' : Hid (∀ V v u, TAt V v Xa → RAt V u (wdl rs ms (min nr 40)) → Calls Tryz.prog 35 #[.agg #[.bool aw, .bool ae, .int .u64 al, .int .u64 ah, v], u] V fun e w' => e = .returned (.tuple #[.agg #[.bool s0, .int .u64 s1, .int .u64 s2], .bool e2]) ∧ Below V.heap.size V w') := ke2
  have kw' : Hid (e2 = true → e1 = true ∧ ∀ V, Calls Tryz.prog 49 #[.int .i64 0, .agg #[.bool r0, .int .u64 r1, .int .u64 r2], .agg #[.bool s0, .int .u64 s1, .int .u64 s2]] V fun e w' => e = .returned (.bool true) ∧ Below V.heap.size V w') := kw
  clear ke1 ke2 kw
  clear gN hV0 hb7 a0 a1 a2 a3 a4 tX bW q7 tr tm hnr hnm hr0 hm0 ta0 kf
  go_wp2_with fail
  go_loopw [9, 8] (fun i v wr => ∃ (V : World) (j : Nat) (v0 : Value), V = wr ∧ j ≤ min nr 40 ∧ i = .int .i64 j ∧ v0 = v ∧ Below V0.heap.size V0 V ∧ V.ownsRow V0.heap.size 24 3 v0 j (rcs (wdl rs ms j))) (fun i _ _ => min nr 40 - (intOf i).toNat)
  case atStart => exact ⟨_, 0, _, rfl, by omega, rfl, rfl, Below.refl _ _, World.ownsRow_nil _ _ _ _⟩
  case round =>
    obtain ⟨V, j, v, rfl, hj, rfl, rfl, bV, own⟩ := hrel
    by_cases cj : j < min nr 40
    case pos =>
      have cj' : (j : Int) < (nr : Int) := by omega
      have c40 : (j : Int) < 40 := by omega
      have wj : IntKind.i64.wrap ((j : Int) + 1) = ((j + 1 : Nat) : Int) := by rw [IntKind.wrap_i64]; omega
      have l1 : j + 1 ≤ maxLen := by unfold maxLen; omega
      have l2 : (j + 1) * 24 ≤ 140737488355328 := by omega
      have bw := sp_call bW0.out bV
      obtain ⟨br, ro, hpr, r0, r1, r2⟩ := (tr'.out.on bw).get (q := (j : Int)) (by omega) (by rw [hnr'.out]; exact cj')
      subst hpr
      simp only [Int.toNat_natCast] at r0 r1 r2
      have ix := tixF br ro nr cr j (by omega)
      have wR := rg_wd hr.out (j : Int)
      have kR := rright9 (rg rs (j : Int)) wR
      have sn := wdl_succ rs ms j
      have hwd : wdn rs ms j = if (decide (j < ms.length) && (liR (rg ms (j : Int)) && liR (rg rs (j : Int)))) = true then rJoinF false (rg rs (j : Int)) (rg ms (j : Int)) else rg rs (j : Int) := rfl
      have tmV := tm'.out.on bw
      have wM := rg_wd hm.out (j : Int)
      have kM := rright9 (rg ms (j : Int)) wM
      have kJ := rjoinF_any false (rg rs (j : Int)).1 (rg rs (j : Int)).2.1 (rg rs (j : Int)).2.2 (rg ms (j : Int)).1 (rg ms (j : Int)).2.1 (rg ms (j : Int)).2.2 wR.1 wR.2 wM.1 wM.2
      clear wR wM
      go_upto_region 7 with fail
      obtain ⟨bq, hbq⟩ : ∃ b, V.heap.size = b := ⟨_, rfl⟩
      have zbq : V0.heap.size ≤ bq := by rw [← hbq]; exact bV.size
      have nown : Hid (∀ k, v.ownBlock = some k → k ≠ bq) := fun k hk => by have := (own.lt k hk).2; omega
      have nbr : Hid (br ≠ bq) := by
        obtain ⟨b', o', e, c, _⟩ := tr'.out.get (q := (j : Int)) (by omega) (by rw [hnr'.out]; exact cj')
        cases e
        have := World.block_lt_of_cell? w _ c
        have := bW0.out.size
        exact (show br ≠ bq from by simp only at *; omega)
      have gZ := sp_new (Below.refl _ V) (.cells #[.bool (rg rs (j : Int)).1, .int .u64 (rg rs (j : Int)).2.1, .int .u64 (rg rs (j : Int)).2.2] 24)
      have qq := World.alloc_heap_new V (.cells #[.bool (rg rs (j : Int)).1, .int .u64 (rg rs (j : Int)).2.1, .int .u64 (rg rs (j : Int)).2.2] 24)
      rw [hbq] at qq
      (try rw [hbq])
      have bZ := sp_call bV gZ
      replace own := lo_on gZ own
      replace r0 := sO gZ r0; replace r1 := sO gZ r1; replace r2 := sO gZ r2
      replace tmV := tmV.on gZ
      generalize V.alloc (.cells #[.bool (rg rs (j : Int)).1, .int .u64 (rg rs (j : Int)).2.1, .int .u64 (rg rs (j : Int)).2.2] 24) = Z at *
      clear gZ hbq bV bw
      by_cases cm : j < nm
      case neg =>
        have cm' : ¬ (j : Int) < (nm : Int) := by omega
        have e : wdn rs ms j = rg rs (j : Int) := by rw [hwd, if_neg]; rw [hnm'.out, decide_eq_false cm]; simp
        rw [e] at sn
        clear hwd e kR kM kJ tmV
        generalize rg rs (j : Int) = N at *
        obtain ⟨n0, n1, n2⟩ := N
        dsimp only at *
        have snoc : rcs (wdl rs ms (j + 1)) = rcs (wdl rs ms j) ++ [.bool n0, .int .u64 n1, .int .u64 n2] := by rw [sn, rcs_app]; rfl
        go_upto_region 9 with fail
        obtain ⟨u0, u1, u2, uf⟩ := lj_cells3 qq
        have zz : V0.heap.size ≤ Z.heap.size := bZ.size
        go_wp2_with (first
          | (at_builtin; refine wpList_append_own _ rfl _ _ 51 rfl V0.heap.size 24 i0 (.agg #[.bool false, .int .u64 0, .int .u64 0]) 3 24 Tryz.underlying51 hi hz0 hz1 hz2 rfl (by decide) _ _ _ rfl (own.alloc _) ⟨Z.heap.size, 0, none⟩ 1 1 [.bool n0, .int .u64 n1, .int .u64 n2] rfl rfl (fr_cell _ _ _ _ _) (fr_one _ _ _) l1 l2 (by rw [World.size_alloc]; omega) ?_; intro v' V3 hown' hgrow hnil; clear hnil; obtain ⟨vo2, vc2, rfl⟩ := lo_shape hown')
          | fail)
        have bN : Below V0.heap.size V0 V3 := (sp_new bZ _).grown hgrow (by rw [World.size_alloc]; omega) (fun k hk => (own.lt k hk).1)
        rw [← snoc] at hown'
        exact ⟨⟨_, j + 1, _, rfl, by omega, by first | rfl | go_num | simp, rfl, bN, hown'⟩, by simp [intOf]; omega⟩
      case pos =>
        have cm' : (j : Int) < (nm : Int) := by omega
        obtain ⟨bm, mo, hpm, m0, m1, m2⟩ := tmV.get (q := (j : Int)) (by omega) (by rw [hnm'.out]; exact cm')
        subst hpm
        simp only [Int.toNat_natCast] at m0 m1 m2
        have ixm := tixF bm mo nm cM j (by omega)
        have nbm : Hid (bm ≠ bq) := by
          obtain ⟨b', o', e, c, _⟩ := tm'.out.get (q := (j : Int)) (by omega) (by rw [hnm'.out]; exact cm')
          cases e
          have := World.block_lt_of_cell? w _ c
          have := bW0.out.size
          exact (show bm ≠ bq from by simp only at *; omega)
        have d1 : decide (j < ms.length) = true := by rw [hnm'.out]; exact decide_eq_true cm
        cases hM : liR (rg ms (j : Int))
        case false =>
          have e : wdn rs ms j = rg rs (j : Int) := by rw [hwd, if_neg]; rw [hM]; simp
          rw [e] at sn
          rw [hM] at kM
          clear hwd e kR kJ tmV
          generalize rg rs (j : Int) = N at *
          obtain ⟨n0, n1, n2⟩ := N
          dsimp only at *
          have snoc : rcs (wdl rs ms (j + 1)) = rcs (wdl rs ms j) ++ [.bool n0, .int .u64 n1, .int .u64 n2] := by rw [sn, rcs_app]; rfl
          go_upto_region 9 with (first | (go_at_call 47; refine (kM _).mono ?_; rintro e v1 ⟨rfl, g⟩; replace own := lo_on g own; replace bZ := sp_call bZ g; replace qq := carryF g qq; clear g kM) | fail)
          obtain ⟨u0, u1, u2, uf⟩ := lj_cells3 qq
          have zz : V0.heap.size ≤ v1.heap.size := bZ.size
          go_wp2_with (first
            | (at_builtin; refine wpList_append_own _ rfl _ _ 51 rfl V0.heap.size 24 i0 (.agg #[.bool false, .int .u64 0, .int .u64 0]) 3 24 Tryz.underlying51 hi hz0 hz1 hz2 rfl (by decide) _ _ _ rfl (own.alloc _) ⟨v1.heap.size, 0, none⟩ 1 1 [.bool n0, .int .u64 n1, .int .u64 n2] rfl rfl (fr_cell _ _ _ _ _) (fr_one _ _ _) l1 l2 (by rw [World.size_alloc]; omega) ?_; intro v' V3 hown' hgrow hnil; clear hnil; obtain ⟨vo2, vc2, rfl⟩ := lo_shape hown')
            | fail)
          have bN : Below V0.heap.size V0 V3 := (sp_new bZ _).grown hgrow (by rw [World.size_alloc]; omega) (fun k hk => (own.lt k hk).1)
          rw [← snoc] at hown'
          exact ⟨⟨_, j + 1, _, rfl, by omega, by first | rfl | go_num | simp, rfl, bN, hown'⟩, by simp [intOf]; omega⟩
        case true =>
          rw [hM] at kM
          cases hR : liR (rg rs (j : Int))
          case false =>
            have e : wdn rs ms j = rg rs (j : Int) := by rw [hwd, if_neg]; rw [hR]; simp
            rw [e] at sn
            rw [hR] at kR
            clear hwd e kJ tmV
            generalize rg rs (j : Int) = N at *
            generalize rg ms (j : Int) = M at *
            obtain ⟨n0, n1, n2⟩ := N
            dsimp only at *
            have snoc : rcs (wdl rs ms (j + 1)) = rcs (wdl rs ms j) ++ [.bool n0, .int .u64 n1, .int .u64 n2] := by rw [sn, rcs_app]; rfl
            go_upto_region 9 with (first
              | (go_at_call 47; refine (kM _).mono ?_; rintro e v1 ⟨rfl, g⟩; replace own := lo_on g own; replace bZ := sp_call bZ g; replace qq := carryF g qq; replace r0 := sO g r0; replace r1 := sO g r1; replace r2 := sO g r2; clear g kM)
              | (go_at_call 47; refine (kR _).mono ?_; rintro e v2 ⟨rfl, g⟩; replace own := lo_on g own; replace bZ := sp_call bZ g; replace qq := carryF g qq; clear g kR)
              | fail)
            obtain ⟨u0, u1, u2, uf⟩ := lj_cells3 qq
            have zz : V0.heap.size ≤ v2.heap.size := bZ.size
            go_wp2_with (first
              | (at_builtin; refine wpList_append_own _ rfl _ _ 51 rfl V0.heap.size 24 i0 (.agg #[.bool false, .int .u64 0, .int .u64 0]) 3 24 Tryz.underlying51 hi hz0 hz1 hz2 rfl (by decide) _ _ _ rfl (own.alloc _) ⟨v2.heap.size, 0, none⟩ 1 1 [.bool n0, .int .u64 n1, .int .u64 n2] rfl rfl (fr_cell _ _ _ _ _) (fr_one _ _ _) l1 l2 (by rw [World.size_alloc]; omega) ?_; intro v' V3 hown' hgrow hnil; clear hnil; obtain ⟨vo2, vc2, rfl⟩ := lo_shape hown')
              | fail)
            have bN : Below V0.heap.size V0 V3 := (sp_new bZ _).grown hgrow (by rw [World.size_alloc]; omega) (fun k hk => (own.lt k hk).1)
            rw [← snoc] at hown'
            exact ⟨⟨_, j + 1, _, rfl, by omega, by first | rfl | go_num | simp, rfl, bN, hown'⟩, by simp [intOf]; omega⟩
          case true =>
            have e : wdn rs ms j = rJoinF false (rg rs (j : Int)) (rg ms (j : Int)) := by rw [hwd, if_pos]; rw [d1, hM, hR]; rfl
            rw [e] at sn
            rw [hR] at kR
            have kJ' : ∀ V, Calls Tryz.prog 48 #[.int .i64 0, .agg #[.bool (rg rs (j : Int)).1, .int .u64 (rg rs (j : Int)).2.1, .int .u64 (rg rs (j : Int)).2.2], .agg #[.bool (rg ms (j : Int)).1, .int .u64 (rg ms (j : Int)).2.1, .int .u64 (rg ms (j : Int)).2.2]] V fun r w' => r = .returned (.agg #[.bool (rJoinF false (rg rs (j : Int)) (rg ms (j : Int))).1, .int .u64 (rJoinF false (rg rs (j : Int)) (rg ms (j : Int))).2.1, .int .u64 (rJoinF false (rg rs (j : Int)) (rg ms (j : Int))).2.2]) ∧ Below V.heap.size V w' := fun V => kJ V
            clear hwd e kJ tmV
            generalize rJoinF false (rg rs (j : Int)) (rg ms (j : Int)) = N at *
            generalize rg rs (j : Int) = A at *
            generalize rg ms (j : Int) = M at *
            obtain ⟨n0, n1, n2⟩ := N
            obtain ⟨x0, x1, x2⟩ := A
            obtain ⟨y0, y1, y2⟩ := M
            dsimp only at *
            have snoc : rcs (wdl rs ms (j + 1)) = rcs (wdl rs ms j) ++ [.bool n0, .int .u64 n1, .int .u64 n2] := by rw [sn, rcs_app]; rfl
            go_upto_region 8 with (first
              | (go_at_call 47; refine (kM _).mono ?_; rintro e v1 ⟨rfl, g⟩; replace own := lo_on g own; replace bZ := sp_call bZ g; replace qq := carryF g qq; replace r0 := sO g r0; replace r1 := sO g r1; replace r2 := sO g r2; replace m0 := sO g m0; replace m1 := sO g m1; replace m2 := sO g m2; clear g kM)
              | (go_at_call 47; refine (kR _).mono ?_; rintro e v2 ⟨rfl, g⟩; replace own := lo_on g own; replace bZ := sp_call bZ g; replace qq := carryF g qq; replace r0 := sO g r0; replace r1 := sO g r1; replace r2 := sO g r2; replace m0 := sO g m0; replace m1 := sO g m1; replace m2 := sO g m2; clear g kR)
              | fail)
            have hall : ∀ X9, Below v2.heap.size v2 X9 → (X9.cell? ⟨br, ro + j * 3, none⟩ = some (.bool x0) ∧ X9.cell? ⟨br, ro + j * 3 + 1, none⟩ = some (.int .u64 x1) ∧ X9.cell? ⟨br, ro + j * 3 + 2, none⟩ = some (.int .u64 x2) ∧ X9.cell? ⟨bm, mo + j * 3, none⟩ = some (.bool y0) ∧ X9.cell? ⟨bm, mo + j * 3 + 1, none⟩ = some (.int .u64 y1) ∧ X9.cell? ⟨bm, mo + j * 3 + 2, none⟩ = some (.int .u64 y2)) := fun X9 g9 => ⟨sO g9 r0, sO g9 r1, sO g9 r2, sO g9 m0, sO g9 m1, sO g9 m2⟩
            have cc : Below v2.heap.size v2 v2.drew := (Below.refl _ _).drew
            refine wp_region_held_drew (S := (fun w' => w'.cell? ⟨br, ro + j * 3, none⟩ = some (.bool x0) ∧ w'.cell? ⟨br, ro + j * 3 + 1, none⟩ = some (.int .u64 x1) ∧ w'.cell? ⟨br, ro + j * 3 + 2, none⟩ = some (.int .u64 x2) ∧ w'.cell? ⟨bm, mo + j * 3, none⟩ = some (.bool y0) ∧ w'.cell? ⟨bm, mo + j * 3 + 1, none⟩ = some (.int .u64 y1) ∧ w'.cell? ⟨bm, mo + j * 3 + 2, none⟩ = some (.int .u64 y2))) (by kernel_rfl) (hall _ cc) (fun hH => ?_)
            refine wpAnyH_take (i := 0) (oi := _) (v := .slice (some ⟨br, ro, none⟩) nr cr) rfl (by kernel_rfl) (by kernel_rfl) (by kernel_rfl) (fun _ _ _ h => h) (Or.inl ⟨by rfl, fun w' hSw => by obtain ⟨zr0, zr1, zr2, zm0, zm1, zm2⟩ := hSw; go_simp⟩) hH ?_
            simp only [Act.put, List.getElem_toArray, List.getElem_cons_zero, List.getElem_cons_succ, List.setIfInBounds_toArray, List.set_cons_zero, List.set_cons_succ]
            refine wpAnyH_take (i := 1) (oi := _) (v := .int .i64 j) rfl (by kernel_rfl) (by kernel_rfl) (by kernel_rfl) (fun _ _ _ h => h) (Or.inl ⟨by rfl, fun w' hSw => by obtain ⟨zr0, zr1, zr2, zm0, zm1, zm2⟩ := hSw; go_simp⟩) hH ?_
            simp only [Act.put, List.getElem_toArray, List.getElem_cons_zero, List.getElem_cons_succ, List.setIfInBounds_toArray, List.set_cons_zero, List.set_cons_succ]
            refine wpAnyH_take (i := 2) (oi := _) (v := .pointer (some ⟨br, ro + j * 3, none⟩)) rfl (by kernel_rfl) (by kernel_rfl) (by kernel_rfl) (fun _ _ _ h => h) (Or.inl ⟨by rfl, fun w' hSw => by obtain ⟨zr0, zr1, zr2, zm0, zm1, zm2⟩ := hSw; go_simp⟩) hH ?_
            simp only [Act.put, List.getElem_toArray, List.getElem_cons_zero, List.getElem_cons_succ, List.setIfInBounds_toArray, List.set_cons_zero, List.set_cons_succ]
            refine wpAnyH_take (i := 3) (oi := _) (v := .agg #[.bool x0, .int .u64 x1, .int .u64 x2]) rfl (by kernel_rfl) (by kernel_rfl) (by kernel_rfl) (fun _ _ _ h => h) (Or.inl ⟨by rfl, fun w' hSw => by obtain ⟨zr0, zr1, zr2, zm0, zm1, zm2⟩ := hSw; go_simp⟩) hH ?_
            simp only [Act.put, List.getElem_toArray, List.getElem_cons_zero, List.getElem_cons_succ, List.setIfInBounds_toArray, List.set_cons_zero, List.set_cons_succ]
            refine wpAnyH_take (i := 4) (oi := _) (v := .slice (some ⟨bm, mo, none⟩) nm cM) rfl (by kernel_rfl) (by kernel_rfl) (by kernel_rfl) (fun _ _ _ h => h) (Or.inl ⟨by rfl, fun w' hSw => by obtain ⟨zr0, zr1, zr2, zm0, zm1, zm2⟩ := hSw; go_simp⟩) hH ?_
            simp only [Act.put, List.getElem_toArray, List.getElem_cons_zero, List.getElem_cons_succ, List.setIfInBounds_toArray, List.set_cons_zero, List.set_cons_succ]
            refine wpAnyH_take (i := 5) (oi := _) (v := .int .i64 j) rfl (by kernel_rfl) (by kernel_rfl) (by kernel_rfl) (fun _ _ _ h => h) (Or.inl ⟨by rfl, fun w' hSw => by obtain ⟨zr0, zr1, zr2, zm0, zm1, zm2⟩ := hSw; go_simp⟩) hH ?_
            simp only [Act.put, List.getElem_toArray, List.getElem_cons_zero, List.getElem_cons_succ, List.setIfInBounds_toArray, List.set_cons_zero, List.set_cons_succ]
            refine wpAnyH_take (i := 6) (oi := _) (v := .pointer (some ⟨bm, mo + j * 3, none⟩)) rfl (by kernel_rfl) (by kernel_rfl) (by kernel_rfl) (fun _ _ _ h => h) (Or.inl ⟨by rfl, fun w' hSw => by obtain ⟨zr0, zr1, zr2, zm0, zm1, zm2⟩ := hSw; go_simp⟩) hH ?_
            simp only [Act.put, List.getElem_toArray, List.getElem_cons_zero, List.getElem_cons_succ, List.setIfInBounds_toArray, List.set_cons_zero, List.set_cons_succ]
            refine wpAnyH_take (i := 7) (oi := _) (v := .agg #[.bool y0, .int .u64 y1, .int .u64 y2]) rfl (by kernel_rfl) (by kernel_rfl) (by kernel_rfl) (fun _ _ _ h => h) (Or.inl ⟨by rfl, fun w' hSw => by obtain ⟨zr0, zr1, zr2, zm0, zm1, zm2⟩ := hSw; go_simp⟩) hH ?_
            simp only [Act.put, List.getElem_toArray, List.getElem_cons_zero, List.getElem_cons_succ, List.setIfInBounds_toArray, List.set_cons_zero, List.set_cons_succ]
            replace own := lo_on cc own
            replace bZ := sp_call bZ cc
            replace qq := carryF cc qq
            generalize hY : v2.drew = Y0 at *
            clear hY
            refine wpAnyH_ready (rs := [8]) (by kernel_rfl) (by simp) (AllReadyH.cons (o := _) rfl (fun K hK => ?_) AllReadyH.nil)
            go_simp
            refine (kJ' _).mono ?_
            rintro e Y1 ⟨rfl, g⟩
            replace own := lo_on g own
            replace bZ := sp_call bZ g
            replace qq := carryF g qq
            replace cc := sp_call cc g
            clear g
            go_wp2_with fail
            refine hK.out _ _ (hall _ cc) (fun hH => ?_)
            clear hK K
            try simp only [Act.put, List.getElem_toArray, List.getElem_cons_zero, List.getElem_cons_succ, List.setIfInBounds_toArray, List.set_cons_zero, List.set_cons_succ]
            obtain ⟨u0, u1, u2, uf⟩ := lj_cells3 qq
            have nb1 : br ≠ bq := nbr.out
            have nb2 : bm ≠ bq := nbm.out
            refine wpAnyH_ready (rs := [9]) (by kernel_rfl) (by simp) (AllReadyH.cons (o := _) rfl (fun K hK => ?_) AllReadyH.nil)
            go_simp
            clear u0 u1 u2 uf
            replace own := own3 own nown.out (.bool n0) (.int .u64 n1) (.int .u64 n2)
            replace qq := lj_set3 qq (.bool n0) (.int .u64 n1) (.int .u64 n2)
            replace bZ := sp_set3 (b := bq) bZ zbq (.bool n0) (.int .u64 n1) (.int .u64 n2)
            obtain ⟨k0, k1, k2, k3, k4, k5⟩ := hall _ cc
            refine hK.out _ _ (by refine ⟨?_, ?_, ?_, ?_, ?_, ?_⟩ <;> simp [go_sem, nb1, nb2, k0, k1, k2, k3, k4, k5]) (fun hH => ?_)
            clear hK K k0 k1 k2 k3 k4 k5 nb1 nb2 hH hall cc
            try simp only [Act.put, List.getElem_toArray, List.getElem_cons_zero, List.getElem_cons_succ, List.setIfInBounds_toArray, List.set_cons_zero, List.set_cons_succ]
            refine wpAnyH_done (by kernel_rfl) ?_ _
            generalize hY : (((Y1.setCell ⟨bq, 0, none⟩ (.bool n0)).setCell ⟨bq, 1, none⟩ (.int .u64 n1)).setCell ⟨bq, 2, none⟩ (.int .u64 n2)) = Y9 at *
            clear hY
            obtain ⟨u0, u1, u2, uf⟩ := lj_cells3 qq
            have zz : V0.heap.size ≤ Y9.heap.size := bZ.size
            go_wp2_with (first
              | (at_builtin; refine wpList_append_own _ rfl _ _ 51 rfl V0.heap.size 24 i0 (.agg #[.bool false, .int .u64 0, .int .u64 0]) 3 24 Tryz.underlying51 hi hz0 hz1 hz2 rfl (by decide) _ _ _ rfl (own.alloc _) ⟨Y9.heap.size, 0, none⟩ 1 1 [.bool n0, .int .u64 n1, .int .u64 n2] rfl rfl (fr_cell _ _ _ _ _) (fr_one _ _ _) l1 l2 (by rw [World.size_alloc]; omega) ?_; intro v' V3 hown' hgrow hnil; clear hnil; obtain ⟨vo2, vc2, rfl⟩ := lo_shape hown')
              | fail)
            have bN : Below V0.heap.size V0 V3 := (sp_new bZ _).grown hgrow (by rw [World.size_alloc]; omega) (fun k hk => (own.lt k hk).1)
            rw [← snoc] at hown'
            exact ⟨⟨_, j + 1, _, rfl, by omega, by first | rfl | go_num | simp, rfl, bN, hown'⟩, by simp [intOf]; omega⟩

    case neg =>
      have bw := sp_call bW0.out bV
      have tXV := tX0.out.on bV
      obtain ⟨f0, f1, f2, f3, f4, ff⟩ := lj_c5 (carryF bV q7'.out)
      have trV := tr'.out.on bw
      have wl : RAt V v (wdl rs ms j) := lo_rat (by rw [wdl_len]; exact own)
      obtain ⟨ov, oc, rfl⟩ := lo_shape own
      have ej : j = min nr 40 := by omega
      rw [ej] at wl
      have ej' : Hid (j = min nr 40) := ej
      clear own q7' tX0 bW0 tr' tm' hr hm bV ej hj cj
      by_cases c40 : nr ≤ 40
      case pos =>
        have n1 : ¬ (j : Int) < (nr : Int) := by have := ej'.out; omega
        have n2 : ¬ (40 : Int) < (nr : Int) := by omega
        have K1 := ke1'.out V _ _ tXV (by rw [List.take_of_length_le (by rw [hnr'.out]; exact c40)]; exact trV)
        rw [← ej'.out] at wl ke2'
        clear c40 ke1' trV
        go_upto_region 13 with (first | (go_at_call 35; refine K1.mono ?_; rintro e v1 ⟨rfl, g⟩; replace f0 := sO g f0; replace f1 := sO g f1; replace f2 := sO g f2; replace f3 := sO g f3; replace f4 := sO g f4; replace tXV := tXV.on g; replace wl := wl.on g; replace bw := sp_call bw g; clear g K1) | fail)
        have gN1 := sp_new (Below.refl _ v1) (.cells #[.bool r0, .int .u64 r1, .int .u64 r2] 24)
        have i0 : (v1.alloc (.cells #[.bool r0, .int .u64 r1, .int .u64 r2] 24)).cell? ⟨v1.heap.size, 0, none⟩ = some (.bool r0) := by simp [go_sem]
        have i1 : (v1.alloc (.cells #[.bool r0, .int .u64 r1, .int .u64 r2] 24)).cell? ⟨v1.heap.size, 1, none⟩ = some (.int .u64 r1) := by simp [go_sem]
        have i2 : (v1.alloc (.cells #[.bool r0, .int .u64 r1, .int .u64 r2] 24)).cell? ⟨v1.heap.size, 2, none⟩ = some (.int .u64 r2) := by simp [go_sem]
        replace f0 := sO gN1 f0; replace f1 := sO gN1 f1; replace f2 := sO gN1 f2; replace f3 := sO gN1 f3; replace f4 := sO gN1 f4
        replace tXV := tXV.on gN1
        replace wl := wl.on gN1
        replace bw := sp_call bw gN1
        generalize v1.alloc (.cells #[.bool r0, .int .u64 r1, .int .u64 r2] 24) = V1 at *
        generalize v1.heap.size = B1 at *
        have K2 := ke2'.out V1 _ _ tXV wl
        clear gN1
        go_upto_region 14 with (first | (go_at_call 35; refine K2.mono ?_; rintro e v2 ⟨rfl, g⟩; replace i0 := sO g i0; replace i1 := sO g i1; replace i2 := sO g i2; replace bw := sp_call bw g; clear g K2) | fail)
        have gN2 := sp_new (Below.refl _ v2) (.cells #[.bool s0, .int .u64 s1, .int .u64 s2] 24)
        have j0 : (v2.alloc (.cells #[.bool s0, .int .u64 s1, .int .u64 s2] 24)).cell? ⟨v2.heap.size, 0, none⟩ = some (.bool s0) := by simp [go_sem]
        have j1 : (v2.alloc (.cells #[.bool s0, .int .u64 s1, .int .u64 s2] 24)).cell? ⟨v2.heap.size, 1, none⟩ = some (.int .u64 s1) := by simp [go_sem]
        have j2 : (v2.alloc (.cells #[.bool s0, .int .u64 s1, .int .u64 s2] 24)).cell? ⟨v2.heap.size, 2, none⟩ = some (.int .u64 s2) := by simp [go_sem]
        replace i0 := sO gN2 i0; replace i1 := sO gN2 i1; replace i2 := sO gN2 i2
        replace bw := sp_call bw gN2
        generalize v2.alloc (.cells #[.bool s0, .int .u64 s1, .int .u64 s2] 24) = V2 at *
        generalize v2.heap.size = B2 at *
        clear gN2 f0 f1 f2 f3 f4 ff
        cases e2
        case false =>
          go_wp2_with (first | (go_at_call 17; refine (kl _).mono ?_; rintro e v3 ⟨rfl, g⟩; replace bw := sp_call bw g; clear g) | fail)
          go_ret
          exact ⟨rfl, by first | exact bw | (rw [← hp]; exact bw)⟩
        case true =>
          obtain ⟨rfl, kW⟩ := kw'.out rfl
          go_wp2_with (first
            | (go_at_call 17; refine (kl _).mono ?_; rintro e v3 ⟨rfl, g⟩; replace i0 := sO g i0; replace i1 := sO g i1; replace i2 := sO g i2; replace j0 := sO g j0; replace j1 := sO g j1; replace j2 := sO g j2; replace bw := sp_call bw g; clear g)
            | (go_at_call 49; refine (kW _).mono ?_; rintro e v4 ⟨rfl, g⟩; replace bw := sp_call bw g; clear g)
            | fail)
          go_ret
          exact ⟨rfl, by first | exact bw | (rw [← hp]; exact bw)⟩
      case neg =>
        have n1 : (j : Int) < (nr : Int) := by have := ej'.out; omega
        have n3 : ¬ (j : Int) < 40 := by have := ej'.out; omega
        have n2 : (40 : Int) < (nr : Int) := by omega
        obtain ⟨b, o, cap, hs, hc, hcell⟩ : ∃ (b o cap : Nat), Value.slice pr nr cr = .slice (some ⟨b, o, none⟩) nr cap ∧ nr ≤ cap ∧ ∀ (j : Nat) r, rs[j]? = some r → V.cell? ⟨b, o + j * 3, none⟩ = some (.bool r.1) ∧ V.cell? ⟨b, o + j * 3 + 1, none⟩ = some (.int .u64 r.2.1) ∧ V.cell? ⟨b, o + j * 3 + 2, none⟩ = some (.int .u64 r.2.2) := by
          rcases trV with ⟨_, h⟩ | ⟨b, o, cap, h1, h2, h3⟩
          · have := hnr'.out; rw [h] at this; simp at this; omega
          · rw [hnr'.out] at h1 h2; exact ⟨b, o, cap, h1, h2, h3⟩
        cases hs
        have t40 : RAt V (.slice (some ⟨b, o, none⟩) 40 cr) (rs.take 40) := by
          have e40 : (rs.take 40).length = 40 := by simp [hnr'.out]; omega
          refine Or.inr ⟨b, o, cr, by rw [e40], by omega, fun j t hj => hcell j t ?_⟩
          rw [List.getElem?_take] at hj
          split at hj
          · exact hj
          · cases hj
        have hc' : (40 : Int) ≤ (cr : Int) := by omega
        have hc2 : 40 ≤ cr := by omega
        have K1 := ke1'.out V _ _ tXV t40
        rw [← ej'.out] at wl ke2'
        clear c40 ke1' trV hcell t40
        go_upto_region 13 with (first | (go_at_call 35; refine K1.mono ?_; rintro e v1 ⟨rfl, g⟩; replace f0 := sO g f0; replace f1 := sO g f1; replace f2 := sO g f2; replace f3 := sO g f3; replace f4 := sO g f4; replace tXV := tXV.on g; replace wl := wl.on g; replace bw := sp_call bw g; clear g K1) | fail)
        have gN1 := sp_new (Below.refl _ v1) (.cells #[.bool r0, .int .u64 r1, .int .u64 r2] 24)
        have i0 : (v1.alloc (.cells #[.bool r0, .int .u64 r1, .int .u64 r2] 24)).cell? ⟨v1.heap.size, 0, none⟩ = some (.bool r0) := by simp [go_sem]
        have i1 : (v1.alloc (.cells #[.bool r0, .int .u64 r1, .int .u64 r2] 24)).cell? ⟨v1.heap.size, 1, none⟩ = some (.int .u64 r1) := by simp [go_sem]
        have i2 : (v1.alloc (.cells #[.bool r0, .int .u64 r1, .int .u64 r2] 24)).cell? ⟨v1.heap.size, 2, none⟩ = some (.int .u64 r2) := by simp [go_sem]
        replace f0 := sO gN1 f0; replace f1 := sO gN1 f1; replace f2 := sO gN1 f2; replace f3 := sO gN1 f3; replace f4 := sO gN1 f4
        replace tXV := tXV.on gN1
        replace wl := wl.on gN1
        replace bw := sp_call bw gN1
        generalize v1.alloc (.cells #[.bool r0, .int .u64 r1, .int .u64 r2] 24) = V1 at *
        generalize v1.heap.size = B1 at *
        have K2 := ke2'.out V1 _ _ tXV wl
        clear gN1
        go_upto_region 14 with (first | (go_at_call 35; refine K2.mono ?_; rintro e v2 ⟨rfl, g⟩; replace i0 := sO g i0; replace i1 := sO g i1; replace i2 := sO g i2; replace bw := sp_call bw g; clear g K2) | fail)
        have gN2 := sp_new (Below.refl _ v2) (.cells #[.bool s0, .int .u64 s1, .int .u64 s2] 24)
        have j0 : (v2.alloc (.cells #[.bool s0, .int .u64 s1, .int .u64 s2] 24)).cell? ⟨v2.heap.size, 0, none⟩ = some (.bool s0) := by simp [go_sem]
        have j1 : (v2.alloc (.cells #[.bool s0, .int .u64 s1, .int .u64 s2] 24)).cell? ⟨v2.heap.size, 1, none⟩ = some (.int .u64 s1) := by simp [go_sem]
        have j2 : (v2.alloc (.cells #[.bool s0, .int .u64 s1, .int .u64 s2] 24)).cell? ⟨v2.heap.size, 2, none⟩ = some (.int .u64 s2) := by simp [go_sem]
        replace i0 := sO gN2 i0; replace i1 := sO gN2 i1; replace i2 := sO gN2 i2
        replace bw := sp_call bw gN2
        generalize v2.alloc (.cells #[.bool s0, .int .u64 s1, .int .u64 s2] 24) = V2 at *
        generalize v2.heap.size = B2 at *
        clear gN2 f0 f1 f2 f3 f4 ff
        cases e2
        case false =>
          go_wp2_with (first | (go_at_call 17; refine (kl _).mono ?_; rintro e v3 ⟨rfl, g⟩; replace bw := sp_call bw g; clear g) | fail)
          go_ret
          exact ⟨rfl, by first | exact bw | (rw [← hp]; exact bw)⟩
        case true =>
          obtain ⟨rfl, kW⟩ := kw'.out rfl
          go_wp2_with (first
            | (go_at_call 17; refine (kl _).mono ?_; rintro e v3 ⟨rfl, g⟩; replace i0 := sO g i0; replace i1 := sO g i1; replace i2 := sO g i2; replace j0 := sO g j0; replace j1 := sO g j1; replace j2 := sO g j2; replace bw := sp_call bw g; clear g)
            | (go_at_call 49; refine (kW _).mono ?_; rintro e v4 ⟨rfl, g⟩; replace bw := sp_call bw g; clear g)
            | fail)
          go_ret
          exact ⟨rfl, by first | exact bw | (rw [← hp]; exact bw)⟩
end Go.Proofs.YteafnkimcidkhaaGreat


namespace Go.Proofs.YteafnkimcidkhaaGreat
open Go.RowKit Go.Shelf
set_option linter.unusedVariables false
set_option linter.unusedSimpArgs false
theorem few_ok {c : Bool × Int × Int} {wh : Bool} {ls : List (Int × Bool × Int × Int)} (hc : wdR c) (hw : ∀ t ∈ ls, tmW t) : fOk (wh, c, ls.take 40) := by
  refine ⟨hc, fun t ht => ?_, ?_⟩
  · have := hw t (List.mem_of_mem_take ht)
    exact ⟨this.2.1, this.2.2⟩
  · simp only [List.length_take]
    omega
end Go.Proofs.YteafnkimcidkhaaGreat


namespace Go.Proofs.YteafnkimcidkhaaGreat
open Go.RowKit
set_option linter.unusedVariables false
set_option linter.unusedSimpArgs false
def Inc (r s : Bool × Int × Int) : Prop := ∃ a b c d, -fI false < c ∧ c ≤ a ∧ a ≤ b ∧ b ≤ d ∧ d < fI false ∧ r = (false, mk false a, mk false b) ∧ s = (false, mk false c, mk false d)
theorem less_mk {r q : Int} (h1 : -fI false ≤ r) (h2 : r ≤ fI false) (h3 : -fI false ≤ q) (h4 : q ≤ fI false) : lessF false (mk false r) (mk false q) = decide (r < q) := by
  unfold lessF
  rw [cmp_mk h1 h2 h3 h4]
  rw [Bool.true_and, Bool.eq_iff_iff, decide_eq_true_iff, decide_eq_true_iff]
  exact neg_cmp r q
theorem Inc.within {r s : Bool × Int × Int} (h : Inc r s) : rWithinF false r s = true := by
  obtain ⟨a, b, c, d, h1, h2, h3, h4, h5, rfl, rfl⟩ := h
  unfold rWithinF
  rw [less_mk (by omega) (by omega) (by omega) (by omega), less_mk (by omega) (by omega) (by omega) (by omega), decide_eq_false (by omega), decide_eq_false (by omega)]
  rfl
theorem Inc.refl {r : Bool × Int × Int} (hw : wdR r) (h : liN r = true) : Inc r r := by
  obtain ⟨a, b, h1, h2, h3, rfl⟩ := right_is hw h
  exact ⟨a, b, a, b, h1, Int.le_refl _, h2, Int.le_refl _, h3, rfl, rfl⟩
theorem join_inc {r m : Bool × Int × Int} (wr : wdR r) (wm : wdR m) (hr : liN r = true) (hm : liN m = true) : Inc r (rJoinF false r m) := by
  obtain ⟨a, b, h1, h2, h3, rfl⟩ := right_is wr hr
  obtain ⟨c, d, k1, k2, k3, rfl⟩ := right_is wm hm
  refine ⟨a, b, min a c, max b d, by omega, by omega, h2, by omega, by omega, rfl, ?_⟩
  unfold rJoinF
  rw [if_neg (by simp), if_neg (by simp)]
  simp only
  rw [less_mk (by omega) (by omega) (by omega) (by omega), less_mk (by omega) (by omega) (by omega) (by omega)]
  refine Prod.ext rfl (Prod.ext ?_ ?_)
  · show (if decide (c < a) = true then mk false c else mk false a) = mk false (min a c)
    by_cases q : c < a
    · rw [if_pos (decide_eq_true q), show min a c = c by omega]
    · rw [if_neg (by rw [decide_eq_false q]; simp), show min a c = a by omega]
  · show (if decide (b < d) = true then mk false d else mk false b) = mk false (max b d)
    by_cases q : b < d
    · rw [if_pos (decide_eq_true q), show max b d = d by omega]
    · rw [if_neg (by rw [decide_eq_false q]; simp), show max b d = b by omega]
theorem wdn_inc {rs ms : List (Bool × Int × Int)} (hr : ∀ r ∈ rs, wdR r) (hm : ∀ r ∈ ms, wdR r) (i : Nat) : (liR (wdn rs ms i) = true → liR (rg rs i) = true) ∧ ((wdn rs ms i).1 = true → (rg rs i).1 = true) ∧ (liR (rg rs i) = true → (rg rs i).1 = false → Inc (rg rs i) (wdn rs ms i)) := by
  have wr := rg_wd hr (i : Int)
  have wm := rg_wd hm (i : Int)
  unfold wdn
  generalize rg rs (i : Int) = r at *
  generalize rg ms (i : Int) = m at *
  by_cases c : (decide (i < ms.length) && (liR m && liR r)) = true
  · rw [if_pos c]
    simp only [Bool.and_eq_true] at c
    refine ⟨fun _ => c.2.2, fun h => ?_, fun _ h0 => ?_⟩
    · by_cases e : r.1 = true
      · exact e
      · exfalso
        unfold rJoinF at h
        rw [if_neg e] at h
        by_cases e2 : m.1 = true
        · rw [if_pos e2] at h; exact e h
        · rw [if_neg e2] at h; cases h
    · by_cases e2 : m.1 = true
      · have : rJoinF false r m = r := by unfold rJoinF; rw [if_neg (by rw [h0]; simp), if_pos e2]
        rw [this]
        exact Inc.refl wr (nn_of c.2.2 h0)
      · exact join_inc wr wm (nn_of c.2.2 h0) (nn_of c.2.1 (by revert e2; cases m.1 <;> simp))
  · rw [if_neg c]
    exact ⟨id, id, fun h h0 => Inc.refl wr (nn_of h h0)⟩
theorem mR_btw {m p c x d : Int} (p1 : -fI false < p) (p2 : p < fI false) (c1 : -fI false < c) (cx : c ≤ x) (xd : x ≤ d) (d1 : d < fI false) : min (mR m p c) (mR m p d) ≤ mR m p x ∧ mR m p x ≤ max (mR m p c) (mR m p d) := by
  rw [mR_is (y := c) p1 p2 c1 (by omega), mR_is (y := x) p1 p2 (by omega) (by omega), mR_is (y := d) p1 p2 (by omega) d1]
  have v1 := vl_mono false cx
  have v2 := vl_mono false xd
  by_cases h : 0 ≤ vl false p
  · have a1 := rkM_mono false m (Int.mul_le_mul_of_nonneg_left v1 h) (fL false + fL false)
    have a2 := rkM_mono false m (Int.mul_le_mul_of_nonneg_left v2 h) (fL false + fL false)
    omega
  · have a1 := rkM_mono false m (Int.mul_le_mul_of_nonpos_left (show vl false p ≤ 0 by omega) v1) (fL false + fL false)
    have a2 := rkM_mono false m (Int.mul_le_mul_of_nonpos_left (show vl false p ≤ 0 by omega) v2) (fL false + fL false)
    omega
theorem prod_inc {t r s : Bool × Int × Int} (wt : wdR t) (ht : liN t = true) (h : Inc r s) (hs : (prodP t s).2 = true) : (prodP t r).2 = true ∧ Inc (prodP t r).1 (prodP t s).1 := by
  obtain ⟨p, q, p1, pq, q1, rfl⟩ := right_is wt ht
  obtain ⟨a, b, c, d, h1, h2, h3, h4, h5, rfl, rfl⟩ := h
  rw [prodP_mk p1 pq q1 h1 (by omega) h5] at hs ⊢
  rw [prodP_mk p1 pq q1 (by omega) h3 (by omega)]
  have A1 := mR_btw (m := 2) p1 (show p < fI false by omega) h1 h2 (show a ≤ d by omega) h5
  have A2 := mR_btw (m := 2) p1 (show p < fI false by omega) h1 (show c ≤ b by omega) h4 h5
  have A3 := mR_btw (m := 2) (show -fI false < q by omega) q1 h1 h2 (show a ≤ d by omega) h5
  have A4 := mR_btw (m := 2) (show -fI false < q by omega) q1 h1 (show c ≤ b by omega) h4 h5
  have B1 := mR_btw (m := 1) p1 (show p < fI false by omega) h1 h2 (show a ≤ d by omega) h5
  have B2 := mR_btw (m := 1) p1 (show p < fI false by omega) h1 (show c ≤ b by omega) h4 h5
  have B3 := mR_btw (m := 1) (show -fI false < q by omega) q1 h1 h2 (show a ≤ d by omega) h5
  have B4 := mR_btw (m := 1) (show -fI false < q by omega) q1 h1 (show c ≤ b by omega) h4 h5
  have du := mR_du p1 (show p < fI false by omega) (show -fI false < a by omega) (show a < fI false by omega)
  have l1 : loR mR p q c d ≤ loR mR p q a b := by unfold loR; omega
  have l2 : hiR mR p q a b ≤ hiR mR p q c d := by unfold hiR; omega
  have l3 : loR mR p q a b ≤ hiR mR p q a b := by unfold loR hiR; omega
  generalize loR mR p q c d = x at *
  generalize loR mR p q a b = y at *
  generalize hiR mR p q a b = z at *
  generalize hiR mR p q c d = v at *
  by_cases k : -fI false < x ∧ x ≤ v ∧ v < fI false
  · rw [if_pos k, if_pos (by omega)]
    exact ⟨rfl, y, z, x, v, k.1, l1, l3, l2, k.2.2, rfl, rfl⟩
  · rw [if_neg k] at hs
    cases hs
theorem sum_inc {r s r' s' : Bool × Int × Int} (h : Inc r s) (h' : Inc r' s') (hs : (sumP s s').2 = true) : (sumP r r').2 = true ∧ Inc (sumP r r').1 (sumP s s').1 := by
  obtain ⟨a, b, c, d, h1, h2, h3, h4, h5, rfl, rfl⟩ := h
  obtain ⟨a', b', c', d', k1, k2, k3, k4, k5, rfl, rfl⟩ := h'
  rw [sumP_ends h1 (by omega) h5 k1 (by omega) k5] at hs ⊢
  rw [sumP_ends (by omega) h3 (by omega) (by omega) k3 (by omega)]
  have m1 := aR_mono (m := 2) h1 h2 (show a < fI false by omega) k1 k2 (show a' < fI false by omega)
  have m2 := aR_mono (m := 2) (show -fI false < a by omega) h3 (show b < fI false by omega) (show -fI false < a' by omega) k3 (show b' < fI false by omega)
  have m3 := aR_du (show -fI false < b by omega) (show b < fI false by omega) (show -fI false < b' by omega) (show b' < fI false by omega)
  have m4 := aR_mono (m := 1) (show -fI false < b by omega) h4 h5 (show -fI false < b' by omega) k4 k5
  generalize aR 2 c c' = x at *
  generalize aR 2 a a' = y at *
  generalize aR 1 b b' = z at *
  generalize aR 1 d d' = v at *
  by_cases k : -fI false < x ∧ x ≤ v ∧ v < fI false
  · rw [if_pos k, if_pos (by omega)]
    exact ⟨rfl, y, z, x, v, k.1, m1, by omega, m4, k.2.2, rfl, rfl⟩
  · rw [if_neg k] at hs
    cases hs
theorem evL_inc {rs ss : List (Bool × Int × Int)} : ∀ (ls : List (Int × Bool × Int × Int)) (r s : Bool × Int × Int), (∀ t ∈ ls, wdR t.2 ∧ liN t.2 = true ∧ Inc (rg rs t.1) (rg ss t.1)) → Inc r s → (evL ss s ls).2 = true → (evL rs r ls).2 = true ∧ Inc (evL rs r ls).1 (evL ss s ls).1
  | [], r, s, _, h, _ => ⟨rfl, h⟩
  | t :: ls, r, s, hl, h, hs => by
    obtain ⟨wt, nt, it⟩ := hl t (by simp)
    unfold evL at hs ⊢
    by_cases c1 : (prodP t.2 (rg ss t.1)).2 = false
    · rw [if_pos c1] at hs; cases hs
    · rw [if_neg c1] at hs ⊢
      have c1' : (prodP t.2 (rg ss t.1)).2 = true := by revert c1; cases (prodP t.2 (rg ss t.1)).2 <;> simp
      obtain ⟨p1, p2⟩ := prod_inc wt nt it c1'
      rw [if_neg (by rw [p1]; simp)]
      by_cases c2 : (sumP s (prodP t.2 (rg ss t.1)).1).2 = false
      · rw [if_pos c2] at hs; cases hs
      · rw [if_neg c2] at hs ⊢
        have c2' : (sumP s (prodP t.2 (rg ss t.1)).1).2 = true := by revert c2; cases (sumP s (prodP t.2 (rg ss t.1)).1).2 <;> simp
        obtain ⟨q1, q2⟩ := sum_inc h p2 c2'
        rw [if_neg (by rw [q1]; simp)]
        exact evL_inc ls _ _ (fun u hu => hl u (List.mem_cons_of_mem _ hu)) q2 hs
theorem rT_num : ∀ (ls : List (Int × Bool × Int × Int)) (q : Int), rT liN liZ q ls = true → ∀ t ∈ ls, liN t.2 = true
  | [], q, _, t, ht => by simp at ht
  | u :: ls, q, h, t, ht => by
    rw [rT_cons] at h
    simp only [Bool.and_eq_true] at h
    rcases List.mem_cons.1 ht with rfl | ht
    · exact h.1.1.2
    · exact rT_num ls u.1 h.2 t ht
theorem eva_more (A : Frm) (hA : fOk A) (rs ms : List (Bool × Int × Int)) (hr : ∀ r ∈ rs, wdR r) (hm : ∀ r ∈ ms, wdR r) (h : (evaP A (wdl rs ms (min rs.length 40))).2 = true) :
    (evaP A (rs.take 40)).2 = true ∧ rWithinF false (evaP A (rs.take 40)).1 (evaP A (wdl rs ms (min rs.length 40))).1 = true := by
  have len1 : (rs.take 40).length = min rs.length 40 := by simp; omega
  have len2 := wdl_len rs ms (min rs.length 40)
  have g1 : ∀ q : Int, 0 ≤ q → q < (min rs.length 40 : Nat) → rg (rs.take 40) q = rg rs (q.toNat : Int) := fun q h0 hq => by
    simp only [rg, Int.toNat_natCast, List.getD]
    rw [List.getElem?_take_of_lt (by omega)]
  have g2 : ∀ q : Int, 0 ≤ q → q < (min rs.length 40 : Nat) → rg (wdl rs ms (min rs.length 40)) q = wdn rs ms q.toNat := fun q h0 hq => by
    simp only [rg, wdl, List.getD, List.getElem?_map]
    rw [List.getElem?_range (by omega)]
    rfl
  generalize hW : wdl rs ms (min rs.length 40) = W at *
  generalize hS : rs.take 40 = S at *
  by_cases c : (frB A && A.2.2.all (arP W)) = false
  · have e : evaP A W = ((false, 0, 0), false) := if_pos c
    rw [e] at h
    cases h
  have c' : frB A = true ∧ A.2.2.all (arP W) = true := by
    revert c; cases frB A <;> cases A.2.2.all (arP W) <;> simp
  have ge := frB_ge c'.1
  have al : ∀ t ∈ A.2.2, 0 ≤ t.1 ∧ t.1 < (min rs.length 40 : Nat) ∧ liR (rg W t.1) = true := fun t ht => by
    have := List.all_eq_true.1 c'.2 t ht
    simp only [arP, Bool.and_eq_true, decide_eq_true_eq] at this
    rw [len2] at this
    exact ⟨ge t ht, this.1, this.2⟩
  have alS : A.2.2.all (arP S) = true := List.all_eq_true.2 fun t ht => by
    obtain ⟨t0, t1, t2⟩ := al t ht
    simp only [arP, Bool.and_eq_true, decide_eq_true_eq]
    rw [len1, g1 _ t0 t1]
    rw [g2 _ t0 t1] at t2
    exact ⟨t1, (wdn_inc hr hm _).1 t2⟩
  by_cases es : A.2.2.any (seP S) = true
  · have e : evaP A S = ((true, 0, 0), true) := (if_neg (by rw [c'.1, alS]; simp)).trans (if_pos es)
    rw [e]
    exact ⟨rfl, rfl⟩
  have ew : ¬ A.2.2.any (seP W) = true := fun q => es (by
    obtain ⟨t, ht, hq⟩ := List.any_eq_true.1 q
    obtain ⟨t0, t1, t2⟩ := al t ht
    refine List.any_eq_true.2 ⟨t, ht, ?_⟩
    have hq' : (rg W t.1).1 = true := hq
    rw [g2 _ t0 t1] at hq'
    show (rg S t.1).1 = true
    rw [g1 _ t0 t1]
    exact (wdn_inc hr hm _).2.1 hq')
  have e1 : evaP A S = evL S A.2.1 A.2.2 := (if_neg (by rw [c'.1, alS]; simp)).trans (if_neg es)
  have e2 : evaP A W = evL W A.2.1 A.2.2 := (if_neg (by rw [c'.1, c'.2]; simp)).trans (if_neg ew)
  rw [e2] at h ⊢
  rw [e1]
  have h1 : frR A = true ∧ A.1 = false := by simpa [frB] using c'.1
  have h2 := h1.1
  unfold frR fR at h2
  rw [if_neg (by rw [h1.2]; simp)] at h2
  simp only [Bool.and_eq_true] at h2
  have nums := rT_num _ _ h2.2.2
  have r := evL_inc A.2.2 A.2.1 A.2.1 (rs := S) (ss := W) (fun t ht => by
    obtain ⟨t0, t1, t2⟩ := al t ht
    refine ⟨(hA.2.1 t ht).2, nums t ht, ?_⟩
    rw [g1 _ t0 t1, g2 _ t0 t1]
    rw [g2 _ t0 t1] at t2
    have i := wdn_inc hr hm t.1.toNat
    refine i.2.2 (i.1 t2) ?_
    have ns : ¬ (rg S t.1).1 = true := fun q => es (List.any_eq_true.2 ⟨t, ht, q⟩)
    rw [g1 _ t0 t1] at ns
    revert ns; cases (rg rs (t.1.toNat : Int)).1 <;> simp) (Inc.refl hA.1 h2.1) h
  exact ⟨r.1, r.2.within⟩
theorem evL_wd {rs : List (Bool × Int × Int)} (hr : ∀ r ∈ rs, wdR r) : ∀ (ls : List (Int × Bool × Int × Int)) (r : Bool × Int × Int), (∀ t ∈ ls, wdR t.2) → wdR r → wdR (evL rs r ls).1
  | [], r, _, h => h
  | t :: ls, r, hl, h => by
    have wp := prodP_wd t.2 (rg rs t.1) (hl t (by simp)) (rg_wd hr _)
    unfold evL
    split
    · exact wd0
    · split
      · exact wd0
      · exact evL_wd hr ls _ (fun u hu => hl u (List.mem_cons_of_mem _ hu)) (sumP_wd _ _ h wp)
theorem eva_wd {A : Frm} (hA : fOk A) {rs : List (Bool × Int × Int)} (hr : ∀ r ∈ rs, wdR r) : wdR (evaP A rs).1 := by
  unfold evaP
  split
  · exact wd0
  · split
    · exact wd0
    · exact evL_wd hr _ _ (fun t ht => (hA.2.1 t ht).2) hA.1
theorem wdl_wd {rs ms : List (Bool × Int × Int)} (hr : ∀ r ∈ rs, wdR r) (hm : ∀ r ∈ ms, wdR r) (n : Nat) : ∀ r ∈ wdl rs ms n, wdR r := fun r h => by
  obtain ⟨i, _, rfl⟩ := List.mem_map.1 h
  have wr := rg_wd hr (i : Int)
  have wm := rg_wd hm (i : Int)
  unfold wdn
  split
  · unfold rJoinF
    split
    · exact wm
    · split
      · exact wr
      · refine ⟨?_, ?_⟩
        · show Word (if _ then _ else _)
          split
          · exact wm.1
          · exact wr.1
        · show Word (if _ then _ else _)
          split
          · exact wm.2
          · exact wr.2
  · exact wr
theorem law_more (wh e : Bool) (a b : Int) (s : Value) (ls : List (Int × Bool × Int × Int)) (wa : Word a) (wb : Word b) (hw : ∀ t ∈ ls, tmW t) (vr vm : Value) (rs ms : List (Bool × Int × Int)) (hr : ∀ r ∈ rs, Word r.2.1 ∧ Word r.2.2) (hm : ∀ r ∈ ms, Word r.2.1 ∧ Word r.2.2) (w : World) (hT : TAt w s ls) (tr : RAt w vr rs) (tm : RAt w vm ms) :
    Calls Tryz.prog 10 #[.agg #[.bool wh, .bool e, .int .u64 a, .int .u64 b, s], vr, vm] w fun e w' => e = .returned (.bool true) ∧ Below w.heap.size w w' := by
  have oX : fOk (wh, (e, a, b), ls.take 40) := few_ok ⟨wa, wb⟩ hw
  have tr0 := tr
  have tm0 := tm
  obtain ⟨pr, cr, rfl⟩ := tr.len
  obtain ⟨pm, cm, rfl⟩ := tm.len
  have wS : ∀ r ∈ rs.take 40, wdR r := fun r h => hr r (List.mem_of_mem_take h)
  have wW := wdl_wd hr hm (min rs.length 40)
  have mo := eva_more (wh, (e, a, b), ls.take 40) oX rs ms hr hm
  refine limo wh e a b s ls (ls.take 40) rs ms pr pm rs.length cr ms.length cm rfl rfl hr hm (fun V h => fewB wh e a b s ls V h) _ _ _ _ _ _ _ _
    (fun V v u h1 h2 => form_eval (wh, (e, a, b), ls.take 40) oX (rs.take 40) wS v u V h1 h2) (fun V v u h1 h2 => form_eval (wh, (e, a, b), ls.take 40) oX (wdl rs ms (min rs.length 40)) wW v u V h1 h2) lilive_any (fun h => ?_) w hT tr0 tm0
  refine ⟨(mo h).1, fun V => ?_⟩
  have k := rwithinF_any false (evaP (wh, (e, a, b), ls.take 40) (rs.take 40)).1.1 (evaP (wh, (e, a, b), ls.take 40) (rs.take 40)).1.2.1 (evaP (wh, (e, a, b), ls.take 40) (rs.take 40)).1.2.2 (evaP (wh, (e, a, b), ls.take 40) (wdl rs ms (min rs.length 40))).1.1 (evaP (wh, (e, a, b), ls.take 40) (wdl rs ms (min rs.length 40))).1.2.1 (evaP (wh, (e, a, b), ls.take 40) (wdl rs ms (min rs.length 40))).1.2.2 (eva_wd oX wS).1 (eva_wd oX wS).2 (eva_wd oX wW).1 (eva_wd oX wW).2 V
  rw [(mo h).2] at k
  exact k
end Go.Proofs.YteafnkimcidkhaaGreat


