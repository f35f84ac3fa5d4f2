/- Texts of expressions: kidText, indexText, expressionText. -/
import Derived.Test.YtknoibocpbfmmaaGreatDoorPdI
import Derived.Test.YtknoibocpbfmmaaGreatDoorPbE
import Derived.Test.YtknoibocpbfmmaaGreatDoorPbM
namespace Go.Proofs.YtknoibocpbfmmaaGreatDoor
open Go.RowKit
set_option linter.unusedVariables false
set_option linter.unusedSimpArgs false
/-- An expression's text is told. -/
def SpA (e : Ex) : Prop := ∀ (S : Nat → Prop) (pp : Option Addr) (qq : Nat) (w : World), OpsAt w → SlF w S (.slice pp e.ks.len qq) e.ks →
    Calls Tryz.prog 75 #[.agg #[.int .i64 e.op, .string e.tx, .int .i64 e.ty, .slice pp e.ks.len qq]] w fun e' w' => e' = .returned (.string (exT e)) ∧ Below w.heap.size w w'
set_option maxRecDepth 100000 in
theorem opf2 (a c : Int) (b : ByteArray) (w : World) : (Instr.field 133 (.agg #[.int .i64 a, .string b, .int .i64 c]) 2).run Tryz.prog w = .ok (.int .i64 c) w := by kernel_rfl
set_option maxRecDepth 100000 in
set_option maxHeartbeats 1600000 in
theorem pkidT (e : Ex) (hE : SpA e) (hz : (exT e).size ≤ 1099511627776) (lv : Int) (S : Nat → Prop) (pp : Option Addr) (qq : Nat) (w : World) (hO : OpsAt w) (hT : SlF w S (.slice pp e.ks.len qq) e.ks) :
    Calls Tryz.prog 93 #[.agg #[.int .i64 e.op, .string e.tx, .int .i64 e.ty, .slice pp e.ks.len qq], .int .i64 lv] w fun e' w' => e' = .returned (.string (kdT lv (exT e, e.op))) ∧ Below w.heap.size w w' := by
  have gX := pb_new (Below.refl w.heap.size w) (.cells #[.int .i64 e.op, .string e.tx, .int .i64 e.ty, .slice pp e.ks.len qq] 85)
  have qX := World.alloc_heap_new w (.cells #[.int .i64 e.op, .string e.tx, .int .i64 e.ty, .slice pp e.ks.len qq] 85)
  have kE := hE S pp qq _ (hO.bel gX) (hT.kp (Below.kp gX _))
  have hO2 := hO.bel gX
  obtain ⟨X, hX⟩ : ∃ X, w.alloc (.cells #[.int .i64 e.op, .string e.tx, .int .i64 e.ty, .slice pp e.ks.len qq] 85) = X := ⟨_, rfl⟩
  obtain ⟨b, hb⟩ : ∃ b, w.heap.size = b := ⟨_, rfl⟩
  rw [hX] at gX qX kE hO2
  rw [hb] at qX
  obtain ⟨f0, f1, f2, f3, ff⟩ := ex_cells qX
  have kF := fun V h => popFor e.op V h
  have of2 := opf2
  obtain ⟨T, hT⟩ : ∃ T, exT e = T := ⟨_, rfl⟩
  rw [hT] at kE hz ⊢
  obtain ⟨L, hL⟩ : ∃ L, (ofT e.op).2.2 = L := ⟨_, rfl⟩
  have hgX : Hid (Below w.heap.size w X) := gX
  have hX' : Hid (w.alloc (.cells #[.int .i64 e.op, .string e.tx, .int .i64 e.ty, .slice pp e.ks.len qq] 85) = X) := hX
  have hb' : Hid (w.heap.size = b) := hb
  have sz : T.size ≤ 1099511627776 := hz
  obtain ⟨n, hn⟩ : ∃ n, T.size = n := ⟨_, rfl⟩
  rw [hn] at sz
  unfold kdT
  rw [show (ofT ((T, e.op) : ByteArray × Int).2).2.2 = L from hL]
  rw [hL] at kF
  generalize (ofT e.op).1 = o1 at *
  generalize (ofT e.op).2.1 = o2 at *
  clear hL hX hb gX hT hE hz hO
  by_cases c : L < lv
  · rw [if_pos c]
    have s1 : (⟨#[40]⟩ : ByteArray).size = 1 := rfl
    have s2 : ((⟨#[40]⟩ : ByteArray) ++ T).size = 1 + n := by rw [z_app, hn]; rfl
    have s3 : (⟨#[41]⟩ : ByteArray).size = 1 := rfl
    go_enter Tryz.func93, Tryz.ntmps93
    go_upto_region 1 with fail
    rw [hX'.out]
    (try rw [hb'.out])
    go_wp2_with (first
      | (go_at_call 75; (refine kE.mono ?_); rintro e v1 ⟨rfl, g1⟩; replace f0 := pb_cell g1 f0; replace hO2 := hO2.bel g1)
      | (go_at_call 94; (refine (kF _ hO2).mono ?_); rintro e v2 ⟨rfl, g2⟩)
      | fail)
    go_ret
    exact ⟨rfl, pb_call hgX.out (pb_call g1 g2)⟩
  · rw [if_neg c]
    go_enter Tryz.func93, Tryz.ntmps93
    go_upto_region 1 with fail
    rw [hX'.out]
    (try rw [hb'.out])
    go_wp2_with (first
      | (go_at_call 75; (refine kE.mono ?_); rintro e v1 ⟨rfl, g1⟩; replace f0 := pb_cell g1 f0; replace hO2 := hO2.bel g1)
      | (go_at_call 94; (refine (kF _ hO2).mono ?_); rintro e v2 ⟨rfl, g2⟩)
      | fail)
    go_ret
    exact ⟨rfl, pb_call hgX.out (pb_call g1 g2)⟩
theorem fo_len : ∀ f : Fo, f.len ≤ wtL (foTx f)
  | .nil => Nat.le_refl _
  | .cons op tx ty ks r => by
    have := fo_len r
    show r.len + 1 ≤ (exTx op tx ty (foTx ks)).size + 2 + wtL (foTx r)
    omega
set_option maxRecDepth 100000 in
set_option maxHeartbeats 1600000 in
theorem pixT (f : Fo) (hA : f.all SpA) (hz : wtL (foTx f) ≤ 1099511627776) (S : Nat → Prop) (pp : Option Addr) (qq : Nat) (w : World) (hO : OpsAt w) (hT : SlF w S (.slice pp f.len qq) f) :
    Calls Tryz.prog 74 #[.slice pp f.len qq] w fun e' w' => e' = .returned (.string (ixT (foTx f) tx0)) ∧ Below w.heap.size w w' := by
  obtain ⟨R, hR⟩ : ∃ R, ixT (foTx f) tx0 = R := ⟨_, rfl⟩
  rw [hR]
  obtain ⟨m, hm⟩ : ∃ m, f.len = m := ⟨_, rfl⟩
  rw [hm] at hT ⊢
  have hm' : Hid (f.len = m) := hm
  have hA' : Hid (f.all SpA) := hA
  have hT' : Hid (SlF w S (.slice pp m qq) f) := hT
  have hO' : Hid (OpsAt w) := hO
  have hI : Hid (ixT (foTx (f.drop 0)) tx0 = R ∧ tx0.size + wtL (foTx (f.drop 0)) ≤ 1099511627776) := ⟨hR, by show 0 + wtL (foTx f) ≤ _; omega⟩
  have hm40 : Hid (m ≤ 1099511627776) := by have := fo_len f; show m ≤ _; omega
  clear hm hA hO hT hR hz
  go_enter Tryz.func74, Tryz.ntmps74
  go_upto_region 3 with fail
  go_loopw [8, 3] (fun i t wr => ∃ (j : Nat) (a : ByteArray) (V : World), i = .int .i64 j ∧ t = .string a ∧ V = wr ∧ Hid (Below w.heap.size w V) ∧ Hid (ixT (foTx (f.drop j)) a = R ∧ a.size + wtL (foTx (f.drop j)) ≤ 1099511627776) ∧ j ≤ m) (fun i t _ => m - (intOf i).toNat)
  case atStart => exact ⟨0, tx0, w, rfl, rfl, rfl, Below.refl _ _, hI, by omega⟩
  case round =>
    clear hI
    obtain ⟨j, a, V, rfl, rfl, e, gV, hI, hj⟩ := hrel
    subst e
    by_cases cj : j < m
    · have cj' : (j : Int) < (m : Int) := by omega
      obtain ⟨op, tx, ty, ks, hf⟩ := Fo.drop_at (f := f) (j := j) (by rw [hm'.out]; exact cj)
      have hal := Fo.all_drop j hA'.out
      rw [hf] at hal
      obtain ⟨hq, hs⟩ := hI.out
      rw [hf] at hq hs
      obtain ⟨T, hT0⟩ : ∃ T, exT ⟨op, tx, ty, ks⟩ = T := ⟨_, rfl⟩
      have hq2 : Hid (ixT (foTx (f.drop (j + 1))) (a ++ (tLb ++ T ++ tRb)) = R) := by rw [← hT0]; exact hq
      have hs2 : a.size + (T.size + 2 + wtL (foTx (f.drop (j + 1)))) ≤ 1099511627776 := by rw [← hT0]; exact hs
      have hTT := hT'.out.kp (Below.kp gV.out _)
      obtain ⟨p2, q2, e2, hT⟩ := hTT
      obtain ⟨rfl, e4, rfl⟩ := Value.slice.inj e2
      clear e2 e4
      rcases hT with hT | ⟨c, u, rfl, hT⟩
      · exfalso; have := hm'.out; rw [hT] at this; simp [Fo.len] at this; omega
      have hTj := FoAt.drop j hT
      rw [hf] at hTj
      obtain ⟨⟨k0, k1, k2, s3, k3, hs3⟩, _, lc⟩ := hTj.head
      obtain ⟨p3, q3, rfl, hs3'⟩ := hs3
      have g1 := pb_new (Below.refl V.heap.size V) (.cells #[.int .i64 op, .string tx, .int .i64 ty, .slice p3 ks.len q3] 85)
      have kE := hal.1 S p3 q3 (V.alloc (.cells #[.int .i64 op, .string tx, .int .i64 ty, .slice p3 ks.len q3] 85)) ((hO'.out.bel gV.out).bel g1) ((show SlF V S (.slice p3 ks.len q3) ks from ⟨p3, q3, rfl, hs3'⟩).kp (Below.kp g1 _))
      rw [hT0] at kE
      have ix := ex_ix c u m qq j cj
      have cV : c < V.heap.size := World.block_lt_of_cell? V _ k0
      have hm40' := hm40.out
      have wj : IntKind.i64.wrap ((j : Int) + 1) = ((j + 1 : Nat) : Int) := by rw [IntKind.wrap_i64]; omega
      obtain ⟨nT, hnT⟩ : ∃ n, T.size = n := ⟨_, rfl⟩
      obtain ⟨na, hna⟩ : ∃ n, a.size = n := ⟨_, rfl⟩
      have zb : ((⟨#[91]⟩ : ByteArray) ++ T).size = 1 + nT := by rw [z_app, hnT]; rfl
      have zc : ((⟨#[91]⟩ : ByteArray) ++ T ++ (⟨#[93]⟩ : ByteArray)).size = 2 + nT := by rw [z_app, zb]; show 1 + nT + 1 = _; omega
      have z1 : (⟨#[91]⟩ : ByteArray).size = 1 := rfl
      have z2 : (⟨#[93]⟩ : ByteArray).size = 1 := rfl
      have zl : na + (2 + nT) ≤ 1099511627776 := by rw [hnT, hna] at hs2; omega
      have hs3 : Hid (a.size + (T.size + 2 + wtL (foTx (f.drop (j + 1)))) ≤ 1099511627776) := hs2
      have gV' : Hid (Below w.heap.size w (V.alloc (.cells #[.int .i64 op, .string tx, .int .i64 ty, .slice p3 ks.len q3] 85))) := pb_call gV.out g1
      clear hq hs hTj hs3' lc hT hal hf hs2 hI hT0 gV hm40'
      generalize hks : ks.len = n3 at *
      clear hks
      generalize u + j * 4 = o at *
      go_upto_region 5 with fail
      obtain ⟨X, hX⟩ : ∃ X, V.alloc (.cells #[.int .i64 op, .string tx, .int .i64 ty, .slice p3 n3 q3] 85) = X := ⟨_, rfl⟩
      have qX : X.heap[V.heap.size]? = some (.cells #[.int .i64 op, .string tx, .int .i64 ty, .slice p3 n3 q3] 85 (0, 0)) := by rw [← hX]; exact World.alloc_heap_new _ _
      obtain ⟨b5, hb5⟩ : ∃ B, V.heap.size = B := ⟨_, rfl⟩
      rw [hX] at kE gV' ⊢
      rw [hb5] at qX
      (try rw [hb5])
      obtain ⟨f0, f1, f2, f3, ff⟩ := ex_cells qX
      clear k0 k1 k2 k3 ix hX hb5 g1 cV
      go_wp2_with (first
        | (go_at_call 75; (refine kE.mono ?_); rintro e v1 ⟨rfl, g2⟩)
        | fail)
      refine ⟨⟨j + 1, a ++ (tLb ++ T ++ tRb), v1, by go_num, rfl, rfl, pb_call gV'.out g2, ⟨hq2.out, ?_⟩, by omega⟩, by simp [intOf]; omega⟩
      have := hs3.out
      rw [z_app, zc, hna]
      rw [hna, hnT] at this
      omega
    · obtain rfl : j = m := by omega
      have nn : ¬ ((j : Int) < (j : Int)) := by omega
      have hq := hI.out.1
      rw [← hm'.out, Fo.drop_end] at hq
      obtain rfl : a = R := hq
      have g' := gV.out
      clear hI
      go_wp2_with fail
      go_ret
      exact ⟨rfl, g'⟩
end Go.Proofs.YtknoibocpbfmmaaGreatDoor

