/- Digits of base 16 of every number; conv.Hex of every float. -/
import Derived.Test.YtfdinlomlcnjnaaDoorConvLv
namespace Go.Proofs.YtfdinlomlcnjnaaDoor
open Go.RowKit
set_option linter.unusedVariables false
set_option linter.unusedSimpArgs false
/-- A digit of base 16, as a byte. -/
def hxd (d : Nat) : Nat := if d < 10 then 48 + d else 87 + d
/-- A row of bytes in memory. -/
def RowY (w : World) (b n : Nat) (f : Nat → Nat) : Prop := ∀ i, i < n → w.cell? ⟨b, i, none⟩ = some (.int .u8 (f i))
def RowG (w : World) (b n : Nat) : Prop := ∀ i, i < n → w.frozen? ⟨b, i, none⟩ = false
theorem RowY.set {w : World} {b n : Nat} {f : Nat → Nat} (h : RowY w b n f) (k v : Nat) (hk : k < n) : RowY (w.setCell ⟨b, k, none⟩ (.int .u8 v)) b n (fun i => if i = k then v else f i) := by
  intro i hi
  by_cases c : i = k
  · subst c
    have := h i hi
    simp [go_sem, this]
  · have := h i hi
    simp [go_sem, c, this]
theorem RowG.set {w : World} {b n : Nat} (h : RowG w b n) (a : Addr) (v : Value) : RowG (w.setCell a v) b n := by
  intro i hi
  have := h i hi
  simpa [go_sem] using this
theorem row_zero (w : World) : RowY (w.alloc (.cells Tryd.zeroCells144 144)) w.heap.size 65 (fun _ => 0) := by
  intro i hi
  have e : Tryd.zeroCells144 = Array.replicate 65 (.int .u8 0) := by rfl
  rw [e]
  simp [go_sem, hi]
theorem row_free (w : World) : RowG (w.alloc (.cells Tryd.zeroCells144 144)) w.heap.size 65 := by
  intro i hi
  simp [go_sem]
/-- What stands behind place t: U's lowest digits. -/
def hxf (U t : Nat) : Nat → Nat := fun i => if t < i then hxd (U / 16 ^ (64 - i) % 16) else 0
theorem hxf_step (U t : Nat) (ht : t ≤ 64) : (fun i => if i = t then hxd (U / 16 ^ (64 - t) % 16) else hxf U t i) = fun i => if t ≤ i then hxd (U / 16 ^ (64 - i) % 16) else 0 := by
  funext i
  unfold hxf
  by_cases c : i = t
  · subst c; simp
  · rw [if_neg c]
    by_cases d : t < i
    · rw [if_pos d, if_pos (by omega)]
    · rw [if_neg d, if_neg (by omega)]
/-- n digits. -/
def hexL (U n : Nat) : List UInt8 := (List.range n).map (fun j => UInt8.ofNat (hxd (U / 16 ^ (n - 1 - j) % 16)))
theorem hxd_lt (d : Nat) (h : d < 16) : hxd d < 256 := by unfold hxd; split <;> omega
def hexDS : ByteArray := ⟨#[48, 49, 50, 51, 52, 53, 54, 55, 56, 57, 97, 98, 99, 100, 101, 102, 103, 104, 105, 106, 107, 108, 109, 110, 111, 112, 113, 114, 115, 116, 117, 118, 119, 120, 121, 122]⟩
theorem hexDS_get (d : Nat) (h : d < 16) (h' : d < hexDS.size) : (hexDS[d]'h').toNat = hxd d := by
  have : ∀ d : _root_.Fin 16, (hexDS[d.val]'(Nat.lt_of_lt_of_le d.isLt (by decide))).toNat = hxd d.val := by decide +kernel
  exact this ⟨d, h⟩
theorem arr65_len : Tryd.prog.arrayLen 144 = 65 := by kernel_rfl
theorem arr65_elem : Tryd.prog.elem 144 = 5 := by kernel_rfl
set_option maxRecDepth 1000000 in
set_option maxHeartbeats 3200000 in
theorem fbN (U : Nat) (hU : U < 18446744073709551616) (w : World) (h : w.cell? ⟨5, 15, none⟩ = some (.int .u8 4)) :
    Calls Tryd.prog 106 #[.slice none 0 0, .int .u64 (U : Int), .int .i64 16, .bool false, .bool false] w fun e w' => ∃ n, 1 ≤ n ∧ n ≤ 16 ∧ U < 16 ^ n ∧ (n = 1 ∨ 16 ^ (n - 1) ≤ U) ∧ e = .returned (.tuple #[.slice none 0 0, .string ⟨(hexL U n).toArray⟩]) ∧ Below w.heap.size w w' := by
  have h2 : ∀ o, (w.alloc o).cell? ⟨5, 15, none⟩ = some (.int .u8 4) := fun o => cell_past h o
  go_enter Tryd.func106, Tryd.ntmps106
  go_wp2_with (first
    | (go_at_call 115; refine (pow16 _).mono ?_; rintro e w1 ⟨rfl, hw⟩; rw [hw]; clear hw w1)
    | (go_at_call 116; refine (tz16 _ (h2 _)).mono ?_; rintro e w1 ⟨rfl, hw⟩; rw [hw]; clear hw w1)
    | fail)
  go_loopw [1, 13] (fun u i wr => ∃ k t : Nat, k + t = 64 ∧ k ≤ 15 ∧ (k = 0 ∨ 16 ^ k ≤ U) ∧ u = .int .u64 ((U / 16 ^ k : Nat) : Int) ∧ i = .int .i64 ((t : Int) + 1) ∧ RowY wr w.heap.size 65 (hxf U t) ∧ RowG wr w.heap.size 65 ∧ w.heap.size < wr.heap.size ∧ Below w.heap.size w wr) (fun _ i _ => (intOf i).toNat)
  case atStart =>
    refine ⟨0, 64, rfl, by omega, Or.inl rfl, by simp, rfl, ?_, row_free w, by simp, below_new (Below.refl _ _) _⟩
    intro i hi
    have := row_zero w i hi
    rw [this]
    unfold hxf
    rw [if_neg (by omega)]
  case round =>
    obtain ⟨k, t, hkt, hk, hmin, rfl, rfl, hrow, hfree, s0, L⟩ := hrel
    have t1 : t < 65 := by omega
    have go := hrow t t1
    have ho := hfree t t1
    obtain ⟨u, hu⟩ : ∃ u : Nat, U / 16 ^ k = u := ⟨_, rfl⟩
    rw [hu]
    have ul : u < 18446744073709551616 := by rw [← hu]; exact Nat.lt_of_le_of_lt (Nat.div_le_self _ _) hU
    have ul' : (u : Int) < 18446744073709551616 := by omega
    have u0 : (0 : Int) ≤ (u : Int) := by omega
    have ti : (t : Int) < 65 := by omega
    by_cases c : 16 ≤ u
    · have c' : (16 : Int) ≤ (u : Int) := by omega
      have n1 : bits BinOp.and IntKind.u64 (u : Int) 15 = ((u % 16 : Nat) : Int) := (and_bits u 4 15 rfl (by decide) _ (by omega) (by omega)).trans (by rfl)
      have d1 : ((u % 16 : Nat) : Int) < 36 := by omega
      have d0 : (0 : Int) ≤ ((u % 16 : Nat) : Int) := by omega
      generalize hd : u % 16 = d at *
      have e16 : u / 16 = U / 16 ^ (k + 1) := by rw [← hu, Nat.pow_succ, ← Nat.div_div_eq_div_mul]
      have E16 : Hid _ := e16
      have k15 : k + 1 ≤ 15 := by
        by_cases q : k + 1 ≤ 15
        · exact q
        · exfalso
          have : k = 15 := by omega
          subst this
          have := Nat.div_lt_of_lt_mul (show U < 16 ^ 15 * 16 from hU)
          omega
      have HD : Hid (hxd d = hxd (U / 16 ^ (64 - t) % 16)) := by
        show hxd d = hxd (U / 16 ^ (64 - t) % 16)
        rw [show 64 - t = k by omega, hu, hd]
      have dl : d < 16 := by omega
      have MIN : Hid (k + 1 = 0 ∨ 16 ^ (k + 1) ≤ U) := by
        right
        rw [Nat.pow_succ, Nat.mul_comm]
        exact (Nat.le_div_iff_mul_le (Nat.pow_pos (by decide))).1 (by rw [hu]; exact c)
      have GD : Hid (∀ h', (hexDS[d]'h').toNat = hxd d) := fun h' => hexDS_get d dl h'
      clear e16 hd hu hmin
      go_wp2_with fail
      go_roundw
      case rel =>
        refine ⟨k + 1, t - 1, by omega, k15, MIN.out, by rw [← E16.out]; rfl, by congr 1; omega, ?_, hfree.set _ _, by simpa using s0, L.setCell (by simp) _⟩
        have r := hrow.set t (hxd d) t1
        rw [HD.out, hxf_step U t (by omega)] at r
        have e : (fun i => if t ≤ i then hxd (U / 16 ^ (64 - i) % 16) else 0) = hxf U (t - 1) := by
          funext i
          unfold hxf
          by_cases q : t ≤ i
          · rw [if_pos q, if_pos (by omega)]
          · rw [if_neg q, if_neg (by omega)]
        rw [e, ← HD.out, ← GD.out (by show d < 36; omega)] at r
        exact r
      case measure => simp [intOf]
    · have c' : (u : Int) < 16 := by omega
      have d1 : (u : Int) < 36 := by omega
      obtain ⟨n, hn⟩ : ∃ n : Nat, 65 - t = n := ⟨_, rfl⟩
      have hsl : ∀ W : World, (Instr.sliceAt 144 (.pointer (some ⟨w.heap.size, 0, none⟩)) (some (.int .i64 (t : Int))) none none).run Tryd.prog W = .ok (.slice (some ⟨w.heap.size, t, none⟩) n n) W := fun W => by
        have q := run_sliceAt_array_l (P := Tryd.prog) W 144 ⟨w.heap.size, 0, none⟩ (by kernel_rfl) .i64 (t : Int) (by omega) (by rw [arr65_len]; omega)
        rw [q, arr65_len, arr65_elem]
        have e : (65 : Nat) ≠ t := by omega
        have e0 : ¬ t = 0 := by omega
        simp [slicedAt, go_sem, e, e0, hn, Addr.add]
      have hrow2 := hrow.set t (hxd u) t1
      have eq : (fun i => if i = t then hxd u else hxf U t i) = fun i => if t ≤ i then hxd (U / 16 ^ (64 - i) % 16) else 0 := by
        rw [← hxf_step U t (by omega), show 64 - t = k by omega, hu, Nat.mod_eq_of_lt (by omega : u < 16)]
      rw [eq] at hrow2
      have UG : Hid (∀ h', (hexDS[u]'h').toNat = hxd u) := fun h' => hexDS_get u (by omega) h'
      have hcv : ∀ W : World, RowY W w.heap.size 65 (fun i => if t ≤ i then hxd (U / 16 ^ (64 - i) % 16) else 0) → (convert 69 9 (.slice (some ⟨w.heap.size, t, none⟩) n n)).run Tryd.prog W = .ok (.string ⟨(hexL U n).toArray⟩) W := fun W hr => by
        have q := run_convert_bytes_back (P := Tryd.prog) W 69 9 5 ⟨w.heap.size, t, none⟩ n (hexL U n) Tryd.underlying69 Tryd.underlying5 Tryd.underlying9 (fun j hj => by
          have lj : j < n := by simpa [hexL] using hj
          have r := hr (t + j) (by omega)
          have ea : (Addr.add ⟨w.heap.size, t, none⟩ j) = ⟨w.heap.size, t + j, none⟩ := by simp [Addr.add]
          have x : (hexL U n)[j] = UInt8.ofNat (hxd (U / 16 ^ (n - 1 - j) % 16)) := by simp [hexL]
          rw [x, ea]
          dsimp only at r
          rw [if_pos (by omega), show 64 - (t + j) = n - 1 - j by omega] at r
          refine r.trans ?_
          have l := hxd_lt (U / 16 ^ (n - 1 - j) % 16) (Nat.mod_lt _ (by decide))
          congr 2
          rw [UInt8.toNat_ofNat', Nat.mod_eq_of_lt l])
        have ln : (hexL U n).length = n := by simp [hexL]
        rw [ln] at q
        exact q
      have FIN : Hid (1 ≤ n ∧ n ≤ 16 ∧ U < 16 ^ n ∧ (n = 1 ∨ 16 ^ (n - 1) ≤ U)) := by
        have e : n = k + 1 := by omega
        refine ⟨by omega, by omega, ?_, by rw [e, Nat.add_sub_cancel]; rcases hmin with q | q; exact Or.inl (by omega); exact Or.inr q⟩
        rw [e, Nat.pow_succ]
        have p : 0 < 16 ^ k := Nat.pow_pos (by decide)
        have := Nat.lt_mul_div_succ U p
        rw [hu] at this
        exact Nat.lt_of_lt_of_le this (Nat.mul_le_mul_left _ (by omega))
      have HR : Hid _ := hrow2
      have u36 : u < 36 := by omega
      have U36 : Hid _ := u36
      clear hu c ul hkt hk ul' hrow2 eq hn u36 hmin
      go_wp2_with fail
      rw [hcv _ (by have r := HR.out; rw [← UG.out U36.out] at r; exact r)]
      clear hcv hsl
      go_wp2_with fail
      refine bodyPost_ret (v := .tuple #[.slice none 0 0, .string ⟨(hexL U n).toArray⟩]) (by simp [results, Tryd.results106, go_sem]) rfl ?_
      exact ⟨n, FIN.out.1, FIN.out.2.1, FIN.out.2.2.1, FIN.out.2.2.2, rfl, L.setCell (by simp) _⟩
theorem fuN (U : Nat) (hU : U < 18446744073709551616) (w : World) (h : w.cell? ⟨5, 15, none⟩ = some (.int .u8 4)) :
    Calls Tryd.prog 65 #[.int .u64 (U : Int), .int .i64 16] w fun e w' => ∃ n, 1 ≤ n ∧ n ≤ 16 ∧ U < 16 ^ n ∧ (n = 1 ∨ 16 ^ (n - 1) ≤ U) ∧ e = .returned (.string ⟨(hexL U n).toArray⟩) ∧ Below w.heap.size w w' := by
  have hf := fbN U hU w h
  have u0 : (0 : Int) ≤ (U : Int) := by omega
  go_enter Tryd.func65, Tryd.ntmps65
  go_wp2_with (first
    | (go_at_call 106; refine hf.mono ?_; rintro e w1 ⟨n, n1, n2, n3, n4, rfl, hw⟩)
    | go_in)
  go_ret
  exact ⟨n, n1, n2, n3, n4, rfl, hw⟩
theorem hexL_len (U n : Nat) : (hexL U n).length = n := by simp [hexL]
theorem hexL_get (U n j : Nat) (h : j < (hexL U n).length) : (hexL U n)[j] = UInt8.ofNat (hxd (U / 16 ^ (n - 1 - j) % 16)) := by simp [hexL]
theorem hexL_pad (A n W : Nat) (h : A < 16 ^ n) (hn : n ≤ W) : List.replicate (W - n) 48 ++ hexL A n = hexL A W := by
  apply List.ext_getElem
  · simp [hexL_len]; omega
  · intro j h1 h2
    rw [hexL_get]
    rw [hexL_len] at h2
    by_cases c : j < W - n
    · rw [List.getElem_append_left (by simpa using c), List.getElem_replicate]
      have z : A / 16 ^ (W - 1 - j) = 0 := Nat.div_eq_of_lt (Nat.lt_of_lt_of_le h (Nat.pow_le_pow_right (by decide) (by omega)))
      rw [z]
      rfl
    · rw [List.getElem_append_right (by simpa using c), hexL_get]
      simp only [List.length_replicate]
      rw [show n - 1 - (j - (W - n)) = W - 1 - j by omega]
theorem hexL_cons (A k : Nat) : hexL A (k + 1) = UInt8.ofNat (hxd (A / 16 ^ k % 16)) :: hexL A k := by
  apply List.ext_getElem
  · simp [hexL_len]
  · intro j h1 h2
    rw [hexL_get]
    cases j with
    | zero => simp
    | succ i =>
      rw [List.getElem_cons_succ, hexL_get, show k + 1 - 1 - (i + 1) = k - 1 - i by omega]
theorem hxd_inj {x y : Nat} (hx : x < 16) (hy : y < 16) (h : UInt8.ofNat (hxd x) = UInt8.ofNat (hxd y)) : x = y := by
  have e := congrArg UInt8.toNat h
  rw [UInt8.toNat_ofNat', UInt8.toNat_ofNat', Nat.mod_eq_of_lt (hxd_lt x hx), Nat.mod_eq_of_lt (hxd_lt y hy)] at e
  unfold hxd at e
  split at e <;> split at e <;> omega
theorem hexL_inj (n : Nat) : ∀ (A B : Nat), A < 16 ^ n → B < 16 ^ n → hexL A n = hexL B n → A = B := by
  induction n with
  | zero => intro A B a b _; rw [Nat.pow_zero] at a b; omega
  | succ k ih =>
    intro A B a b e
    rw [hexL_cons, hexL_cons] at e
    have e1 := List.cons.inj e
    have p : 0 < 16 ^ k := Nat.pow_pos (by decide)
    have la : A / 16 ^ k < 16 := Nat.div_lt_of_lt_mul (by rw [← Nat.pow_succ]; exact a)
    have lb : B / 16 ^ k < 16 := Nat.div_lt_of_lt_mul (by rw [← Nat.pow_succ]; exact b)
    have t := hxd_inj (Nat.mod_lt _ (by decide)) (Nat.mod_lt _ (by decide)) e1.1
    rw [Nat.mod_eq_of_lt la, Nat.mod_eq_of_lt lb] at t
    have m : hexL (A % 16 ^ k) k = hexL (B % 16 ^ k) k := by
      have g : ∀ C : Nat, hexL (C % 16 ^ k) k = hexL C k := fun C => by
        apply List.ext_getElem
        · simp [hexL_len]
        · intro j h1 h2
          rw [hexL_get, hexL_get]
          rw [hexL_len] at h2
          congr 2
          obtain ⟨i, hi⟩ : ∃ i, k = (k - 1 - j) + 1 + i := ⟨j, by omega⟩
          have s1 : 16 ^ k = 16 ^ (k - 1 - j) * (16 * 16 ^ i) := by
            rw [← Nat.mul_assoc, ← Nat.pow_succ, ← Nat.pow_add, ← hi]
          rw [s1, Nat.mod_mul_right_div_self, Nat.mod_mul_right_mod]
      rw [g, g]
      exact e1.2
    have q := ih _ _ (Nat.mod_lt _ p) (Nat.mod_lt _ p) m
    have d1 := Nat.div_add_mod A (16 ^ k)
    have d2 := Nat.div_add_mod B (16 ^ k)
    rw [t, q] at d1
    omega
end Go.Proofs.YtfdinlomlcnjnaaDoor

