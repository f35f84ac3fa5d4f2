/- conv.Hex of every float. -/
import Derived.Test.YtfdinlomlcnjnaaDoorConvHx
namespace Go.Proofs.YtfdinlomlcnjnaaDoor
open Go.RowKit
set_option linter.unusedVariables false
set_option linter.unusedSimpArgs false
theorem rep48 (c : Nat) : Lib.repeatL [48] c = List.replicate c 48 := by
  induction c with
  | zero => rfl
  | succ k ih => unfold Lib.repeatL; rw [ih]; rfl
/-- The bits that Hex tells: those of the Nan for what is no float. -/
def hexA (s : Bool) (a : Int) : Int := if cls s a = 0 then fNan s else a
def hexW (s : Bool) : Nat := if s then 8 else 16
theorem hexA_ok (s : Bool) (a : Int) (h : Word a) : ∃ A : Nat, hexA s a = (A : Int) ∧ A < 16 ^ hexW s ∧ A < 18446744073709551616 := by
  unfold hexA
  by_cases c : cls s a = 0
  · rw [if_pos c]
    cases s
    · exact ⟨9221120237041090560, rfl, by decide, by decide⟩
    · exact ⟨2143289344, rfl, by decide, by decide⟩
  · rw [if_neg c]
    have h1 := h.1
    have h2 := h.2
    refine ⟨a.toNat, by omega, ?_, by omega⟩
    cases s
    · show a.toNat < 18446744073709551616
      omega
    · have w : wideB true a = false := by
        cases q : wideB true a
        · rfl
        · exfalso; apply c; unfold cls; rw [q]; rfl
      unfold wideB at w
      simp at w
      show a.toNat < 4294967296
      omega
theorem hex_join (A n W c : Nat) (h : A < 16 ^ n) (hn : n ≤ W) (hc : c = W - n) : (⟨(Lib.repeatL [48] c).toArray⟩ : ByteArray) ++ ⟨(hexL A n).toArray⟩ = ⟨(hexL A W).toArray⟩ := by
  rw [rep48, hc, ← hexL_pad A n W h hn]
  apply ByteArray.ext
  simp
theorem field_true (w : World) : (Instr.field 79 (.agg #[.int .i64 32, .int .i64 23, .int .i64 (-149)]) 0).run Tryd.prog w = .ok (.int .i64 32) w := by kernel_rfl
set_option maxRecDepth 100000 in
set_option maxHeartbeats 3200000 in
theorem hex_true (f a : Int) (hf : (f == 1) = true) (h1 : Word a) (w : World) (h : w.cell? ⟨5, 15, none⟩ = some (.int .u8 4)) : Calls Tryd.prog 32 #[.int .i64 f, .int .u64 a] w fun e w' => e = .returned (.string ⟨(hexL (hexA true a).toNat 8).toArray⟩) ∧ Below w.heap.size w w' := by
  have hfw := field_true
  have hcl := class_fl f a h1
  have hna := nan_fl f
  obtain ⟨A, eA, lA, uA⟩ := hexA_ok true a h1
  rw [hf] at hcl hna
  have hsh : ∀ w, Calls Tryd.prog 58 #[.int .i64 f] w fun e w' => e = .returned (.agg #[.int .i64 32, .int .i64 23, .int .i64 (-149)]) ∧ ∃ o1, w' = w.alloc o1 := by
    have t := shapeOf_ex f
    rw [hf] at t
    exact t
  have lA' : A < 16 ^ 8 := lA
  have hfu := fun (w : World) h => fuN A uA w h
  have hrp : ∀ (c : Nat) (w : World), c ≤ 16 → Calls Tryd.prog 66 #[.string ⟨#[48]⟩, .int .i64 c] w fun e w' => e = .returned (.string ⟨(Lib.repeatL [48] c).toArray⟩) ∧ Below w.heap.size w w' := fun c w hc => Tryd.strings_Repeat ⟨#[48]⟩ c w (by omega) (by show 1 * c ≤ 140737488355328; omega)
  rw [eA, Int.toNat_natCast]
  unfold hexA at eA
  by_cases c0 : cls true a = 0
  · rw [if_pos c0] at eA
    rw [c0] at hcl
    rw [eA] at hna
    clear eA c0 lA uA
    go_enter Tryd.func32, Tryd.ntmps32
    go_wp2_with (first
      | (go_at_call 64; refine (hcl _).mono ?_; rintro e wa ⟨rfl, ba⟩; have ha := cell_on ba h)
      | (go_at_call 35; refine (hna _).mono ?_; rintro e wn ⟨rfl, bn⟩; replace ha := cell_on bn ha)
      | (go_at_call 65; refine (hfu _ ha).mono ?_; rintro e wb ⟨n, n1, n2, n3, n4, rfl, bb⟩)
      | fail)
    have nW : n ≤ 8 := by
      rcases n4 with q | q
      · omega
      · by_cases z : n ≤ 8
        · exact z
        · exfalso
          have : 16 ^ 8 ≤ 16 ^ (n - 1) := Nat.pow_le_pow_right (by decide) (by omega)
          omega
    obtain ⟨c, hc⟩ : ∃ c : Nat, c = 8 - n := ⟨_, rfl⟩
    have hci : (8 : Int) - (n : Int) = (c : Int) := by omega
    have J := hex_join A n 8 c n3 nW hc
    have sz : (⟨(hexL A n).toArray⟩ : ByteArray).size = n := by show (hexL A n).toArray.size = n; simp [hexL_len]
    generalize (⟨(hexL A n).toArray⟩ : ByteArray) = D at *
    have rz : (⟨(Lib.repeatL [48] c).toArray⟩ : ByteArray).size = c := by rw [rep48]; show (List.replicate c (48 : UInt8)).toArray.size = c; simp
    have hs2 : c + n ≤ 9223372036854775807 := by omega
    have hr := hrp c
    generalize (⟨(Lib.repeatL [48] c).toArray⟩ : ByteArray) = R at *
    obtain ⟨X, hX⟩ : ∃ X : ByteArray, ⟨(hexL A 8).toArray⟩ = X := ⟨_, rfl⟩
    rw [hX] at J
    have HX : Hid _ := hX
    clear hX
    have hr' := fun w => hr w (by omega)
    clear hr hrp hfu n1 n2 n3 n4 lA' hc
    go_wp2_with (first
      | (go_at_call 58; refine (hsh _).mono ?_; rintro e wc ⟨rfl, o1, rfl⟩)
      | (go_at_call 66; refine (hr' _).mono ?_; rintro e wd ⟨rfl, bd⟩)
      | fail)
    go_ret
    exact ⟨congrArg (fun s => Ending.returned (Value.string s)) HX.out.symm, below_callC (below_new (below_callC (below_callC ba bn) bb) o1) bd⟩
  · rw [if_neg c0] at eA
    have c1 : (cls true a == 0) = false := by simp [c0]
    generalize cls true a = k at *
    subst eA
    clear c0 lA uA h1
    go_enter Tryd.func32, Tryd.ntmps32
    go_wp2_with (first
      | (go_at_call 64; refine (hcl _).mono ?_; rintro e wa ⟨rfl, ba⟩; have ha := cell_on ba h)
      | (go_at_call 65; refine (hfu _ ha).mono ?_; rintro e wb ⟨n, n1, n2, n3, n4, rfl, bb⟩)
      | fail)
    have nW : n ≤ 8 := by
      rcases n4 with q | q
      · omega
      · by_cases z : n ≤ 8
        · exact z
        · exfalso
          have : 16 ^ 8 ≤ 16 ^ (n - 1) := Nat.pow_le_pow_right (by decide) (by omega)
          omega
    obtain ⟨c, hc⟩ : ∃ c : Nat, c = 8 - n := ⟨_, rfl⟩
    have hci : (8 : Int) - (n : Int) = (c : Int) := by omega
    have J := hex_join A n 8 c n3 nW hc
    have sz : (⟨(hexL A n).toArray⟩ : ByteArray).size = n := by show (hexL A n).toArray.size = n; simp [hexL_len]
    generalize (⟨(hexL A n).toArray⟩ : ByteArray) = D at *
    have rz : (⟨(Lib.repeatL [48] c).toArray⟩ : ByteArray).size = c := by rw [rep48]; show (List.replicate c (48 : UInt8)).toArray.size = c; simp
    have hs2 : c + n ≤ 9223372036854775807 := by omega
    have hr := hrp c
    generalize (⟨(Lib.repeatL [48] c).toArray⟩ : ByteArray) = R at *
    obtain ⟨X, hX⟩ : ∃ X : ByteArray, ⟨(hexL A 8).toArray⟩ = X := ⟨_, rfl⟩
    rw [hX] at J
    have HX : Hid _ := hX
    clear hX
    have hr' := fun w => hr w (by omega)
    clear hr hrp hfu n1 n2 n3 n4 lA' hc
    go_wp2_with (first
      | (go_at_call 58; refine (hsh _).mono ?_; rintro e wc ⟨rfl, o1, rfl⟩)
      | (go_at_call 66; refine (hr' _).mono ?_; rintro e wd ⟨rfl, bd⟩)
      | fail)
    go_ret
    exact ⟨congrArg (fun s => Ending.returned (Value.string s)) HX.out.symm, below_callC (below_new (below_callC ba bb) o1) bd⟩
theorem field_false (w : World) : (Instr.field 79 (.agg #[.int .i64 64, .int .i64 52, .int .i64 (-1074)]) 0).run Tryd.prog w = .ok (.int .i64 64) w := by kernel_rfl
set_option maxRecDepth 100000 in
set_option maxHeartbeats 3200000 in
theorem hex_false (f a : Int) (hf : (f == 1) = false) (h1 : Word a) (w : World) (h : w.cell? ⟨5, 15, none⟩ = some (.int .u8 4)) : Calls Tryd.prog 32 #[.int .i64 f, .int .u64 a] w fun e w' => e = .returned (.string ⟨(hexL (hexA false a).toNat 16).toArray⟩) ∧ Below w.heap.size w w' := by
  have hfw := field_false
  have hcl := class_fl f a h1
  have hna := nan_fl f
  obtain ⟨A, eA, lA, uA⟩ := hexA_ok false a h1
  rw [hf] at hcl hna
  have hsh : ∀ w, Calls Tryd.prog 58 #[.int .i64 f] w fun e w' => e = .returned (.agg #[.int .i64 64, .int .i64 52, .int .i64 (-1074)]) ∧ ∃ o1, w' = w.alloc o1 := by
    have t := shapeOf_ex f
    rw [hf] at t
    exact t
  have lA' : A < 16 ^ 16 := lA
  have hfu := fun (w : World) h => fuN A uA w h
  have hrp : ∀ (c : Nat) (w : World), c ≤ 16 → Calls Tryd.prog 66 #[.string ⟨#[48]⟩, .int .i64 c] w fun e w' => e = .returned (.string ⟨(Lib.repeatL [48] c).toArray⟩) ∧ Below w.heap.size w w' := fun c w hc => Tryd.strings_Repeat ⟨#[48]⟩ c w (by omega) (by show 1 * c ≤ 140737488355328; omega)
  rw [eA, Int.toNat_natCast]
  unfold hexA at eA
  by_cases c0 : cls false a = 0
  · rw [if_pos c0] at eA
    rw [c0] at hcl
    rw [eA] at hna
    clear eA c0 lA uA
    go_enter Tryd.func32, Tryd.ntmps32
    go_wp2_with (first
      | (go_at_call 64; refine (hcl _).mono ?_; rintro e wa ⟨rfl, ba⟩; have ha := cell_on ba h)
      | (go_at_call 35; refine (hna _).mono ?_; rintro e wn ⟨rfl, bn⟩; replace ha := cell_on bn ha)
      | (go_at_call 65; refine (hfu _ ha).mono ?_; rintro e wb ⟨n, n1, n2, n3, n4, rfl, bb⟩)
      | fail)
    have nW : n ≤ 16 := by
      rcases n4 with q | q
      · omega
      · by_cases z : n ≤ 16
        · exact z
        · exfalso
          have : 16 ^ 16 ≤ 16 ^ (n - 1) := Nat.pow_le_pow_right (by decide) (by omega)
          omega
    obtain ⟨c, hc⟩ : ∃ c : Nat, c = 16 - n := ⟨_, rfl⟩
    have hci : (16 : Int) - (n : Int) = (c : Int) := by omega
    have J := hex_join A n 16 c n3 nW hc
    have sz : (⟨(hexL A n).toArray⟩ : ByteArray).size = n := by show (hexL A n).toArray.size = n; simp [hexL_len]
    generalize (⟨(hexL A n).toArray⟩ : ByteArray) = D at *
    have rz : (⟨(Lib.repeatL [48] c).toArray⟩ : ByteArray).size = c := by rw [rep48]; show (List.replicate c (48 : UInt8)).toArray.size = c; simp
    have hs2 : c + n ≤ 9223372036854775807 := by omega
    have hr := hrp c
    generalize (⟨(Lib.repeatL [48] c).toArray⟩ : ByteArray) = R at *
    obtain ⟨X, hX⟩ : ∃ X : ByteArray, ⟨(hexL A 16).toArray⟩ = X := ⟨_, rfl⟩
    rw [hX] at J
    have HX : Hid _ := hX
    clear hX
    have hr' := fun w => hr w (by omega)
    clear hr hrp hfu n1 n2 n3 n4 lA' hc
    go_wp2_with (first
      | (go_at_call 58; refine (hsh _).mono ?_; rintro e wc ⟨rfl, o1, rfl⟩)
      | (go_at_call 66; refine (hr' _).mono ?_; rintro e wd ⟨rfl, bd⟩)
      | fail)
    go_ret
    exact ⟨congrArg (fun s => Ending.returned (Value.string s)) HX.out.symm, below_callC (below_new (below_callC (below_callC ba bn) bb) o1) bd⟩
  · rw [if_neg c0] at eA
    have c1 : (cls false a == 0) = false := by simp [c0]
    generalize cls false a = k at *
    subst eA
    clear c0 lA uA h1
    go_enter Tryd.func32, Tryd.ntmps32
    go_wp2_with (first
      | (go_at_call 64; refine (hcl _).mono ?_; rintro e wa ⟨rfl, ba⟩; have ha := cell_on ba h)
      | (go_at_call 65; refine (hfu _ ha).mono ?_; rintro e wb ⟨n, n1, n2, n3, n4, rfl, bb⟩)
      | fail)
    have nW : n ≤ 16 := by
      rcases n4 with q | q
      · omega
      · by_cases z : n ≤ 16
        · exact z
        · exfalso
          have : 16 ^ 16 ≤ 16 ^ (n - 1) := Nat.pow_le_pow_right (by decide) (by omega)
          omega
    obtain ⟨c, hc⟩ : ∃ c : Nat, c = 16 - n := ⟨_, rfl⟩
    have hci : (16 : Int) - (n : Int) = (c : Int) := by omega
    have J := hex_join A n 16 c n3 nW hc
    have sz : (⟨(hexL A n).toArray⟩ : ByteArray).size = n := by show (hexL A n).toArray.size = n; simp [hexL_len]
    generalize (⟨(hexL A n).toArray⟩ : ByteArray) = D at *
    have rz : (⟨(Lib.repeatL [48] c).toArray⟩ : ByteArray).size = c := by rw [rep48]; show (List.replicate c (48 : UInt8)).toArray.size = c; simp
    have hs2 : c + n ≤ 9223372036854775807 := by omega
    have hr := hrp c
    generalize (⟨(Lib.repeatL [48] c).toArray⟩ : ByteArray) = R at *
    obtain ⟨X, hX⟩ : ∃ X : ByteArray, ⟨(hexL A 16).toArray⟩ = X := ⟨_, rfl⟩
    rw [hX] at J
    have HX : Hid _ := hX
    clear hX
    have hr' := fun w => hr w (by omega)
    clear hr hrp hfu n1 n2 n3 n4 lA' hc
    go_wp2_with (first
      | (go_at_call 58; refine (hsh _).mono ?_; rintro e wc ⟨rfl, o1, rfl⟩)
      | (go_at_call 66; refine (hr' _).mono ?_; rintro e wd ⟨rfl, bd⟩)
      | fail)
    go_ret
    exact ⟨congrArg (fun s => Ending.returned (Value.string s)) HX.out.symm, below_callC (below_new (below_callC ba bb) o1) bd⟩
theorem hex_any (f a : Int) (h1 : Word a) (w : World) (h : w.cell? ⟨5, 15, none⟩ = some (.int .u8 4)) : Calls Tryd.prog 32 #[.int .i64 f, .int .u64 a] w fun e w' => e = .returned (.string ⟨(hexL (hexA (f == 1) a).toNat (hexW (f == 1))).toArray⟩) ∧ Below w.heap.size w w' := by
  cases c : (f == 1)
  · exact hex_false f a c h1 w h
  · exact hex_true f a c h1 w h
end Go.Proofs.YtfdinlomlcnjnaaDoor

