/- A number's digits, as plumblinelaw04 writes them. -/
import Derived.Test.YtldolcfgfmfiiaaFxL
import Derived.Deep.RegionHeld3
namespace Go.Proofs.Ytldolcfgfmfiiaa
open Go.RowKit
set_option linter.unusedVariables false
set_option linter.unusedSimpArgs false
def digL (f : Nat → Nat) (n : Nat) : List UInt8 := (List.range n).map (fun j => UInt8.ofNat (48 + f j))
def digS (f : Nat → Nat) (n : Nat) : ByteArray := ⟨(digL f n).toArray⟩
theorem digL_len (f : Nat → Nat) (n : Nat) : (digL f n).length = n := by simp [digL]
theorem digL_get (f : Nat → Nat) (n j : Nat) (hf : ∀ j, f j ≤ 9) (h : j < (digL f n).length) : ((digL f n)[j]).toNat = 48 + f j := by
  have := hf j
  simp [digL, UInt8.toNat_ofNat']
  omega
theorem digS_size (f : Nat → Nat) (n : Nat) : (digS f n).size = n := by
  show (digL f n).toArray.size = n
  simp [digL_len]
theorem digS_get (f : Nat → Nat) (n j : Nat) (hf : ∀ j, f j ≤ 9) (h : j < (digS f n).size) : ((digS f n)[j]'h).toNat = 48 + f j := by
  rw [digS_size] at h
  exact digL_get f n j hf (by rw [digL_len]; exact h)
/-- What digits say: the first q of them. -/
def dN (f : Nat → Nat) : Nat → Nat
  | 0 => 0
  | q + 1 => 10 * dN f q + f q
theorem dN_lt (f : Nat → Nat) (h : ∀ j, f j ≤ 9) : ∀ q, dN f q < 10 ^ q
  | 0 => by simp [dN]
  | q + 1 => by
    have := dN_lt f h q
    have := h q
    simp only [dN]
    rw [Nat.pow_succ]
    omega
theorem dN_ext {f g : Nat → Nat} : ∀ q, (∀ j, j < q → f j = g j) → dN f q = dN g q
  | 0, _ => rfl
  | q + 1, h => by simp only [dN]; rw [dN_ext q (fun j hj => h j (by omega)), h q (by omega)]
theorem digS_snoc (F : Nat → Nat) (k d : Nat) (hF : ∀ j, F j ≤ 9) (hd : d ≤ 9) : digS F k ++ ⟨#[UInt8.ofNat (48 + d)]⟩ = digS (fun j => if j < k then F j else d) (k + 1) := by
  unfold digS digL
  apply ByteArray.ext
  simp only [ByteArray.data_append]
  apply Array.ext'
  simp only [Array.toList_append, List.range_succ, List.map_append, List.map_cons, List.map_nil]
  congr 1
  · apply List.map_congr_left
    intro j hj
    rw [if_pos (List.mem_range.1 hj)]
  · simp
set_option maxRecDepth 100000 in
set_option maxHeartbeats 3200000 in
theorem one_digit (n : Nat) (hn : n < 10) (w : World) :
    Calls Try.prog 20 #[.int .i64 n] w fun e w' => e = .returned (.string (digS (fun _ => n) 1)) ∧ Below w.heap.size w w' := by
  have i1 : (n : Int) < 10 := by omega
  have E1 : Hid ((⟨#[48 + UInt8.ofNat n]⟩ : ByteArray) = digS (fun _ => n) 1) := by
    show (⟨#[48 + UInt8.ofNat n]⟩ : ByteArray) = digS (fun _ => n) 1
    have q : UInt8.ofNat (48 + n) = 48 + UInt8.ofNat n := UInt8.ofNat_add 48 n
    rw [← q]
    rfl
  have hcv : ∀ (W : World) (b : Nat), W.cell? ⟨b, 0, none⟩ = some (.int .u8 ((48 + n : Nat) : Int)) → (convert 48 9 (.slice (some ⟨b, 0, none⟩) 1 1)).run Try.prog W = .ok (.string ⟨#[UInt8.ofNat (48 + n)]⟩) W := fun W b hb =>
    run_convert_bytes_back (P := Try.prog) W 48 9 5 ⟨b, 0, none⟩ 1 [UInt8.ofNat (48 + n)] Try.underlying48 Try.underlying5 Try.underlying9 (fun j hj => by
      have : j = 0 := by simpa using hj
      subst this
      refine hb.trans ?_
      simp [UInt8.toNat_ofNat']
      omega)
  have HN : Hid _ := hn
  clear hn
  go_enter Try.func20, Try.ntmps20
  go_wp2_with fail
  go_ret
  exact ⟨congrArg (fun s => Ending.returned (Value.string s)) E1.out, below_new (Below.refl _ _) _⟩
set_option maxRecDepth 100000 in
set_option maxHeartbeats 3200000 in
theorem digits_any (b : Nat) : ∀ (n : Nat), n < 10 ^ (b + 1) → b ≤ 16 → ∀ w : World, Calls Try.prog 20 #[.int .i64 n] w fun e w' => ∃ (k : Nat) (F : Nat → Nat), 1 ≤ k ∧ k ≤ b + 1 ∧ (∀ j, F j ≤ 9) ∧ dN F k = n ∧ e = .returned (.string (digS F k)) ∧ Below w.heap.size w w' := by
  induction b with
  | zero =>
    intro n hn _ w
    have l : n < 10 := by simpa using hn
    exact (one_digit n l w).mono fun e w' ⟨h1, h2⟩ => ⟨1, fun _ => n, by omega, by omega, fun _ => by show n ≤ 9; omega, by simp [dN], h1, h2⟩
  | succ b ih =>
    intro n hn hb w
    by_cases l : n < 10
    · exact (one_digit n l w).mono fun e w' ⟨h1, h2⟩ => ⟨1, fun _ => n, by omega, by omega, fun _ => by show n ≤ 9; omega, by simp [dN], h1, h2⟩
    · have hr := ih (n / 10) (by rw [Nat.pow_succ] at hn; omega) (by omega)
      have big : n < 1000000000000000000 := Nat.lt_of_lt_of_le hn (Nat.le_trans (Nat.pow_le_pow_right (by decide) (show b + 1 + 1 ≤ 18 by omega)) (by decide))
      obtain ⟨d, hd⟩ : ∃ d : Nat, n % 10 = d := ⟨_, rfl⟩
      have dl : d ≤ 9 := by omega
      have e1 : (n : Int) / 10 = ((n / 10 : Nat) : Int) := by omega
      have e2 : (n : Int) % 10 = (d : Int) := by omega
      have e1' : (n : Int).tdiv 10 = ((n / 10 : Nat) : Int) := by rw [Int.tdiv_eq_ediv_of_nonneg (by omega), e1]
      have e2' : (n : Int).tmod 10 = (d : Int) := by rw [Int.tmod_eq_emod_of_nonneg (by omega), e2]
      have i1 : (10 : Int) ≤ (n : Int) := by omega
      obtain ⟨m, hm⟩ : ∃ m : Nat, n / 10 = m := ⟨_, rfl⟩
      rw [hm] at e1 e1' hr
      have V : Hid (n = 10 * m + d) := by show n = 10 * m + d; omega
      have hcv : ∀ (W : World) (b : Nat), W.cell? ⟨b, 0, none⟩ = some (.int .u8 ((48 + d : Nat) : Int)) → (convert 48 9 (.slice (some ⟨b, 0, none⟩) 1 1)).run Try.prog W = .ok (.string ⟨#[UInt8.ofNat (48 + d)]⟩) W := fun W b hb =>
        run_convert_bytes_back (P := Try.prog) W 48 9 5 ⟨b, 0, none⟩ 1 [UInt8.ofNat (48 + d)] Try.underlying48 Try.underlying5 Try.underlying9 (fun j hj => by
          have : j = 0 := by simpa using hj
          subst this
          refine hb.trans ?_
          simp [UInt8.toNat_ofNat']
          omega)
      have di : (d : Int) ≤ 9 := by omega
      have wm : IntKind.i64.wrap (m : Int) = m := by rw [IntKind.wrap_i64]; omega
      have wd : IntKind.i64.wrap (48 + (d : Int)) = 48 + d := by rw [IntKind.wrap_i64]; omega
      have wd8 : IntKind.u8.wrap (48 + (d : Int)) = 48 + d := by simp [IntKind.wrap, IntKind.bits, IntKind.signed]; omega
      have DL : Hid _ := dl
      clear hm hd ih hn l big dl
      go_enter Try.func20, Try.ntmps20
      go_wp2_with fail
      refine wp_region_held_drew (S := fun _ => True) (by kernel_rfl) trivial (fun hHeld => ?_)
      refine wpAnyH_take (i := 0) (oi := _) (v := .int .i64 (n : Int)) rfl (by kernel_rfl) (by kernel_rfl) (by kernel_rfl) (fun _ _ _ h => h) (Or.inl ⟨by rfl, fun w' _ => by go_simp⟩) trivial ?_
      simp only [Act.put, List.getElem_toArray, List.getElem_cons_zero, List.getElem_cons_succ, List.setIfInBounds_toArray, List.set_cons_zero, List.set_cons_succ]
      refine wpAnyH_take (i := 1) (oi := _) (v := .int .i64 (m : Int)) rfl (by kernel_rfl) (by kernel_rfl) (by kernel_rfl) (fun _ _ _ h => h) (Or.inl ⟨by rfl, fun w' _ => by go_simp⟩) trivial ?_
      simp only [Act.put, List.getElem_toArray, List.getElem_cons_zero, List.getElem_cons_succ, List.setIfInBounds_toArray, List.set_cons_zero, List.set_cons_succ]
      refine wpAnyH_take (i := 3) (oi := _) (v := .int .i64 (n : Int)) rfl (by kernel_rfl) (by kernel_rfl) (by kernel_rfl) (fun _ _ _ h => h) (Or.inl ⟨by rfl, fun w' _ => by go_simp⟩) trivial ?_
      simp only [Act.put, List.getElem_toArray, List.getElem_cons_zero, List.getElem_cons_succ, List.setIfInBounds_toArray, List.set_cons_zero, List.set_cons_succ]
      refine wpAnyH_take (i := 4) (oi := _) (v := .int .i64 (d : Int)) rfl (by kernel_rfl) (by kernel_rfl) (by kernel_rfl) (fun _ _ _ h => h) (Or.inl ⟨by rfl, fun w' _ => by go_simp⟩) trivial ?_
      simp only [Act.put, List.getElem_toArray, List.getElem_cons_zero, List.getElem_cons_succ, List.setIfInBounds_toArray, List.set_cons_zero, List.set_cons_succ]
      refine wpAnyH_take (i := 5) (oi := _) (v := .int .i64 (48 + (d : Int))) rfl (by kernel_rfl) (by kernel_rfl) (by kernel_rfl) (fun _ _ _ h => h) (Or.inl ⟨by rfl, fun w' _ => by go_simp⟩) trivial ?_
      simp only [Act.put, List.getElem_toArray, List.getElem_cons_zero, List.getElem_cons_succ, List.setIfInBounds_toArray, List.set_cons_zero, List.set_cons_succ]
      refine wpAnyH_take (i := 6) (oi := _) (v := .int .u8 (48 + (d : Int))) rfl (by kernel_rfl) (by kernel_rfl) (by kernel_rfl) (fun _ _ _ h => h) (Or.inl ⟨by rfl, fun w' _ => by go_simp⟩) trivial ?_
      simp only [Act.put, List.getElem_toArray, List.getElem_cons_zero, List.getElem_cons_succ, List.setIfInBounds_toArray, List.set_cons_zero, List.set_cons_succ]
      refine wpAnyH_ready (rs := [2, 7]) (by kernel_rfl) (by simp) (AllReadyH.cons (o := _) rfl (fun K hK => ?_) (AllReadyH.cons (o := _) rfl (fun K hK => ?_) AllReadyH.nil))
      · skip
        go_simp
        refine (hr _).mono ?_
        rintro e w1 ⟨k, F, k1, k2, hF, hN, rfl, b1⟩
        go_wp2_with fail
        refine hK.out _ _ trivial (fun _ => ?_)
        clear hK K
        first | simp only [Act.put, List.getElem_toArray, List.getElem_cons_zero, List.getElem_cons_succ, List.setIfInBounds_toArray, List.set_cons_zero, List.set_cons_succ] | skip
        refine wpAnyH_ready (rs := [7]) (by kernel_rfl) (by simp) (AllReadyH.cons (o := _) rfl (fun K hK => ?_) AllReadyH.nil)
        go_simp
        refine hK.out _ _ trivial (fun _ => ?_)
        clear hK K
        first | simp only [Act.put, List.getElem_toArray, List.getElem_cons_zero, List.getElem_cons_succ, List.setIfInBounds_toArray, List.set_cons_zero, List.set_cons_succ] | skip
        refine wpAnyH_ready (rs := [8]) (by kernel_rfl) (by simp) (AllReadyH.cons (o := _) rfl (fun K hK => ?_) AllReadyH.nil)
        go_simp
        first | (rw [hcv _ _ (by first | exact g1 | (simp [go_sem]; done))]; go_simp) | skip
        refine hK.out _ _ trivial (fun _ => ?_)
        clear hK K
        first | simp only [Act.put, List.getElem_toArray, List.getElem_cons_zero, List.getElem_cons_succ, List.setIfInBounds_toArray, List.set_cons_zero, List.set_cons_succ] | skip
        have zF := digS_size F k
        have J : digS F k ++ ⟨#[48 + UInt8.ofNat d]⟩ = digS (fun j => if j < k then F j else d) (k + 1) := by
          have q := digS_snoc F k d hF DL.out
          rw [show UInt8.ofNat (48 + d) = 48 + UInt8.ofNat d from UInt8.ofNat_add 48 d] at q
          exact q
        have z1 : (⟨#[48 + UInt8.ofNat d]⟩ : ByteArray).size = 1 := rfl
        have lim : k + 1 ≤ 9223372036854775807 := by omega
        have HF : Hid _ := hF
        have HN : Hid _ := hN
        obtain ⟨X, hX⟩ : ∃ X, digS (fun j => if j < k then F j else d) (k + 1) = X := ⟨_, rfl⟩
        rw [hX] at J
        have HX : Hid _ := hX
        generalize digS F k = D at *
        generalize (⟨#[48 + UInt8.ofNat d]⟩ : ByteArray) = E at *
        clear hX hF hN hcv hr
        refine wpAnyH_take (i := 9) (oi := _) (v := .string X) rfl (by kernel_rfl) (by kernel_rfl) (by kernel_rfl) (fun _ _ _ h => h) (Or.inl ⟨by rfl, fun w' _ => by go_simp⟩) trivial ?_
        simp only [Act.put, List.getElem_toArray, List.getElem_cons_zero, List.getElem_cons_succ, List.setIfInBounds_toArray, List.set_cons_zero, List.set_cons_succ]
        refine wpAnyH_take (i := 10) (oi := _) (v := .string X) rfl (by kernel_rfl) (by kernel_rfl) (by kernel_rfl) (fun _ _ _ h => h) (Or.inl ⟨by rfl, fun w' _ => by go_simp⟩) trivial ?_
        simp only [Act.put, List.getElem_toArray, List.getElem_cons_zero, List.getElem_cons_succ, List.setIfInBounds_toArray, List.set_cons_zero, List.set_cons_succ]
        refine wpAnyH_done (by kernel_rfl) ?_ _
        go_wp2_with fail
        go_ret
        refine ⟨k + 1, fun j => if j < k then F j else d, by omega, by omega, fun j => ?_, ?_, congrArg (fun s => Ending.returned (Value.string s)) HX.out.symm, below_new (below_call (Below.refl _ _).drew b1) _⟩
        · by_cases q : j < k
          · simp only [q, if_true]; exact HF.out j
          · simp only [q, if_false]; exact DL.out
        · show 10 * dN (fun j => if j < k then F j else d) k + (if k < k then F k else d) = n
          rw [dN_ext (g := F) k (fun j hj => by simp only [hj, if_true]), if_neg (by omega), HN.out]
          exact V.out.symm
      · skip
        go_simp
        refine hK.out _ _ trivial (fun _ => ?_)
        clear hK K
        first | simp only [Act.put, List.getElem_toArray, List.getElem_cons_zero, List.getElem_cons_succ, List.setIfInBounds_toArray, List.set_cons_zero, List.set_cons_succ] | skip
        refine wpAnyH_ready (rs := [2, 8]) (by kernel_rfl) (by simp) (AllReadyH.cons (o := _) rfl (fun K hK => ?_) (AllReadyH.cons (o := _) rfl (fun K hK => ?_) AllReadyH.nil))
        · skip
          go_simp
          refine (hr _).mono ?_
          rintro e w1 ⟨k, F, k1, k2, hF, hN, rfl, b1⟩
          have g1 := cell_on b1 (a := ⟨w.heap.size, 0, none⟩) (v := .int .u8 (48 + (d : Int))) (by simp [go_sem])
          go_wp2_with fail
          refine hK.out _ _ trivial (fun _ => ?_)
          clear hK K
          first | simp only [Act.put, List.getElem_toArray, List.getElem_cons_zero, List.getElem_cons_succ, List.setIfInBounds_toArray, List.set_cons_zero, List.set_cons_succ] | skip
          refine wpAnyH_ready (rs := [8]) (by kernel_rfl) (by simp) (AllReadyH.cons (o := _) rfl (fun K hK => ?_) AllReadyH.nil)
          go_simp
          first | (rw [hcv _ _ (by first | exact g1 | (simp [go_sem]; done))]; go_simp) | skip
          refine hK.out _ _ trivial (fun _ => ?_)
          clear hK K
          first | simp only [Act.put, List.getElem_toArray, List.getElem_cons_zero, List.getElem_cons_succ, List.setIfInBounds_toArray, List.set_cons_zero, List.set_cons_succ] | skip
          have zF := digS_size F k
          have J : digS F k ++ ⟨#[48 + UInt8.ofNat d]⟩ = digS (fun j => if j < k then F j else d) (k + 1) := by
            have q := digS_snoc F k d hF DL.out
            rw [show UInt8.ofNat (48 + d) = 48 + UInt8.ofNat d from UInt8.ofNat_add 48 d] at q
            exact q
          have z1 : (⟨#[48 + UInt8.ofNat d]⟩ : ByteArray).size = 1 := rfl
          have lim : k + 1 ≤ 9223372036854775807 := by omega
          have HF : Hid _ := hF
          have HN : Hid _ := hN
          obtain ⟨X, hX⟩ : ∃ X, digS (fun j => if j < k then F j else d) (k + 1) = X := ⟨_, rfl⟩
          rw [hX] at J
          have HX : Hid _ := hX
          generalize digS F k = D at *
          generalize (⟨#[48 + UInt8.ofNat d]⟩ : ByteArray) = E at *
          clear hX hF hN hcv hr
          refine wpAnyH_take (i := 9) (oi := _) (v := .string X) rfl (by kernel_rfl) (by kernel_rfl) (by kernel_rfl) (fun _ _ _ h => h) (Or.inl ⟨by rfl, fun w' _ => by go_simp⟩) trivial ?_
          simp only [Act.put, List.getElem_toArray, List.getElem_cons_zero, List.getElem_cons_succ, List.setIfInBounds_toArray, List.set_cons_zero, List.set_cons_succ]
          refine wpAnyH_take (i := 10) (oi := _) (v := .string X) rfl (by kernel_rfl) (by kernel_rfl) (by kernel_rfl) (fun _ _ _ h => h) (Or.inl ⟨by rfl, fun w' _ => by go_simp⟩) trivial ?_
          simp only [Act.put, List.getElem_toArray, List.getElem_cons_zero, List.getElem_cons_succ, List.setIfInBounds_toArray, List.set_cons_zero, List.set_cons_succ]
          refine wpAnyH_done (by kernel_rfl) ?_ _
          go_wp2_with fail
          go_ret
          refine ⟨k + 1, fun j => if j < k then F j else d, by omega, by omega, fun j => ?_, ?_, congrArg (fun s => Ending.returned (Value.string s)) HX.out.symm, below_call (below_new (Below.refl _ _).drew _) b1⟩
          · by_cases q : j < k
            · simp only [q, if_true]; exact HF.out j
            · simp only [q, if_false]; exact DL.out
          · show 10 * dN (fun j => if j < k then F j else d) k + (if k < k then F k else d) = n
            rw [dN_ext (g := F) k (fun j hj => by simp only [hj, if_true]), if_neg (by omega), HN.out]
            exact V.out.symm
        · skip
          go_simp
          first | (rw [hcv _ _ (by first | exact g1 | (simp [go_sem]; done))]; go_simp) | skip
          refine hK.out _ _ trivial (fun _ => ?_)
          clear hK K
          first | simp only [Act.put, List.getElem_toArray, List.getElem_cons_zero, List.getElem_cons_succ, List.setIfInBounds_toArray, List.set_cons_zero, List.set_cons_succ] | skip
          refine wpAnyH_ready (rs := [2]) (by kernel_rfl) (by simp) (AllReadyH.cons (o := _) rfl (fun K hK => ?_) AllReadyH.nil)
          go_simp
          refine (hr _).mono ?_
          rintro e w1 ⟨k, F, k1, k2, hF, hN, rfl, b1⟩
          go_wp2_with fail
          refine hK.out _ _ trivial (fun _ => ?_)
          clear hK K
          first | simp only [Act.put, List.getElem_toArray, List.getElem_cons_zero, List.getElem_cons_succ, List.setIfInBounds_toArray, List.set_cons_zero, List.set_cons_succ] | skip
          have zF := digS_size F k
          have J : digS F k ++ ⟨#[48 + UInt8.ofNat d]⟩ = digS (fun j => if j < k then F j else d) (k + 1) := by
            have q := digS_snoc F k d hF DL.out
            rw [show UInt8.ofNat (48 + d) = 48 + UInt8.ofNat d from UInt8.ofNat_add 48 d] at q
            exact q
          have z1 : (⟨#[48 + UInt8.ofNat d]⟩ : ByteArray).size = 1 := rfl
          have lim : k + 1 ≤ 9223372036854775807 := by omega
          have HF : Hid _ := hF
          have HN : Hid _ := hN
          obtain ⟨X, hX⟩ : ∃ X, digS (fun j => if j < k then F j else d) (k + 1) = X := ⟨_, rfl⟩
          rw [hX] at J
          have HX : Hid _ := hX
          generalize digS F k = D at *
          generalize (⟨#[48 + UInt8.ofNat d]⟩ : ByteArray) = E at *
          clear hX hF hN hcv hr
          refine wpAnyH_take (i := 9) (oi := _) (v := .string X) rfl (by kernel_rfl) (by kernel_rfl) (by kernel_rfl) (fun _ _ _ h => h) (Or.inl ⟨by rfl, fun w' _ => by go_simp⟩) trivial ?_
          simp only [Act.put, List.getElem_toArray, List.getElem_cons_zero, List.getElem_cons_succ, List.setIfInBounds_toArray, List.set_cons_zero, List.set_cons_succ]
          refine wpAnyH_take (i := 10) (oi := _) (v := .string X) rfl (by kernel_rfl) (by kernel_rfl) (by kernel_rfl) (fun _ _ _ h => h) (Or.inl ⟨by rfl, fun w' _ => by go_simp⟩) trivial ?_
          simp only [Act.put, List.getElem_toArray, List.getElem_cons_zero, List.getElem_cons_succ, List.setIfInBounds_toArray, List.set_cons_zero, List.set_cons_succ]
          refine wpAnyH_done (by kernel_rfl) ?_ _
          go_wp2_with fail
          go_ret
          refine ⟨k + 1, fun j => if j < k then F j else d, by omega, by omega, fun j => ?_, ?_, congrArg (fun s => Ending.returned (Value.string s)) HX.out.symm, below_call (below_new (Below.refl _ _).drew _) b1⟩
          · by_cases q : j < k
            · simp only [q, if_true]; exact HF.out j
            · simp only [q, if_false]; exact DL.out
          · show 10 * dN (fun j => if j < k then F j else d) k + (if k < k then F k else d) = n
            rw [dN_ext (g := F) k (fun j hj => by simp only [hj, if_true]), if_neg (by omega), HN.out]
            exact V.out.symm
end Go.Proofs.Ytldolcfgfmfiiaa
