/- conv.Literal of digits, a point and digits. -/
import Derived.Test.YtfbkiklopeebdaaConvLi
namespace Go.Proofs.Ytfbkiklopeebdaa
open Go.RowKit
set_option linter.unusedVariables false
set_option linter.unusedSimpArgs false
/-- n digits as a text. -/
def digL (f : Nat → Nat) (n : Nat) : List UInt8 := (List.range n).map (fun j => UInt8.ofNat (48 + f j))
def digS (f : Nat → Nat) (n : Nat) : ByteArray := ⟨(digL f n).toArray⟩
theorem digL_len (f : Nat → Nat) (n : Nat) : (digL f n).length = n := by simp [digL]
theorem digL_get (f : Nat → Nat) (n j : Nat) (hf : ∀ j, f j ≤ 9) (h : j < (digL f n).length) : ((digL f n)[j]).toNat = 48 + f j := by
  have := hf j
  simp [digL, UInt8.toNat_ofNat']
  omega
theorem digS_size (f : Nat → Nat) (n : Nat) : (digS f n).size = n := by
  show (digL f n).toArray.size = n
  simp [digL_len]
theorem digS_get (f : Nat → Nat) (n j : Nat) (hf : ∀ j, f j ≤ 9) (h : j < (digS f n).size) : ((digS f n)[j]'h).toNat = 48 + f j := by
  rw [digS_size] at h
  exact digL_get f n j hf (by rw [digL_len]; exact h)
theorem infoY : (Try.prog.info? 5).map (fun i => (i.zero, i.size, i.bytes)) = some (some (.int .u8 0), 1, 1) := by kernel_rfl
theorem infoY_parts {α β γ : Type} {o : Option TypeInfo} {z : Option Value} {a b : Nat} (h : o.map (fun i => (i.zero, i.size, i.bytes)) = some (z, a, b)) : ∃ i, o = some i ∧ i.zero = z ∧ i.size = a ∧ i.bytes = b := by
  cases o with
  | none => simp at h
  | some i => simp at h; exact ⟨i, rfl, h.1, h.2.1, h.2.2⟩
set_option maxRecDepth 1000000 in
set_option maxHeartbeats 6400000 in
theorem literal_any (fm : Int) (s : ByteArray) (p m : Nat) (f : Nat → Nat) (hf : ∀ j, f j ≤ 9) (hs : s.size = p + 1 + m) (hp : 1 ≤ p) (hm : 1 ≤ m) (hl : p + m ≤ 18)
    (h1 : ∀ j (h : j < s.size), j < p → (s[j]'h).toNat = 48 + f j) (h2 : ∀ h : p < s.size, (s[p]'h).toNat = 46) (h3 : ∀ j (h : p + 1 + j < s.size), (s[p + 1 + j]'h).toNat = 48 + f (p + j)) (w : World) :
    Calls Try.prog 5 #[.int .i64 fm, .string s] w fun e w' => e = .returned (.tuple #[.int .u64 (decT (fm == 1) (dN f (p + m)) m), .int .i64 0]) ∧ Below w.heap.size w w' := by
  have hd0 := digitsOf_any s p (by omega) (by omega) (fun j h hj => by unfold DigB; have := h1 j h hj; have := hf j; omega) (fun h => by unfold DigB; have := h2 h; omega)
  obtain ⟨s2, hs2⟩ : ∃ s2, s.extract (p + 1) s.size = s2 := ⟨_, rfl⟩
  have z2 : s2.size = m := by rw [← hs2, ByteArray.size_extract]; omega
  have g2 : ∀ j (h : j < s2.size), (s2[j]'h).toNat = 48 + f (p + j) := fun j h => by
    subst hs2
    rw [ByteArray.getElem_extract]
    exact h3 j (by omega)
  have hd1 := digitsOf_any s2 m (by omega) (by omega) (fun j h hj => by unfold DigB; have := g2 j h; have := hf (p + j); omega) (fun h => by omega)
  have hcu := cutOut_any s p m hs hm hp (by omega)
  have hnu := number_any (digS f (p + m)) f hf (by rw [digS_size]; exact hl) (fun j h => digS_get f _ j hf h)
  rw [digS_size] at hnu
  have nl : dN f (p + m) < 18446744073709551616 := by
    have a := dN_lt f hf (p + m)
    have b : (10 : Nat) ^ (p + m) ≤ 10 ^ 18 := Nat.pow_le_pow_right (by decide) hl
    have c : (10 : Nat) ^ 18 = 1000000000000000000 := rfl
    omega
  have hde := decimal_any fm (dN f (p + m)) m nl (by omega)
  generalize decT (fm == 1) (dN f (p + m)) m = R at *
  generalize dN f (p + m) = N at *
  have i0 : ((p : Int) == 0) = false := by simp; omega
  have pl : p < s.size := by omega
  have li : (p : Int) < (s.size : Int) := by omega
  have at_p := h2 pl
  have hex : s.extract (p + 1) (p + 1 + m) = s2 := by rw [← hs]; exact hs2
  have e7 : ((p : Int) + 1 == (p : Int) + 1 + (m : Int)) = false := by simp; omega
  have e8 : (p : Int) + 1 + (m : Int) - (p : Int) - 1 = m := by omega
  have e9 : (p : Int) + 1 + (m : Int) - 1 ≤ 18 := by omega
  obtain ⟨i5, hi, hz0, hz1, hz2⟩ := infoY_parts (α := Unit) (β := Unit) (γ := Unit) infoY
  go_enter Try.func5, Try.ntmps5
  go_wp2_with fail
  refine wp_scope_jumps (rest := restOf Try.f5) 0 (fun _ _ => False) (fun _ _ => 0) (by kernel_rfl) ?_ (fun a w' hJ => hJ.elim)
  go_wp2_with fail
  refine (hd0 _).mono ?_
  rintro e w1 ⟨rfl, b1⟩
  go_wp2_with fail
  refine (hd1 _).mono ?_
  rintro e w2 ⟨rfl, b2⟩
  go_wp2_with fail
  refine (hcu _).mono ?_
  rintro e w3 ⟨rfl, cells, sz3, b3⟩
  have L3 := below_callC (below_callC b1 b2) b3
  have co : ∀ j u, ((List.range p).map (fun j => Value.int .u8 ((48 + f j : Nat) : Int)))[j]? = some u → w3.cell? ⟨w2.heap.size, 0 + j, none⟩ = some u := fun j u hj => by
    rw [List.getElem?_map] at hj
    by_cases q : j < p
    · rw [List.getElem?_range q] at hj
      have t := cells j (by omega)
      rw [h1 j (by omega) q] at t
      rw [Nat.zero_add, t]
      exact hj
    · rw [List.getElem?_eq_none (by simp; omega)] at hj
      cases hj
  have cn : ∀ j u, ((List.range m).map (fun j => Value.int .u8 ((48 + f (p + j) : Nat) : Int)))[j]? = some u → w3.cell? (Addr.add ⟨w2.heap.size, p + 1, none⟩ j) = some u := fun j u hj => by
    rw [List.getElem?_map] at hj
    by_cases q : j < m
    · rw [List.getElem?_range q] at hj
      have t := cells (p + 1 + j) (by omega)
      rw [h3 j (by omega)] at t
      have ea : (Addr.add ⟨w2.heap.size, p + 1, none⟩ j) = ⟨w2.heap.size, p + 1 + j, none⟩ := by simp [Addr.add]
      rw [ea, t]
      exact hj
    · rw [List.getElem?_eq_none (by simp; omega)] at hj
      cases hj
  have CO : Hid _ := co
  have CN : Hid _ := cn
  clear co cn cells h1 h3
  go_wp2_with (first
    | (at_builtin; refine wpList_append_arg _ rfl _ _ 40 rfl 5 i5 (.int .u8 0) 1 1 Try.underlying40 hi hz0 hz1 hz2 rfl (by decide) w2.heap.size 0 p p ((List.range p).map (fun j => Value.int .u8 ((48 + f j : Nat) : Int))) rfl ?c1 CO.out ⟨w2.heap.size, p + 1, none⟩ m m ((List.range m).map (fun j => Value.int .u8 ((48 + f (p + j) : Nat) : Int))) rfl ?c3 CN.out ?c5 ?c6 ?c7 ?c8 ?c9 ?c10)
    | fail)
  case c1 => simp
  case c3 => simp
  case c5 =>
    intro u hu
    simp at hu
    obtain ⟨i, _, rfl⟩ := hu
    rfl
  case c6 => intro q; omega
  case c7 => unfold maxLen; omega
  case c8 => omega
  case c9 => intro q; omega
  case c10 =>
    intro _ v' w4 own grown
    have L4 : Below w.heap.size w w4 := L3.grown grown L3.size (fun k hk => by cases hk)
    obtain ⟨ol, oc⟩ := id own
    rcases oc with ⟨_, z⟩ | ⟨g, cap, cur, rfl, _, hg, _⟩
    · omega
    · have at_j : ∀ j, j < p + m → w4.cell? ⟨g, j, none⟩ = some (.int .u8 ((48 + f j : Nat) : Int)) := fun j hj => by
        rw [own.cellAt j (by omega)]
        by_cases q : j < p
        · rw [List.getElem?_append_left (by simpa using q), List.getElem?_map, List.getElem?_range q]
          rfl
        · rw [List.getElem?_append_right (by simp; omega), List.length_map, List.length_range, List.getElem?_map, List.getElem?_range (by omega)]
          simp only [Option.map_some]
          rw [show p + (j - p) = j by omega]
          simp
      have hcv : ∀ W : World, (∀ j, j < p + m → W.cell? ⟨g, j, none⟩ = some (.int .u8 ((48 + f j : Nat) : Int))) → (convert 40 9 (.slice (some ⟨g, 0, none⟩) (p + m) cap)).run Try.prog W = .ok (.string (digS f (p + m))) W := fun W hW => by
        have q := run_convert_bytes_back (P := Try.prog) W 40 9 5 ⟨g, 0, none⟩ cap (digL f (p + m)) Try.underlying40 Try.underlying5 Try.underlying9 (fun j hj => by
          have lj : j < p + m := by rw [digL_len] at hj; exact hj
          have ea : (Addr.add ⟨g, 0, none⟩ j) = ⟨g, j, none⟩ := by simp [Addr.add]; omega
          rw [ea, hW j lj, digL_get f _ j hf hj])
        rw [digL_len] at q
        exact q
      have AT : Hid _ := at_j
      clear at_j own ol hg CO CN grown hcu hd0 hd1
      generalize digS f (p + m) = D at *
      go_wp2_with fail
      rw [hcv _ AT.out]
      clear hcv
      go_wp2_with (first
        | (go_at_call 12; refine (hnu _).mono ?_; rintro e w5 ⟨rfl, b5⟩)
        | (go_at_call 11; refine (hde _).mono ?_; rintro e w6 ⟨rfl, b6⟩)
        | fail)
      refine jump_ret (bodyPost_ret (v := .tuple #[.int .u64 R, .int .i64 0]) (by simp [results, Try.results5, go_sem]) rfl ?_)
      exact ⟨rfl, below_callC (below_callC L4 b5) b6⟩
end Go.Proofs.Ytfbkiklopeebdaa

