/- Right programs weigh little; their texts are short. -/
import Derived.Test.YtknoibocpbfmmaaGreatDoorPeG
namespace Go.Proofs.YtknoibocpbfmmaaGreatDoor
set_option linter.unusedVariables false
set_option linter.unusedSimpArgs false
theorem num_size {s : ByteArray} (h : isNum s = true) : s.size ≤ 8192 := by
  unfold isNum at h
  split at h
  · rename_i hs
    unfold scanL at hs
    split at hs
    · cases hs
    · rename_i c; rw [toL_len] at c; omega
  · cases h
theorem isN_size {s : ByteArray} (h : isN s.toList = true) : s.size ≤ 16 := by
  have := (isN_cases h).2.2.1
  rw [toL_len] at this; exact this
theorem ok_size {op : Int} {tx : ByteArray} {ty : Int} {n : Nat} (h : exOk op tx ty n = true) : tx.size ≤ 8192 := by
  rcases ok_cases h with ⟨_, h, _⟩ | ⟨_, h, _⟩ | ⟨_, h, _⟩ | ⟨_, h, _⟩ | ⟨_, h, _⟩ | ⟨_, h, _⟩
  · exact num_size h
  · have := isN_size h; omega
  · have := isN_size h; omega
  all_goals (rw [h]; exact Nat.zero_le _)
theorem ruF_wt : ∀ (f : Fo) (deep x y : Nat), ruF deep f x = some y → x ≤ y ∧ (x ≤ 2048 → y ≤ 2048) ∧ f.wt ≤ (y - x) * 8212
  | .nil, _, x, y, h => by
    have h' : some x = some y := h
    cases h'
    exact ⟨Nat.le_refl _, id, by simp [Fo.wt]⟩
  | .cons op tx ty ks r, deep, x, y, h => by
    rw [ruF] at h
    obtain ⟨c, h⟩ := oi' h
    simp only [Bool.and_eq_true, decide_eq_true_eq] at c
    obtain ⟨z, h1, h2⟩ := ob' h
    obtain ⟨a1, a2, a3⟩ := ruF_wt ks _ _ _ h1
    obtain ⟨b1, b2, b3⟩ := ruF_wt r _ _ _ h2
    have s := ok_size c.2.2
    refine ⟨by omega, fun _ => b2 (a2 c.1), ?_⟩
    show tx.size + 20 + ks.wt + r.wt ≤ _
    have e : (y - x) * 8212 = 8212 + (z - (x + 1)) * 8212 + (y - z) * 8212 := by
      have : y - x = 1 + (z - (x + 1)) + (y - z) := by omega
      rw [this]; omega
    omega
theorem ruE_wt {deep x y : Nat} {e : Ex} (h : ruE deep e x = some y) : x ≤ y ∧ (x ≤ 2048 → y ≤ 2048) ∧ (e.row .nil).wt ≤ (y - x) * 8212 := ruF_wt _ _ _ _ h
theorem ruB_wt {x y : Nat} {e : Ex} (h : ruB e x = some y) : x ≤ y ∧ (x ≤ 2048 → y ≤ 2048) ∧ (e.row .nil).wt ≤ (y - x) * 8212 := by
  obtain ⟨z, h1, h2⟩ := ob' h
  obtain ⟨_, h2⟩ := oi' h2
  cases h2
  exact ruE_wt h1
theorem exN_wt : (exN.row .nil).wt = 20 := rfl
theorem mul_le {a b c d : Nat} (h1 : a ≤ b) (h2 : b ≤ c) (h3 : c ≤ d) : (d - a) * 8212 = (b - a) * 8212 + (c - b) * 8212 + (d - c) * 8212 := by
  have : d - a = (b - a) + (c - b) + (d - c) := by omega
  rw [this]; omega
/-- What right statements weigh, and how long their text is. -/
theorem ruS_wt : ∀ (f : So) (deep : Nat) (c c' : Nat × Nat), ruS deep f c = some c' → c.1 ≤ c'.1 ∧ (c.1 ≤ 256 → c'.1 ≤ 256) ∧ c.2 ≤ c'.2 ∧ (c.2 ≤ 2048 → c'.2 ≤ 2048) ∧ f.wt ≤ (c'.2 - c.2) * 8212 + (c'.1 - c.1) * 100 ∧
    (deep ≤ 24 → ∀ m : List UInt8, m.length ≤ 2 * deep → (soL m f).length ≤ f.wt + (c'.1 - c.1) * 200)
  | .nil, _, c, c', q => by
    have q' : some c = some c' := q
    cases q'
    exact ⟨Nat.le_refl _, id, Nat.le_refl _, id, Nat.zero_le _, fun _ m _ => Nat.zero_le _⟩
  | .cons d nm ix v l h t e r, deep, c, c', q => by
    rw [ruS] at q
    obtain ⟨pc, q⟩ := oi' q
    obtain ⟨c2, q, qr⟩ := ob' q
    obtain ⟨r1, r2, r3, r4, r5, r6⟩ := ruS_wt r _ _ _ qr
    have zx : ∀ e : Ex, (xL e).length + 2 ≤ (e.row .nil).wt := fun e => by have := exT_size e; exact this
    have zi : ((ixT (foTx ix) tx0).data.toList).length ≤ ix.wt := by
      have a := ix_size (foTx ix) tx0
      have b := fo_size ix
      show (ixT (foTx ix) tx0).size ≤ _
      have : (tx0 : ByteArray).size = 0 := rfl
      omega
    have zj : (ixT (foTx ix) tx0).size ≤ ix.wt := zi
    have main : ∃ x p : Nat, c2.1 = c.1 + 1 + p ∧ c.2 + x = c2.2 ∧ (c.1 + 1 ≤ 256 → c2.1 ≤ 256) ∧ (c.2 ≤ 2048 → c2.2 ≤ 2048) ∧ nm.size + ix.wt + (v.row .nil).wt + (l.row .nil).wt + (h.row .nil).wt + t.wt + e.wt + 1 ≤ x * 8212 + (p + 1) * 100 ∧
        (deep ≤ 24 → ∀ m : List UInt8, m.length ≤ 2 * deep → ((if d = 1 then m ++ (nm.data.toList ++ ((ixT (foTx ix) tx0).data.toList ++ (lEqs ++ (xL v ++ ([59] ++ [10])))))
     else if d = 2 then m ++ (lRd ++ (nm.data.toList ++ (lIn ++ (xL l ++ (lCs ++ (xL h ++ (lEr ++ [10])))))))
     else if d = 3 then m ++ (lIf ++ (xL v ++ (lOp ++ [10]))) ++ (soL (m ++ [32, 32]) t ++ ((if e.len = 0 then [] else m ++ (lEl ++ [10]) ++ soL (m ++ [32, 32]) e) ++ (m ++ ([125] ++ [10]))))
     else if d = 4 then m ++ (lWh ++ (xL v ++ (lOp ++ [10]))) ++ (soL (m ++ [32, 32]) t ++ (m ++ ([125] ++ [10])))
     else []) : List UInt8).length ≤ nm.size + ix.wt + (v.row .nil).wt + (l.row .nil).wt + (h.row .nil).wt + t.wt + e.wt + 1 + (p + 1) * 200) := by
      by_cases d1 : d = 1
      · rw [if_pos d1] at q
        obtain ⟨a, q⟩ := oi' q
        obtain ⟨x, q1, q⟩ := ob' q
        obtain ⟨y, q2, q⟩ := ob' q
        obtain ⟨b, q⟩ := oi' q
        obtain ⟨_, _, _, rfl, rfl, b3, b4⟩ := bare_all b
        simp only [Bool.and_eq_true, decide_eq_true_eq] at a
        obtain rfl := so_len0 b3
        obtain rfl := so_len0 b4
        obtain ⟨u1, u2, u3⟩ := ruF_wt _ _ _ _ q1
        obtain ⟨v1, v2, v3⟩ := ruE_wt q2
        have hn := isN_size a.1
        cases q
        have zv := zx v
        refine ⟨y - c.2, 0, rfl, by show c.2 + (y - c.2) = y; omega, fun h => h, fun h => v2 (u2 h), ?_, fun _ m hm => ?_⟩
        · have e : (y - c.2) * 8212 = (x - c.2) * 8212 + (y - x) * 8212 := by have : y - c.2 = (x - c.2) + (y - x) := by omega
                                                                              rw [this]; omega
          rw [exN_wt]
          show nm.size + ix.wt + (v.row .nil).wt + 20 + 20 + 0 + 0 + 1 ≤ _
          omega
        · rw [if_pos d1]
          simp only [List.length_append]
          have : nm.data.toList.length = nm.size := rfl
          simp
          omega
      rw [if_neg d1] at q
      by_cases d2 : d = 2
      · rw [if_pos d2] at q
        obtain ⟨a, q⟩ := oi' q
        obtain ⟨x, q1, q⟩ := ob' q
        obtain ⟨y, q2, q⟩ := ob' q
        obtain ⟨b, q⟩ := oi' q
        obtain ⟨_, b0, rfl, _, _, b3, b4⟩ := bare_all b
        obtain rfl := len0 b0
        obtain rfl := so_len0 b3
        obtain rfl := so_len0 b4
        obtain ⟨u1, u2, u3⟩ := ruB_wt q1
        obtain ⟨v1, v2, v3⟩ := ruB_wt q2
        have hn := isN_size a
        cases q
        have zv := zx l
        have zw := zx h
        refine ⟨y - c.2, 0, rfl, by show c.2 + (y - c.2) = y; omega, fun h => h, fun h => v2 (u2 h), ?_, fun _ m hm => ?_⟩
        · have e : (y - c.2) * 8212 = (x - c.2) * 8212 + (y - x) * 8212 := by have : y - c.2 = (x - c.2) + (y - x) := by omega
                                                                              rw [this]; omega
          rw [exN_wt]
          show nm.size + 0 + 20 + (l.row .nil).wt + (h.row .nil).wt + 0 + 0 + 1 ≤ _
          omega
        · rw [if_neg d1, if_pos d2]
          simp only [List.length_append]
          have : nm.data.toList.length = nm.size := rfl
          simp
          omega
      rw [if_neg d2] at q
      by_cases d3 : d = 3
      · rw [if_pos d3] at q
        obtain ⟨x, q1, q⟩ := ob' q
        obtain ⟨dd, q⟩ := oi' q
        obtain ⟨y, q2, q⟩ := ob' q
        obtain ⟨z, q3, q⟩ := ob' q
        obtain ⟨b, q⟩ := oi' q
        obtain ⟨rfl, b1, _, rfl, rfl, _⟩ := bare_all b
        obtain rfl := len0 b1
        obtain ⟨v1, v2, v3⟩ := ruE_wt q1
        obtain ⟨t1, t2, t3, t4, t5, t6⟩ := ruS_wt t _ _ _ q2
        obtain ⟨e1, e2, e3, e4, e5, e6⟩ := ruS_wt e _ _ _ q3
        simp only at t1 t2 t3 t4 t5 t6 e1 e2 e3 e4 e5 e6
        cases q
        have zv := zx v
        refine ⟨c2.2 - c.2, c2.1 - (c.1 + 1), by omega, by omega, fun h => e2 (t2 h), fun h => e4 (t4 (v2 h)), ?_, fun hd m hm => ?_⟩
        · have e0 := mul_le v1 t3 e3
          rw [exN_wt]
          show 0 + 0 + (v.row .nil).wt + 20 + 20 + t.wt + e.wt + 1 ≤ _
          omega
        · rw [if_neg d1, if_neg d2, if_pos d3]
          have a1 := t6 dd (m ++ [32, 32]) (by simp; omega)
          have a2 := e6 dd (m ++ [32, 32]) (by simp; omega)
          split
          · simp only [List.length_append]
            simp at a1 a2 ⊢
            have : (0 : Nat) ≤ e.wt := Nat.zero_le _
            omega
          · simp only [List.length_append]
            simp at a1 a2 ⊢
            omega
      rw [if_neg d3] at q
      by_cases d4 : d = 4
      · rw [if_pos d4] at q
        obtain ⟨x, q1, q⟩ := ob' q
        obtain ⟨dd, q⟩ := oi' q
        obtain ⟨y, q2, q⟩ := ob' q
        obtain ⟨b, q⟩ := oi' q
        obtain ⟨rfl, b1, _, rfl, rfl, _, b4⟩ := bare_all b
        obtain rfl := so_len0 b4
        obtain rfl := len0 b1
        obtain ⟨v1, v2, v3⟩ := ruE_wt q1
        obtain ⟨t1, t2, t3, t4, t5, t6⟩ := ruS_wt t _ _ _ q2
        simp only at t1 t2 t3 t4 t5 t6
        cases q
        have zv := zx v
        refine ⟨c2.2 - c.2, c2.1 - (c.1 + 1), by omega, by omega, fun h => t2 h, fun h => t4 (v2 h), ?_, fun hd m hm => ?_⟩
        · have e0 := mul_le v1 t3 (Nat.le_refl c2.2)
          rw [exN_wt]
          show 0 + 0 + (v.row .nil).wt + 20 + 20 + t.wt + 0 + 1 ≤ _
          omega
        · rw [if_neg d1, if_neg d2, if_neg d3, if_pos d4]
          have a1 := t6 dd (m ++ [32, 32]) (by simp; omega)
          simp only [List.length_append]
          simp at a1 ⊢
          omega
      rw [if_neg d4] at q
      cases q
    obtain ⟨x, p, m1, m2, m3, m4, m5, m6⟩ := main
    refine ⟨by omega, fun h => r2 (m3 pc), by omega, fun h => r4 (m4 h), ?_, fun hd m hm => ?_⟩
    · have e1 : (c'.2 - c.2) * 8212 = x * 8212 + (c'.2 - c2.2) * 8212 := by have : c'.2 - c.2 = x + (c'.2 - c2.2) := by omega
                                                                            rw [this]; omega
      show nm.size + ix.wt + (v.row .nil).wt + (l.row .nil).wt + (h.row .nil).wt + t.wt + e.wt + r.wt + 1 ≤ _
      omega
    · have a := m6 hd m hm
      have b := r6 hd m hm
      rw [soL, List.length_append]
      show _ ≤ nm.size + ix.wt + (v.row .nil).wt + (l.row .nil).wt + (h.row .nil).wt + t.wt + e.wt + r.wt + 1 + _
      omega
theorem dc_len {d : Dc} (h : dcOk d = true) : (dcL d).length ≤ 40 := by
  obtain ⟨h1, h2, h3⟩ := dc_all h
  have n16 := (isN_cases h1).2.2.1
  have w := wd_size d.2.1
  have w' : (wdOf d.2.1).data.toList.length ≤ 6 := w
  have c : (celL d.2.2).length ≤ 4 := by
    unfold celL
    split
    · exact Nat.zero_le _
    · unfold digT; split <;> simp
  unfold dcL
  simp
  simp at w' n16 c
  omega
theorem dcs_len : ∀ ds : List Dc, ds.all dcOk = true → (ds.flatMap dcL).length ≤ ds.length * 40
  | [], _ => Nat.le_refl _
  | d :: ds, h => by
    rw [List.all_cons, Bool.and_eq_true] at h
    have a := dc_len h.1
    have b := dcs_len ds h.2
    rw [List.flatMap_cons, List.length_append, List.length_cons]
    omega
/-- Right programs are small. -/
theorem pg_small {p : Pg} {c : Nat × Nat} (h : ruP p = some c) : p.2.wt ≤ 20000000 ∧ (pgL p).length ≤ 30000000 := by
  obtain ⟨h1, h2, _⟩ := ru_parts h
  unfold ruP at h
  obtain ⟨_, h⟩ := oi' h
  unfold ruK at h
  rw [if_pos (by decide)] at h
  obtain ⟨a1, a2, a3, a4, a5, a6⟩ := ruS_wt _ _ _ _ h
  have b1 := a2 (by decide)
  have b2 := a4 (by decide)
  have b3 := a6 (by decide) [] (by decide)
  have b4 := dcs_len p.1 h2
  simp only at a5 b3
  unfold pgL
  rw [List.length_append]
  omega
end Go.Proofs.YtknoibocpbfmmaaGreatDoor

