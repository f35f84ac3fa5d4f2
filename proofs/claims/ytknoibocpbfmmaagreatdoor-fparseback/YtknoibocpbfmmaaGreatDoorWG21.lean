/- Texts of the proof, put together. -/
import Derived.Test.YtknoibocpbfmmaaGreatDoorWPeG
import Derived.Test.YtknoibocpbfmmaaGreatDoorWPbS
namespace Go.Proofs.YtknoibocpbfmmaaGreatDoor
set_option linter.unusedVariables false
set_option linter.unusedSimpArgs false
theorem num_size {s : ByteArray} (h : isNum s = true) : s.size ≤ 8192 := by
 unfold isNum at h
 split at h
 ·rename_i hs
  unfold scanL at hs
  split at hs
  ·cases hs
  ·rename_i c; rw [toL_len] at c; omega
 ·cases h
theorem isN_size {s : ByteArray} (h : isN s.toList = true) : s.size ≤ 16 := by
 have := (isN_cases h).2.2.1
 rw [toL_len] at this; exact this
theorem ok_size {op : Int} {tx : ByteArray} {ty : Int} {n : Nat} (h : exOk op tx ty n = true) : tx.size ≤ 8192 := by
 rcases ok_cases h with ⟨_, h, _⟩ | ⟨_, h, _⟩ | ⟨_, h, _⟩ | ⟨_, h, _⟩ | ⟨_, h, _⟩ | ⟨_, h, _⟩
 ·exact num_size h
 ·have := isN_size h; omega
 ·have := isN_size h; omega
 all_goals (rw [h]; exact Nat.zero_le _)
theorem ruF_wt : ∀ (f : Fo) (deep x y : Nat), ruF deep f x = some y → x ≤ y ∧ (x ≤ 2048 → y ≤ 2048) ∧ f.wt ≤ (y - x) * 8212
 | .nil, _, x, y, h => by
  have h' : some x = some y := h
  cases h'
  exact ⟨Nat.le_refl _, id, by simp [Fo.wt]⟩
 | .cons op tx ty ks r, deep, x, y, h => by
  rw [ruF] at h
  obtain ⟨c, h⟩ := oi' h
  simp only [Bool.and_eq_true, decide_eq_true_eq] at c
  obtain ⟨z, h1, h2⟩ := ob' h
  obtain ⟨a1, a2, a3⟩ := ruF_wt ks _ _ _ h1
  obtain ⟨b1, b2, b3⟩ := ruF_wt r _ _ _ h2
  have s := ok_size c.2.2
  refine ⟨by omega, fun _ => b2 (a2 c.1), ?_⟩
  show tx.size + 20 + ks.wt + r.wt ≤ _
  have e : (y - x) * 8212 = 8212 + (z - (x + 1)) * 8212 + (y - z) * 8212 := by
   have : y - x = 1 + (z - (x + 1)) + (y - z) := by omega
   rw [this]; omega
  omega
theorem ruE_wt {deep x y : Nat} {e : Ex} (h : ruE deep e x = some y) : x ≤ y ∧ (x ≤ 2048 → y ≤ 2048) ∧ (e.row .nil).wt ≤ (y - x) * 8212 := ruF_wt _ _ _ _ h
theorem ruB_wt {x y : Nat} {e : Ex} (h : ruB e x = some y) : x ≤ y ∧ (x ≤ 2048 → y ≤ 2048) ∧ (e.row .nil).wt ≤ (y - x) * 8212 := by
 obtain ⟨z, h1, h2⟩ := ob' h
 obtain ⟨_, h2⟩ := oi' h2
 cases h2
 exact ruE_wt h1
theorem exN_wt : (exN.row .nil).wt = 20 := rfl
theorem mul_le {a b c d : Nat} (h1 : a ≤ b) (h2 : b ≤ c) (h3 : c ≤ d) : (d - a) * 8212 = (b - a) * 8212 + (c - b) * 8212 + (d - c) * 8212 := by
 have : d - a = (b - a) + (c - b) + (d - c) := by omega
 rw [this]; omega
/-- What right statements weigh, and how long their text is. -/
theorem ruS_wt : ∀ (f : So) (deep : Nat) (c c' : Nat × Nat), ruS deep f c = some c' → c.1 ≤ c'.1 ∧ (c.1 ≤ 256 → c'.1 ≤ 256) ∧ c.2 ≤ c'.2 ∧ (c.2 ≤ 2048 → c'.2 ≤ 2048) ∧ f.wt ≤ (c'.2 - c.2) * 8212 + (c'.1 - c.1) * 100 ∧
    (deep ≤ 24 → ∀ m : List UInt8, m.length ≤ 2 * deep → (soL m f).length ≤ f.wt + (c'.1 - c.1) * 200)
  | .nil, _, c, c', q => by
    have q' : some c = some c' := q
    cases q'
    exact ⟨Nat.le_refl _, id, Nat.le_refl _, id, Nat.zero_le _, fun _ m _ => Nat.zero_le _⟩
  | .cons d nm ix v l h t e r, deep, c, c', q => by
    rw [ruS] at q
    obtain ⟨pc, q⟩ := oi' q
    obtain ⟨c2, q, qr⟩ := ob' q
    obtain ⟨r1, r2, r3, r4, r5, r6⟩ := ruS_wt r _ _ _ qr
    have zx : ∀ e : Ex, (xL e).length + 2 ≤ (e.row .nil).wt := fun e => by have := exT_size e; exact this
    have zi : ((ixT (foTx ix) tx0).data.toList).length ≤ ix.wt := by
      have a := ix_size (foTx ix) tx0
      have b := fo_size ix
      show (ixT (foTx ix) tx0).size ≤ _
      have : (tx0 : ByteArray).size = 0 := rfl
      omega
    have zj : (ixT (foTx ix) tx0).size ≤ ix.wt := zi
    have main : ∃ x p : Nat, c2.1 = c.1 + 1 + p ∧ c.2 + x = c2.2 ∧ (c.1 + 1 ≤ 256 → c2.1 ≤ 256) ∧ (c.2 ≤ 2048 → c2.2 ≤ 2048) ∧ nm.size + ix.wt + (v.row .nil).wt + (l.row .nil).wt + (h.row .nil).wt + t.wt + e.wt + 1 ≤ x * 8212 + (p + 1) * 100 ∧
        (deep ≤ 24 → ∀ m : List UInt8, m.length ≤ 2 * deep → ((if d = 1 then m ++ (nm.data.toList ++ ((ixT (foTx ix) tx0).data.toList ++ (lEqs ++ (xL v ++ ([59] ++ [10])))))
     else if d = 2 then m ++ (lRd ++ (nm.data.toList ++ (lIn ++ (xL l ++ (lCs ++ (xL h ++ (lEr ++ [10])))))))
     else if d = 3 then m ++ (lIf ++ (xL v ++ (lOp ++ [10]))) ++ (soL (m ++ [32, 32]) t ++ ((if e.len = 0 then [] else m ++ (lEl ++ [10]) ++ soL (m ++ [32, 32]) e) ++ (m ++ ([125] ++ [10]))))
     else if d = 4 then m ++ (lWh ++ (xL v ++ (lOp ++ [10]))) ++ (soL (m ++ [32, 32]) t ++ (m ++ ([125] ++ [10])))
     else []) : List UInt8).length ≤ nm.size + ix.wt + (v.row .nil).wt + (l.row .nil).wt + (h.row .nil).wt + t.wt + e.wt + 1 + (p + 1) * 200) := by
      by_cases d1 : d = 1
      · rw [if_pos d1] at q
        obtain ⟨a, q⟩ := oi' q
        obtain ⟨x, q1, q⟩ := ob' q
        obtain ⟨y, q2, q⟩ := ob' q
        obtain ⟨b, q⟩ := oi' q
        obtain ⟨_, _, _, rfl, rfl, b3, b4⟩ := bare_all b
        simp only [Bool.and_eq_true, decide_eq_true_eq] at a
        obtain rfl := so_len0 b3
        obtain rfl := so_len0 b4
        obtain ⟨u1, u2, u3⟩ := ruF_wt _ _ _ _ q1
        obtain ⟨v1, v2, v3⟩ := ruE_wt q2
        have hn := isN_size a.1
        cases q
        have zv := zx v
        refine ⟨y - c.2, 0, rfl, by show c.2 + (y - c.2) = y; omega, fun h => h, fun h => v2 (u2 h), ?_, fun _ m hm => ?_⟩
        · have e : (y - c.2) * 8212 = (x - c.2) * 8212 + (y - x) * 8212 := by have : y - c.2 = (x - c.2) + (y - x) := by omega
                                                                              rw [this]; omega
          rw [exN_wt]
          show nm.size + ix.wt + (v.row .nil).wt + 20 + 20 + 0 + 0 + 1 ≤ _
          omega
        · rw [if_pos d1]
          simp only [List.length_append]
          have : nm.data.toList.length = nm.size := rfl
          simp
          omega
      rw [if_neg d1] at q
      by_cases d2 : d = 2
      · rw [if_pos d2] at q
        obtain ⟨a, q⟩ := oi' q
        obtain ⟨x, q1, q⟩ := ob' q
        obtain ⟨y, q2, q⟩ := ob' q
        obtain ⟨b, q⟩ := oi' q
        obtain ⟨_, b0, rfl, _, _, b3, b4⟩ := bare_all b
        obtain rfl := len0 b0
        obtain rfl := so_len0 b3
        obtain rfl := so_len0 b4
        obtain ⟨u1, u2, u3⟩ := ruB_wt q1
        obtain ⟨v1, v2, v3⟩ := ruB_wt q2
        have hn := isN_size a
        cases q
        have zv := zx l
        have zw := zx h
        refine ⟨y - c.2, 0, rfl, by show c.2 + (y - c.2) = y; omega, fun h => h, fun h => v2 (u2 h), ?_, fun _ m hm => ?_⟩
        · have e : (y - c.2) * 8212 = (x - c.2) * 8212 + (y - x) * 8212 := by have : y - c.2 = (x - c.2) + (y - x) := by omega
                                                                              rw [this]; omega
          rw [exN_wt]
          show nm.size + 0 + 20 + (l.row .nil).wt + (h.row .nil).wt + 0 + 0 + 1 ≤ _
          omega
        · rw [if_neg d1, if_pos d2]
          simp only [List.length_append]
          have : nm.data.toList.length = nm.size := rfl
          simp
          omega
      rw [if_neg d2] at q
      by_cases d3 : d = 3
      · rw [if_pos d3] at q
        obtain ⟨x, q1, q⟩ := ob' q
        obtain ⟨dd, q⟩ := oi' q
        obtain ⟨y, q2, q⟩ := ob' q
        obtain ⟨z, q3, q⟩ := ob' q
        obtain ⟨b, q⟩ := oi' q
        obtain ⟨rfl, b1, _, rfl, rfl, _⟩ := bare_all b
        obtain rfl := len0 b1
        obtain ⟨v1, v2, v3⟩ := ruE_wt q1
        obtain ⟨t1, t2, t3, t4, t5, t6⟩ := ruS_wt t _ _ _ q2
        obtain ⟨e1, e2, e3, e4, e5, e6⟩ := ruS_wt e _ _ _ q3
        simp only at t1 t2 t3 t4 t5 t6 e1 e2 e3 e4 e5 e6
        cases q
        have zv := zx v
        refine ⟨c2.2 - c.2, c2.1 - (c.1 + 1), by omega, by omega, fun h => e2 (t2 h), fun h => e4 (t4 (v2 h)), ?_, fun hd m hm => ?_⟩
        · have e0 := mul_le v1 t3 e3
          rw [exN_wt]
          show 0 + 0 + (v.row .nil).wt + 20 + 20 + t.wt + e.wt + 1 ≤ _
          omega
        · rw [if_neg d1, if_neg d2, if_pos d3]
          have a1 := t6 dd (m ++ [32, 32]) (by simp; omega)
          have a2 := e6 dd (m ++ [32, 32]) (by simp; omega)
          split
          · simp only [List.length_append]
            simp at a1 a2 ⊢
            have : (0 : Nat) ≤ e.wt := Nat.zero_le _
            omega
          · simp only [List.length_append]
            simp at a1 a2 ⊢
            omega
      rw [if_neg d3] at q
      by_cases d4 : d = 4
      · rw [if_pos d4] at q
        obtain ⟨x, q1, q⟩ := ob' q
        obtain ⟨dd, q⟩ := oi' q
        obtain ⟨y, q2, q⟩ := ob' q
        obtain ⟨b, q⟩ := oi' q
        obtain ⟨rfl, b1, _, rfl, rfl, _, b4⟩ := bare_all b
        obtain rfl := so_len0 b4
        obtain rfl := len0 b1
        obtain ⟨v1, v2, v3⟩ := ruE_wt q1
        obtain ⟨t1, t2, t3, t4, t5, t6⟩ := ruS_wt t _ _ _ q2
        simp only at t1 t2 t3 t4 t5 t6
        cases q
        have zv := zx v
        refine ⟨c2.2 - c.2, c2.1 - (c.1 + 1), by omega, by omega, fun h => t2 h, fun h => t4 (v2 h), ?_, fun hd m hm => ?_⟩
        · have e0 := mul_le v1 t3 (Nat.le_refl c2.2)
          rw [exN_wt]
          show 0 + 0 + (v.row .nil).wt + 20 + 20 + t.wt + 0 + 1 ≤ _
          omega
        · rw [if_neg d1, if_neg d2, if_neg d3, if_pos d4]
          have a1 := t6 dd (m ++ [32, 32]) (by simp; omega)
          simp only [List.length_append]
          simp at a1 ⊢
          omega
      rw [if_neg d4] at q
      cases q
    obtain ⟨x, p, m1, m2, m3, m4, m5, m6⟩ := main
    refine ⟨by omega, fun h => r2 (m3 pc), by omega, fun h => r4 (m4 h), ?_, fun hd m hm => ?_⟩
    · have e1 : (c'.2 - c.2) * 8212 = x * 8212 + (c'.2 - c2.2) * 8212 := by have : c'.2 - c.2 = x + (c'.2 - c2.2) := by omega
                                                                            rw [this]; omega
      show nm.size + ix.wt + (v.row .nil).wt + (l.row .nil).wt + (h.row .nil).wt + t.wt + e.wt + r.wt + 1 ≤ _
      omega
    · have a := m6 hd m hm
      have b := r6 hd m hm
      rw [soL, List.length_append]
      show _ ≤ nm.size + ix.wt + (v.row .nil).wt + (l.row .nil).wt + (h.row .nil).wt + t.wt + e.wt + r.wt + 1 + _
      omega
theorem dc_len {d : Dc} (h : dcOk d = true) : (dcL d).length ≤ 40 := by
 obtain ⟨h1, h2, h3⟩ := dc_all h
 have n16 := (isN_cases h1).2.2.1
 have w := wd_size d.2.1
 have w' : (wdOf d.2.1).data.toList.length ≤ 6 := w
 have c : (celL d.2.2).length ≤ 4 := by
  unfold celL
  split
  ·exact Nat.zero_le _
  ·unfold digT; split <;> simp
 unfold dcL
 simp
 simp at w' n16 c
 omega
theorem dcs_len : ∀ ds : List Dc, ds.all dcOk = true → (ds.flatMap dcL).length ≤ ds.length * 40
 | [], _ => Nat.le_refl _
 | d :: ds, h => by
  rw [List.all_cons, Bool.and_eq_true] at h
  have a := dc_len h.1
  have b := dcs_len ds h.2
  rw [List.flatMap_cons, List.length_append, List.length_cons]
  omega
/-- Right programs are small. -/
theorem pg_small {p : Pg} {c : Nat × Nat} (h : ruP p = some c) : p.2.wt ≤ 20000000 ∧ (pgL p).length ≤ 30000000 := by
 obtain ⟨h1, h2, _⟩ := ru_parts h
 unfold ruP at h
 obtain ⟨_, h⟩ := oi' h
 unfold ruK at h
 rw [if_pos (by decide)] at h
 obtain ⟨a1, a2, a3, a4, a5, a6⟩ := ruS_wt _ _ _ _ h
 have b1 := a2 (by decide)
 have b2 := a4 (by decide)
 have b3 := a6 (by decide) [] (by decide)
 have b4 := dcs_len p.1 h2
 simp only at a5 b3
 unfold pgL
 rw [List.length_append]
 omega
end Go.Proofs.YtknoibocpbfmmaaGreatDoor



namespace Go.Proofs.YtknoibocpbfmmaaGreatDoor
open Go.RowKit
set_option linter.unusedVariables false
set_option linter.unusedSimpArgs false
/-- What a program comes to. -/
def PgR (r : Rs Pg) (b B : Nat) (w : World) (e : Ending) (w' : World) : Prop :=
 Onl b w w' ∧ match r with
 | .ok x us d => ∃ dv bv, e = .returned (.agg #[dv, bv]) ∧ SlDc w' dv x.1 ∧ SlS w' (Fr w.heap.size) bv x.2 ∧ (∀ k, dv.ownBlock = some k → w.heap.size ≤ k) ∧ PAt w' b B us 0 d
 | .bad p => Fault 4 p e
 | .more => True
theorem Onl.ons {b : Nat} {S : Nat → Prop} {x y : World} (h : Onl b x y) (hb : S b) : OnS S x y := ⟨h.os, h.tape, h.output, h.size, fun k hk hn => h.block k hk (fun e => hn (e ▸ hb))⟩
theorem OnS.onl {b : Nat} {S : Nat → Prop} {x y : World} (h : OnS S x y) (hb : ∀ k, k < x.heap.size → S k → k = b) : Onl b x y := ⟨h.os, h.tape, h.output, h.size, fun k hk hn => h.block k hk (fun e => hn (hb k hk e))⟩
theorem OnS.grown {S : Nat → Prop} {x y z : World} {row : Option Nat} (h : OnS S x y) (g : y.grownBy z row) (hr : ∀ k, row = some k → S k ∨ x.heap.size ≤ k) : OnS S x z :=
 ⟨g.os.trans h.os, g.tape.trans h.tape, g.output.trans h.output, Nat.le_trans h.size g.size, fun k hk hb => (g.block k (Nat.lt_of_lt_of_le hk h.size) (fun e => by rcases hr k e.symm with q | q; exact hb q; omega)).trans (h.block k hk hb)⟩
theorem OnS.thn {S S' : Nat → Prop} {x y z : World} (h : OnS S x y) (g : OnS S' y z) (hs : ∀ k, k < x.heap.size → S' k → S k) : OnS S x z :=
 ⟨g.os.trans h.os, g.tape.trans h.tape, g.output.trans h.output, Nat.le_trans h.size g.size, fun k hk hb => (g.block k (Nat.lt_of_lt_of_le hk h.size) (fun e => hb (hs k hk e))).trans (h.block k hk hb)⟩
theorem OnS.kp {S lo : Nat → Prop} {W V : World} (h : OnS S W V) (hb : ∀ k, lo k → ¬ S k) : Kp lo W V := fun k h1 h2 => h.block k h2 (hb k h1)
theorem OpsAt.ons {W V : World} {S : Nat → Prop} (h : OpsAt W) (hb : ¬ S 0) (k : OnS S W V) : OpsAt V := fun j v e => k.cell hb (h j v e)
theorem EvAt.ons {W V : World} {S : Nat → Prop} (h : EvAt W) (hb : ¬ S 3) (k : OnS S W V) : EvAt V := by
 obtain ⟨ev, h1, h2⟩ := h
 exact ⟨ev, k.cell hb h1, h2⟩
theorem OpsAt.gl {W : World} (h : OpsAt W) : 0 < W.heap.size := World.block_lt_of_cell? W _ (h 0 _ rfl)
theorem EvAt.gl {W : World} (h : EvAt W) : 3 < W.heap.size := by
 obtain ⟨ev, h1, h2⟩ := h
 exact World.block_lt_of_cell? W _ h1
theorem PAt.ons {W V : World} {b B : Nat} {ts : List Tk} {o d : Int} {S : Nat → Prop} (h : PAt W b B ts o d) (hne : ts ≠ []) (k : OnS S W V) (hb : ¬ S b) (hB : ¬ S B) : PAt V b B ts o d := h.on (k.block b h.lt hb) (k.block B (h.ltB hne) hB)
theorem own_ons {S : Nat → Prop} {w w1 : World} {base n size : Nat} {e : TypeId} {v : Value} {xs : List Value} (hb : OnS S w w1) (h : w.ownsRow base e size v n xs) (hs : ∀ k, v.ownBlock = some k → ¬ S k) : w1.ownsRow base e size v n xs := po_same h (fun k hk => hb.block k (h.lt k hk).2 (hs k hk))
/-- Declarations' cells. -/
def dcl : List Dc → List Value
 | [] => []
 | x :: l => .string x.1 :: .int .i64 x.2.1 :: .int .i64 x.2.2 :: dcl l
theorem dcl_snoc (x : Dc) : ∀ l : List Dc, dcl (l ++ [x]) = dcl l ++ [.string x.1, .int .i64 x.2.1, .int .i64 x.2.2]
 | [] => rfl
 | y :: l => by rw [List.cons_append, dcl, dcl, dcl_snoc x l]; rfl
theorem dcl_at : ∀ (l : List Dc) (j : Nat) (d : Dc), l[j]? = some d → (dcl l)[j * 3]? = some (.string d.1) ∧ (dcl l)[j * 3 + 1]? = some (.int .i64 d.2.1) ∧ (dcl l)[j * 3 + 2]? = some (.int .i64 d.2.2)
 | [], j, d, h => by simp at h
 | x :: l, 0, d, h => by simp at h; subst h; exact ⟨rfl, rfl, rfl⟩
 | x :: l, j + 1, d, h => by
  rw [List.getElem?_cons_succ] at h
  have := dcl_at l j d h
  rw [show (j + 1) * 3 = j * 3 + 1 + 1 + 1 by omega]
  exact this
theorem own_dc {V : World} {base : Nat} {e : TypeId} {v : Value} {ls : List Dc} (own : V.ownsRow base e 3 v ls.length (dcl ls)) : SlDc V v ls := by
 rcases own.2 with ⟨rfl, h0⟩ | ⟨g, cap, cur, rfl, hb, hg, _, _, _, hx⟩
 ·exact ⟨none, 0, by rw [h0], Or.inl (List.length_eq_zero_iff.1 h0)⟩
 ·refine ⟨some ⟨g, 0, none⟩, cap, rfl, Or.inr ⟨g, 0, rfl, fun j d hd => ?_⟩⟩
  have hc : ∀ i u, (dcl ls)[i]? = some u → V.cell? ⟨g, i, none⟩ = some u := fun i u hu => by
   rw [← hx, List.getElem?_take] at hu
   split at hu
   ·rw [show V.cell? ⟨g, i, none⟩ = cur[i]? by simp [World.cell?, hg]]
    simpa using hu
   ·cases hu
  obtain ⟨h1, h2, h3⟩ := dcl_at ls j d hd
  rw [Nat.zero_add]
  exact ⟨hc _ _ h1, hc _ _ h2, hc _ _ h3⟩
theorem SlDc.same {W V : World} {v : Value} {ds : List Dc} (h : SlDc W v ds) (hb : ∀ k, v.ownBlock = some k → V.heap[k]? = W.heap[k]?) : SlDc V v ds := by
 obtain ⟨p, q, rfl, h⟩ := h
 refine ⟨p, q, rfl, h.imp id ?_⟩
 rintro ⟨c, u, rfl, k⟩
 have e : V.heap[c]? = W.heap[c]? := hb c rfl
 exact ⟨c, u, rfl, fun j d hj => ⟨(cell_of_heap e).trans (k j d hj).1, (cell_of_heap e).trans (k j d hj).2.1, (cell_of_heap e).trans (k j d hj).2.2⟩⟩
theorem dc_info : (Tryz.prog.info? 53).map (fun i => (i.zero, i.size, i.bytes)) = some (some (.agg #[.string ⟨#[]⟩, .int .i64 0, .int .i64 0]), 3, 32) := by kernel_rfl
theorem dc_one (x : Dc) : ∀ u ∈ [Value.string x.1, .int .i64 x.2.1, .int .i64 x.2.2], u.oneCell' = true := by
 intro u hu; simp at hu; rcases hu with rfl | rfl | rfl <;> rfl
theorem dc_cell {W : World} {c : Nat} {y0 y1 y2 : Value} {t : TypeId} (q : W.heap[c]? = some (.cells #[y0, y1, y2] t (0, 0))) : ∀ j u, [y0, y1, y2][j]? = some u → W.cell? (Addr.add ⟨c, 0, none⟩ j) = some u := by
 intro j u h
 rw [Addr.add_mid, Nat.zero_add]
 rw [show W.cell? ⟨c, j, none⟩ = (#[y0, y1, y2] : Array Value)[j]? by simp [World.cell?, q]]
 simpa using h
/-- Between two rounds of the declarations. -/
structure DsI (b B g : Nat) (W V : World) (R : Rs (List Dc)) (ls : List Dc) (us : List Tk) (v : Value) : Prop where
 on : OnS (fun k => k = b ∨ k = g) W V
 qg : V.heap[g]? = some (.cells #[v, .slice none 0 0] 25 (0, 0))
 P : PAt V b B us 0 0
 own : V.ownsRow W.heap.size 53 3 v ls.length (dcl ls)
 hR : ∃ k, R = (dsP k us 0).thn fun l ts d => .ok (ls ++ l) ts d
 z : Tz us
 dz : Dz us
 ln : ls.length + us.length ≤ 1000000
/-- Behind n of load, call, row, append. -/
def PhD (b B n0 : Nat) (us us2 : List Tk) (v : Value) (ls : List Dc) (n : Nat) (w : World) : Prop := PAt w b B (if n = 0 then us else us2) 0 0 ∧ (n < 3 → w.ownsRow n0 53 3 v ls.length (dcl ls))
theorem PhD.ons {b B n0 : Nat} {us us2 : List Tk} {v : Value} {ls : List Dc} {n n' : Nat} {w w' : World} (h : PhD b B n0 us us2 v ls n w) (h1 : us ≠ []) (h2 : us2 ≠ []) (g : Below w.heap.size w w') (hn : (n = 0 ↔ n' = 0) ∧ n ≤ n') : PhD b B n0 us us2 v ls n' w' := by
 refine ⟨?_, fun a => po_on g (h.2 (by omega))⟩
 have := h.1
 by_cases e : n = 0
 ·rw [if_pos e] at this
  rw [if_pos (hn.1.1 e)]
  exact this.bel h1 g
 ·rw [if_neg e] at this
  rw [if_neg (fun a => e (hn.1.2 a))]
  exact this.bel h2 g
theorem DsI.bel {b B g : Nat} {W V V' : World} {R : Rs (List Dc)} {ls : List Dc} {us : List Tk} {v : Value} (h : DsI b B g W V R ls us v) (k : Below V.heap.size V V') : DsI b B g W V' R ls us v :=
 ⟨h.on.below k, (k.block g (lt_of h.qg)).trans h.qg, h.P.bel h.z.ne k, po_on k h.own, h.hR, h.z, h.dz, h.ln⟩
theorem ds_step {b B g k : Nat} {W V wz : World} {R : Rs (List Dc)} {ls : List Dc} {us us2 : List Tk} {x : Dc} {v y : Value} (hI : DsI b B g W V R ls us v) (hR : R = (dsP k us2 0).thn fun l ts d => .ok (ls ++ [x] ++ l) ts d) (hb : OnS (fun c => c = b ∨ (0 < 3 ∧ some c = v.ownBlock)) V wz) (hP : PAt wz b B us2 0 0)
  (own : wz.ownsRow W.heap.size 53 3 y (ls.length + 1) (dcl ls ++ [.string x.1, .int .i64 x.2.1, .int .i64 x.2.2])) (z2 : Tz us2 ∧ us2.length < us.length) (dz2 : Dz us2) (bg : g ≠ b) (Bg : g ≠ B) (gW : g < W.heap.size) :
  DsI b B g W (wz.setCell ⟨g, 0, none⟩ y) R (ls ++ [x]) us2 y ∧ msR b (wz.setCell ⟨g, 0, none⟩ y) = us2.length := by
 have hq : wz.heap[g]? = some (.cells #[v, .slice none 0 0] 25 (0, 0)) := (hb.block g (lt_of hI.qg) (fun a => a.elim bg (fun q => by have := (hI.own.lt g q.2.symm).1; omega))).trans hI.qg
 have hP2 := hP.far (c := g) (j := 0) bg Bg y
 refine ⟨⟨?_, ?_, hP2, ?_, ⟨k, hR⟩, z2.1, dz2, ?_⟩, hP2.ms⟩
 ·exact (hI.on.thn hb (fun c hc a => a.imp id (fun q => by have := (hI.own.lt c q.2.symm).1; omega))).set (Or.inl (Or.inr rfl)) y
 ·have := at_set hq 0 y
  simpa using this
 ·rw [List.length_append, dcl_snoc]
  exact po_same own (fun c hc => Below.heap_setCell _ _ _ _ (fun e => by have e' : c = g := e; have := (own.lt c hc).1; omega))
 ·have := hI.ln; have := z2.2; rw [List.length_append]; simp; omega
theorem want_ok {α : Type} {s : ByteArray} {ts : List Tk} {f : List Tk → Rs α} {x : α} {us : List Tk} {d : Int} (h : want s ts f = .ok x us d) : f ts.tail = .ok x us d := by
 unfold want at h
 split at h
 ·exact h
 ·cases h
/-- What a declaration leaves. -/
theorem dc_left {ts us : List Tk} {d d' : Int} {x : Dc} (h : dcP ts d = .ok x us d') : d' = d ∧ ∃ j, us = ts.drop j := by
 unfold dcP at h
 split at h
 ·unfold nameP at h
  split at h
  ·dsimp only at h
   split at h
   ·split at h
    ·have h2 := want_ok (want_ok h)
     cases h2
     refine ⟨rfl, 6, ?_⟩
     simp only [← List.drop_one, List.drop_drop]
    ·cases h
   ·have h2 := want_ok h
    cases h2
    refine ⟨rfl, 3, ?_⟩
    simp only [← List.drop_one, List.drop_drop]
  ·cases h
 ·cases h
theorem Dz.drop {ts : List Tk} (h : Dz ts) (j : Nat) : Dz (ts.drop j) := fun t ht => h t (List.mem_of_mem_drop ht)
/-- Between two rounds of the statements. -/
structure SsI (b B g : Nat) (W V : World) (R : Rs So) (dv : Value) (ls : List St) (us : List Tk) (d : Int) (v : Value) (xs : List Value) : Prop where
 on : OnS (fun k => k = b ∨ k = g) W V
 qg : V.heap[g]? = some (.cells #[dv, v] 25 (0, 0))
 P : PAt V b B us 0 d
 own : V.ownsRow W.heap.size 87 17 v ls.length xs
 tr : CsAt V (fun k => W.heap.size ≤ k ∧ some k ≠ v.ownBlock) ls xs
 hR : ∃ k, R = (ssP k us d).thn fun l ts d => .ok (appS ls l) ts d
 z : Tz us
 ln : ls.length + us.length ≤ 1000000
theorem SsI.bel {b B g : Nat} {W V V' : World} {R : Rs So} {dv : Value} {ls : List St} {us : List Tk} {d : Int} {v : Value} {xs : List Value} (h : SsI b B g W V R dv ls us d v xs) (k : Below V.heap.size V V') : SsI b B g W V' R dv ls us d v xs :=
 ⟨h.on.below k, (k.block g (lt_of h.qg)).trans h.qg, h.P.bel h.z.ne k, po_on k h.own, h.tr.kp (Below.kp k _), h.hR, h.z, h.ln⟩
/-- Behind n of load, call, row, append. -/
def PhS (b B n0 : Nat) (us us2 : List Tk) (d d2 : Int) (v : Value) (m : Nat) (xs : List Value) (n : Nat) (w : World) : Prop := PAt w b B (if n = 0 then us else us2) 0 (if n = 0 then d else d2) ∧ (n < 3 → w.ownsRow n0 87 17 v m xs)
theorem PhS.ons {b B n0 m : Nat} {us us2 : List Tk} {d d2 : Int} {v : Value} {xs : List Value} {n n' : Nat} {w w' : World} (h : PhS b B n0 us us2 d d2 v m xs n w) (h1 : us ≠ []) (h2 : us2 ≠ []) (g : Below w.heap.size w w') (hn : (n = 0 ↔ n' = 0) ∧ n ≤ n') : PhS b B n0 us us2 d d2 v m xs n' w' := by
 refine ⟨?_, fun a => po_on g (h.2 (by omega))⟩
 have := h.1
 by_cases e : n = 0
 ·rw [if_pos e, if_pos e] at this
  rw [if_pos (hn.1.1 e), if_pos (hn.1.1 e)]
  exact this.bel h1 g
 ·rw [if_neg e, if_neg e] at this
  rw [if_neg (fun a => e (hn.1.2 a)), if_neg (fun a => e (hn.1.2 a))]
  exact this.bel h2 g
theorem st_cells {W : World} {c : Nat} {CS : List Value} {t : TypeId} (q : W.heap[c]? = some (.cells CS.toArray t (0, 0))) : ∀ j u, CS[j]? = some u → W.cell? (Addr.add ⟨c, 0, none⟩ j) = some u := by
 intro j u h
 rw [Addr.add_mid, Nat.zero_add]
 simp [World.cell?, q, h]
theorem ss_step {b B g k : Nat} {W V wz : World} {R : Rs So} {dv : Value} {ls : List St} {us us2 : List Tk} {d d2 : Int} {x : St} {v y : Value} {xs CS : List Value} (hI : SsI b B g W V R dv ls us d v xs) (hR : R = (ssP k us2 d2).thn fun l ts d => .ok (appS (ls ++ [x]) l) ts d) (hb : OnS (fun c => c = b ∨ (0 < 3 ∧ some c = v.ownBlock)) V wz) (hP : PAt wz b B us2 0 d2)
  (own : wz.ownsRow W.heap.size 87 17 y (ls.length + 1) (xs ++ CS)) (lC : CS.length = 17) (kS : StV wz (fun k => V.heap.size ≤ k ∧ some k ≠ y.ownBlock) (.agg CS.toArray) x) (hat : y.ownBlock = v.ownBlock ∨ ∃ k, y.ownBlock = some k ∧ V.heap.size ≤ k) (z2 : Tz us2 ∧ us2.length < us.length) (bg : g ≠ b) (Bg : g ≠ B) (bW : b < W.heap.size) (gW : g < W.heap.size) :
  SsI b B g W (wz.setCell ⟨g, 1, none⟩ y) R dv (ls ++ [x]) us2 d2 y (xs ++ CS) ∧ msR b (wz.setCell ⟨g, 1, none⟩ y) = us2.length := by
 have hq : wz.heap[g]? = some (.cells #[dv, v] 25 (0, 0)) := (hb.block g (lt_of hI.qg) (fun a => a.elim bg (fun q => by have := (hI.own.lt g q.2.symm).1; omega))).trans hI.qg
 have hP2 := hP.far (c := g) (j := 1) bg Bg y
 have sz := hI.on.size
 refine ⟨⟨?_, ?_, hP2, ?_, ?_, ⟨k, hR⟩, z2.1, ?_⟩, hP2.ms⟩
 ·exact (hI.on.thn hb (fun c hc a => a.imp id (fun q => by have := (hI.own.lt c q.2.symm).1; omega))).set (Or.inl (Or.inr rfl)) y
 ·have := at_set hq 1 y
  simpa using this
 ·rw [List.length_append]
  exact po_same own (fun c hc => Below.heap_setCell _ _ _ _ (fun e => by have e' : c = g := e; have := (own.lt c hc).1; omega))
 ·refine CsAt.kp (Kp.set (c := g) (j := 1) (v := y) (fun a => by have := a.1; omega)) ?_
  refine CsAt.snoc lC (kS.lo (fun c a => ⟨by have := a.1; omega, a.2⟩)) ?_
  refine ((hI.tr.lt).kp (hb.kp (fun c a e => ?_))).lo (fun c a => ⟨a.1.1, fun e => ?_⟩)
  ·rcases e with e | e
   ·have := a.1.1; omega
   ·exact a.1.2 e.2
  ·rcases hat with h | ⟨i, h, hi⟩
   ·rw [h] at e; exact a.1.2 e
   ·rw [h] at e; have := Option.some.inj e; have := a.2; omega
 ·have := hI.ln; have := z2.2; rw [List.length_append]; simp; omega
end Go.Proofs.YtknoibocpbfmmaaGreatDoor



