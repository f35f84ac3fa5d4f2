/- How long printed texts are. -/
import Derived.Test.YtknoibocpbfmmaaGreatDoorPdH
namespace Go.Proofs.YtknoibocpbfmmaaGreatDoor
set_option linter.unusedVariables false
set_option linter.unusedSimpArgs false
theorem z_app (a b : ByteArray) : (a ++ b).size = a.size + b.size := ByteArray.size_append
/-- What a row's texts weigh at most. -/
def Fo.wt : Fo → Nat
  | .nil => 0
  | .cons _ tx _ ks r => tx.size + 20 + ks.wt + r.wt
def wtL : List (ByteArray × Int) → Nat
  | [] => 0
  | x :: r => x.1.size + 2 + wtL r
theorem kd_size (lv : Int) (x : ByteArray × Int) : (kdT lv x).size ≤ x.1.size + 2 := by
  unfold kdT
  split
  · rw [z_app, z_app]; show 1 + x.1.size + 1 ≤ _; omega
  · omega
theorem ix_size : ∀ (l : List (ByteArray × Int)) (a : ByteArray), (ixT l a).size = a.size + wtL l
  | [], a => rfl
  | x :: r, a => by
    rw [ixT, ix_size r, z_app, z_app, z_app, wtL]
    show a.size + (1 + x.1.size + 1) + wtL r = _
    omega
theorem wd_size (t : Int) : (wdOf t).size ≤ 6 := by
  unfold wdOf
  split
  · decide
  · split
    · decide
    · split <;> decide
theorem of_size (op : Int) : (ofT op).2.1.size ≤ 2 := by
  by_cases c : 8 ≤ op ∧ op ≤ 19
  · rcases op_range c with rfl | rfl | rfl | rfl | rfl | rfl | rfl | rfl | rfl | rfl | rfl | rfl <;> decide
  · have : ofT op = (op, tx0, 5) := by
      unfold ofT
      rw [List.find?_eq_none.2 (fun x hx => ?_)]
      · rfl
      · simp only [decide_eq_true_eq]
        rintro rfl
        simp [opT] at hx
        rcases hx with rfl | rfl | rfl | rfl | rfl | rfl | rfl | rfl | rfl | rfl | rfl | rfl <;> simp at c
    rw [this]; exact Nat.zero_le _
theorem k0_wt (l : List (ByteArray × Int)) : (kf0 tx0 l).1.size ≤ wtL l := by
  cases l with
  | nil => exact Nat.zero_le _
  | cons x r => show x.1.size ≤ x.1.size + 2 + wtL r; omega
theorem k01_wt (l : List (ByteArray × Int)) : (kf0 tx0 l).1.size + (kf1 tx0 l).1.size + 4 ≤ wtL l + 4 := by
  match l with
  | [] => exact Nat.le_refl _
  | [x] => show x.1.size + 0 + 4 ≤ x.1.size + 2 + 0 + 4; omega
  | x :: y :: r => show x.1.size + y.1.size + 4 ≤ x.1.size + 2 + (y.1.size + 2 + wtL r) + 4; omega
theorem ex_size (op : Int) (tx : ByteArray) (ty : Int) (ks : List (ByteArray × Int)) : (exTx op tx ty ks).size + 2 ≤ tx.size + 20 + wtL ks := by
  have a := k0_wt ks
  have b := k01_wt ks
  unfold exTx
  split
  · rw [z_app, ix_size]; show tx.size + (0 + wtL ks) + 2 ≤ _; omega
  split
  · have := kd_size 5 (kf0 tx0 ks); rw [z_app]; show 1 + _ + 2 ≤ _; omega
  split
  · have := kd_size 5 (kf0 tx0 ks); rw [z_app]; show 1 + _ + 2 ≤ _; omega
  split
  · rw [z_app, z_app]; show 4 + _ + 1 + 2 ≤ _; omega
  split
  · rw [z_app, z_app]; show 5 + _ + 1 + 2 ≤ _; omega
  split
  · have := wd_size ty; rw [z_app, z_app, z_app]; show _ + 1 + _ + 1 + 2 ≤ _; omega
  · have c := kd_size (ofT op).2.2 (kf0 tx0 ks)
    have d := kd_size ((ofT op).2.2 + 1) (kf1 tx0 ks)
    have e := of_size op
    rw [z_app, z_app, z_app, z_app]
    show _ + 1 + _ + 1 + _ + 2 ≤ _
    omega
theorem fo_size : ∀ f : Fo, wtL (foTx f) ≤ f.wt
  | .nil => Nat.le_refl _
  | .cons op tx ty ks r => by
    have a := fo_size ks
    have b := fo_size r
    have c := ex_size op tx ty (foTx ks)
    show (exTx op tx ty (foTx ks)).size + 2 + wtL (foTx r) ≤ tx.size + 20 + ks.wt + r.wt
    omega
theorem exT_size (e : Ex) : (exT e).size + 2 ≤ (e.row .nil).wt := by
  have a := ex_size e.op e.tx e.ty (foTx e.ks)
  have b := fo_size e.ks
  show (exTx e.op e.tx e.ty (foTx e.ks)).size + 2 ≤ e.tx.size + 20 + e.ks.wt + 0
  omega
end Go.Proofs.YtknoibocpbfmmaaGreatDoor

