/- Lists of ends. -/
import Derived.Test.YteafnkimcidkhaaGreatRgA
namespace Go.Proofs.YteafnkimcidkhaaGreat
/-- The ends of those stretches that have some. -/
def endsL (l : List (Bool × Int × Int)) : List Int := l.flatMap fun s => if s.1 then [] else [s.2.1, s.2.2]
theorem endsL_snoc (l : List (Bool × Int × Int)) (j : Nat) (s : Bool × Int × Int) (h : l[j]? = some s) : endsL (l.take (j + 1)) = endsL (l.take j) ++ if s.1 then [] else [s.2.1, s.2.2] := by
  have hj := (List.getElem?_eq_some_iff.1 h)
  obtain ⟨h1, h2⟩ := hj
  rw [List.take_succ_eq_append_getElem h1, h2]
  unfold endsL
  rw [List.flatMap_append]
  simp
theorem endsL_take (l : List (Bool × Int × Int)) (j : Nat) : endsL (l.take j) <+: endsL l := by
  unfold endsL
  exact ⟨(l.drop j).flatMap _, by rw [← List.flatMap_append, List.take_append_drop]⟩
/-- Both ends of one with both ends of each. -/
def withL (ls : List (Bool × Int × Int)) (xs : List Int) : List (Int × Int) := xs.flatMap fun x => (endsL ls).map fun y => (x, y)
def pairsL (a : Bool × Int × Int) (ls : List (Bool × Int × Int)) : List (Int × Int) := withL ls (endsL [a])
theorem withL_snoc (ls : List (Bool × Int × Int)) (pre : List Int) (x : Int) : withL ls (pre ++ [x]) = withL ls pre ++ (endsL ls).map fun y => (x, y) := by
  unfold withL; rw [List.flatMap_append]; simp
theorem withL_pre (ls : List (Bool × Int × Int)) {pre xs : List Int} (h : pre <+: xs) : withL ls pre <+: withL ls xs := by
  obtain ⟨t, rfl⟩ := h
  unfold withL; rw [List.flatMap_append]; exact ⟨_, rfl⟩
theorem withL_mid (ls : List (Bool × Int × Int)) {pre xs : List Int} {x : Int} (h : pre ++ [x] <+: xs) {pre' : List Int} {y : Int} (h' : pre' ++ [y] <+: endsL ls) : (withL ls pre ++ pre'.map fun y => (x, y)) ++ [(x, y)] <+: withL ls xs := by
  refine List.IsPrefix.trans ?_ (withL_pre ls h)
  rw [withL_snoc]
  obtain ⟨t, ht⟩ := h'
  exact ⟨t.map fun y => (x, y), by rw [← ht]; simp⟩
end Go.Proofs.YteafnkimcidkhaaGreat
