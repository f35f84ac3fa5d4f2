/- What span tells of results: from the least to the greatest, and the trap of those past the line's ends. -/
import Derived.Test.YteafnkimcidkhaaGreatSpL
namespace Go.Proofs.YteafnkimcidkhaaGreat
/-- Past one of the line's ends? -/
def pastP (A : Ways) (L : Ln) (x : Int) : Bool := decide (A.ord (A.pl x) L.least < 0) || decide (0 < A.ord (A.pl x) L.most)
def hullP (A : Ways) (xs : List Int) : Bool × Int × Int := xs.foldl (fun acc x => joinP A acc (false, A.pl x, A.pl x)) (true, 0, 0)
def trapP (A : Ways) (L : Ln) (t : Int) (xs : List Int) : Int := xs.foldl (fun acc x => if pastP A L x then t else acc) 0
theorem hullP_snoc (A : Ways) (pre : List Int) (x : Int) : hullP A (pre ++ [x]) = joinP A (hullP A pre) (false, A.pl x, A.pl x) := by simp [hullP]
theorem trapP_snoc (A : Ways) (L : Ln) (t : Int) (pre : List Int) (x : Int) : trapP A L t (pre ++ [x]) = if pastP A L x then t else trapP A L t pre := by simp [trapP]
theorem joinP_dom {A : Ways} {p q : Bool × Int × Int} (h1 : A.dom p.2.1) (h2 : A.dom p.2.2) (h3 : A.dom q.2.1) (h4 : A.dom q.2.2) : A.dom (joinP A p q).2.1 ∧ A.dom (joinP A p q).2.2 := by
  unfold joinP
  split
  · exact ⟨h3, h4⟩
  · split
    · exact ⟨h1, h2⟩
    · exact ⟨sml_dom h1 h3, grt_dom h2 h4⟩
theorem hullP_domG {A : Ways} : ∀ (xs : List Int) (p : Bool × Int × Int), A.dom p.2.1 → A.dom p.2.2 → (∀ x ∈ xs, A.dom (A.pl x)) → A.dom (xs.foldl (fun acc x => joinP A acc (false, A.pl x, A.pl x)) p).2.1 ∧ A.dom (xs.foldl (fun acc x => joinP A acc (false, A.pl x, A.pl x)) p).2.2
  | [], p, h1, h2, _ => ⟨h1, h2⟩
  | x :: xs, p, h1, h2, hx => by
    have hj := joinP_dom (q := (false, A.pl x, A.pl x)) h1 h2 (hx x (by simp)) (hx x (by simp))
    exact hullP_domG xs _ hj.1 hj.2 (fun y hy => hx y (by simp [hy]))
theorem hullP_dom {A : Ways} (d0 : A.dom 0) (xs : List Int) (hx : ∀ x ∈ xs, A.dom (A.pl x)) : A.dom (hullP A xs).2.1 ∧ A.dom (hullP A xs).2.2 := hullP_domG xs (true, 0, 0) d0 d0 hx
end Go.Proofs.YteafnkimcidkhaaGreat
