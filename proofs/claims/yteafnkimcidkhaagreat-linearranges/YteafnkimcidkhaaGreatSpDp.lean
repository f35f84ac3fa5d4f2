/- What span.widen answers, plainly. -/
import Derived.Test.YteafnkimcidkhaaGreatSpQ
namespace Go.Proofs.YteafnkimcidkhaaGreat
def lowP (A : Ways) (L : Ln) (c : Int) (ts : List Int) : Int := ts.foldl (fun acc x => if A.one x && decide (A.ord x c ≤ 0) then grt A acc x else acc) L.least
def highP (A : Ways) (L : Ln) (d : Int) (ts : List Int) : Int := ts.foldl (fun acc x => if A.one x && decide (0 ≤ A.ord x d) then sml A acc x else acc) L.most
def widenP (A : Ways) (L : Ln) (p q : Bool × Int × Int) (ts : List Int) : Bool × Int × Int := if p.1 || q.1 then joinP A p q else (false, if 0 ≤ A.ord q.2.1 p.2.1 then p.2.1 else lowP A L q.2.1 ts, if A.ord q.2.2 p.2.2 ≤ 0 then p.2.2 else highP A L q.2.2 ts)
theorem lowP_snoc (A : Ways) (L : Ln) (c : Int) (ts : List Int) (x : Int) : lowP A L c (ts ++ [x]) = if A.one x && decide (A.ord x c ≤ 0) then grt A (lowP A L c ts) x else lowP A L c ts := by simp [lowP]
theorem highP_snoc (A : Ways) (L : Ln) (d : Int) (ts : List Int) (x : Int) : highP A L d (ts ++ [x]) = if A.one x && decide (0 ≤ A.ord x d) then sml A (highP A L d ts) x else highP A L d ts := by simp [highP]
theorem lowP_dom {A : Ways} {L : Ln} {c : Int} (dl : A.dom L.least) : ∀ (ts : List Int), (∀ x ∈ ts, A.dom x) → A.dom (lowP A L c ts) := by
  intro ts
  unfold lowP
  generalize L.least = s at *
  induction ts generalizing s with
  | nil => intro _; exact dl
  | cons x xs ih =>
    intro h
    refine ih _ ?_ (fun y hy => h y (by simp [hy]))
    dsimp only
    split
    · exact grt_dom dl (h x (by simp))
    · exact dl
theorem highP_dom {A : Ways} {L : Ln} {d : Int} (dl : A.dom L.most) : ∀ (ts : List Int), (∀ x ∈ ts, A.dom x) → A.dom (highP A L d ts) := by
  intro ts
  unfold highP
  generalize L.most = s at *
  induction ts generalizing s with
  | nil => intro _; exact dl
  | cons x xs ih =>
    intro h
    refine ih _ ?_ (fun y hy => h y (by simp [hy]))
    dsimp only
    split
    · exact sml_dom dl (h x (by simp))
    · exact dl
end Go.Proofs.YteafnkimcidkhaaGreat
