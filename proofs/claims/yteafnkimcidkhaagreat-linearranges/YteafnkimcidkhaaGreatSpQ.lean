/- Plain answers of span's calls on a line. -/
import Derived.Test.YteafnkimcidkhaaGreatSpP
namespace Go.Proofs.YteafnkimcidkhaaGreat
def withinP (A : Ways) (p q : Bool × Int × Int) : Bool := if p.1 || q.1 then p.1 else decide (A.ord q.2.1 p.2.1 ≤ 0) && decide (A.ord p.2.2 q.2.2 ≤ 0)
def rightP (A : Ways) (p : Bool × Int × Int) : Bool := if p.1 then (p.2.1 == 0 && p.2.2 == 0) else A.one p.2.1 && (A.one p.2.2 && decide (A.ord p.2.1 p.2.2 ≤ 0))
def hasP (A : Ways) (p : Bool × Int × Int) (x : Int) : Bool := !p.1 && (A.one (A.pl x) && (decide (A.ord p.2.1 x ≤ 0) && decide (A.ord x p.2.2 ≤ 0)))
def ofP (A : Ways) (lo hi : Int) : Bool × Int × Int := if rightP A (false, A.pl lo, A.pl hi) then (false, A.pl lo, A.pl hi) else (true, 0, 0)
def belowP (A : Ways) (L : Ln) (x : Int) : Bool × Int × Int := if A.ord x L.least ≤ 0 then (true, 0, 0) else (false, L.least, A.prv x)
def aboveP (A : Ways) (L : Ln) (x : Int) : Bool × Int × Int := if 0 ≤ A.ord x L.most then (true, 0, 0) else (false, A.nxt x, L.most)
end Go.Proofs.YteafnkimcidkhaaGreat
