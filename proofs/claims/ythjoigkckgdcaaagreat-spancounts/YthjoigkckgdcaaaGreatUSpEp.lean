/- What span.without and span.refine answer, plainly. -/
import Derived.Test.YthjoigkckgdcaaaGreatUSpQ
namespace Go.Proofs.YthjoigkckgdcaaaGreat
set_option linter.unusedVariables false
def withoutP (A : Ways) (L : Ln) (p q : Bool × Int × Int) : Bool × Int × Int := if ¬ A.ord q.2.1 q.2.2 = 0 then p else if A.ord q.2.1 p.2.1 = 0 then meetP A p (aboveP A L q.2.1) else if A.ord q.2.1 p.2.2 = 0 then meetP A p (belowP A L q.2.1) else p
def bothP (r s : Bool × Int × Int) : (Bool × Int × Int) × (Bool × Int × Int) := if r.1 || s.1 then ((true, 0, 0), (true, 0, 0)) else (r, s)
def ltP (A : Ways) (L : Ln) (p q : Bool × Int × Int) : (Bool × Int × Int) × (Bool × Int × Int) := bothP (meetP A p (belowP A L q.2.2)) (meetP A q (aboveP A L p.2.1))
def leP (A : Ways) (L : Ln) (p q : Bool × Int × Int) : (Bool × Int × Int) × (Bool × Int × Int) := bothP (meetP A p (false, L.least, q.2.2)) (meetP A q (false, p.2.1, L.most))
def refineP (A : Ways) (L : Ln) (op : Int) (p q : Bool × Int × Int) : (Bool × Int × Int) × (Bool × Int × Int) :=
  if op = 12 then ltP A L p q else if op = 13 then leP A L p q else if op = 14 then bothP (ltP A L q p).2 (ltP A L q p).1 else if op = 15 then bothP (leP A L q p).2 (leP A L q p).1
  else if op = 16 then bothP (meetP A p q) (meetP A q p) else if op = 17 then bothP (withoutP A L p q) (withoutP A L q p) else (p, q)
theorem above_dom {A : Ways} {L : Ln} {x : Int} (d0 : A.dom 0) (dn : A.dom (A.nxt x)) (dm : A.dom L.most) : A.dom (aboveP A L x).2.1 ∧ A.dom (aboveP A L x).2.2 := by unfold aboveP; split <;> exact ⟨by assumption, by assumption⟩
theorem below_dom {A : Ways} {L : Ln} {x : Int} (d0 : A.dom 0) (dp : A.dom (A.prv x)) (dl : A.dom L.least) : A.dom (belowP A L x).2.1 ∧ A.dom (belowP A L x).2.2 := by unfold belowP; split <;> exact ⟨by assumption, by assumption⟩
end Go.Proofs.YthjoigkckgdcaaaGreat

