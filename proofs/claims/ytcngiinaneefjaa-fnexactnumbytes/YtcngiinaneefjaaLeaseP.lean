/- Leases in plain Lean: what chapter 6's lease functions compute (Who, Epoch, Till are c, m, p of a triple). -/
import Derived.Test.YtcngiinaneefjaaResPure
namespace Go.Proofs.Ytcngiinaneefjaa

def lWithin (n a b : Int) : Bool := decide (a ≤ n) && decide (n ≤ b)
theorem lWithin_iff {n a b : Int} : lWithin n a b = true ↔ a ≤ n ∧ n ≤ b := by simp [lWithin]
theorem lWithin_no {n a b : Int} : lWithin n a b = false ↔ ¬ (a ≤ n ∧ n ≤ b) := by simp [lWithin]
def leaseZero (l : RV) : Bool := l.c == 0 && (l.m == 0 && l.p == 0)
def leaseOk (l : RV) : Bool := leaseZero l || (lWithin l.c 1 4 && lWithin l.m 1 1000 && lWithin l.p 0 200000)
theorem leaseOk_eq (l : RV) (z b1 b2 b3 : Bool) (hz : leaseZero l = z) (h1 : lWithin l.c 1 4 = b1) (h2 : lWithin l.m 1 1000 = b2) (h3 : lWithin l.p 0 200000 = b3) : leaseOk l = (z || (b1 && b2 && b3)) := by
  subst hz h1 h2 h3; rfl
theorem leaseOk_bounds {l : RV} (h : leaseOk l = true) : 0 ≤ l.c ∧ l.c ≤ 4 ∧ 0 ≤ l.m ∧ l.m ≤ 1000 ∧ 0 ≤ l.p ∧ l.p ≤ 200000 := by
  simp [leaseOk, leaseZero, lWithin] at h
  omega
/-- What a valid request gets. -/
def leaseGot (l : RV) (who now span : Int) : RV × Int :=
  if l.p ≤ now then (if l.m = 1000 then (RV.zero, 5) else (⟨who, l.m + 1, now + span⟩, 0))
  else if l.c = who then (⟨who, l.m, now + span⟩, 0) else (RV.zero, 2)
def leaseTry (l : RV) (who now span : Int) : RV × Int :=
  if leaseOk l && lWithin who 1 4 && lWithin now 0 100000 && lWithin span 1 1000 then leaseGot l who now span else (RV.zero, 1)
theorem leaseTry_eq (l : RV) (who now span : Int) (b0 b1 b2 b3 : Bool) (h0 : leaseOk l = b0) (h1 : lWithin who 1 4 = b1) (h2 : lWithin now 0 100000 = b2) (h3 : lWithin span 1 1000 = b3) :
    leaseTry l who now span = if b0 && b1 && b2 && b3 then leaseGot l who now span else (RV.zero, 1) := by
  subst h0 h1 h2 h3; rfl
def leaseHolds (l : RV) (who epoch now : Int) : Bool := leaseOk l && (l.c == who) && (l.m == epoch) && (epoch != 0) && !(decide (l.p ≤ now))
theorem leaseHolds_eq (l : RV) (who epoch now : Int) (b0 b1 b2 b3 b4 : Bool) (h0 : leaseOk l = b0) (h1 : (l.c == who) = b1) (h2 : (l.m == epoch) = b2) (h3 : (epoch != 0) = b3) (h4 : decide (l.p ≤ now) = b4) :
    leaseHolds l who epoch now = (b0 && b1 && b2 && b3 && !b4) := by
  subst h0 h1 h2 h3 h4; rfl
/-- The ending 'a lease and a code'. -/
def RetL (r : RV × Int) (w : World) (e : Ending) (w' : World) : Prop := e = .returned (.tuple #[.agg #[.int .i64 r.1.c, .int .i64 r.1.m, .int .i64 r.1.p], .int .i64 r.2]) ∧ Go.RowKit.Below w.heap.size w w'
theorem RetL.of {r r' : RV × Int} {w : World} (h : r' = r) : RetL r w = RetL r' w := by rw [h]
end Go.Proofs.Ytcngiinaneefjaa
