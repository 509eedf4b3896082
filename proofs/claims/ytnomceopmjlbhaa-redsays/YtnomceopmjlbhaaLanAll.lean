/-
  Contracts of lane.Tick and lane.All.
-/
import Derived.Test.YtnomceopmjlbhaaLanNxt
namespace Go.Proofs.Ytnomceopmjlbhaa
open Go.RowKit
set_option linter.unusedVariables false

/-- how long it has been so one frame later -/
def tkI (n : Int) : Int := if n < 10000 then n + 1 else 10000

/-- a state behind an event; behind k of them -/
def stp (s : Int × Bool × Int) (e : Int) : Int × Bool × Int := (nM s.1 s.2.1 e, nB s.2.1 e, nF s.1 (nM s.1 s.2.1 e) s.2.2)
def rnS (s : Int × Bool × Int) (f : Nat → Int) : Nat → Int × Bool × Int
  | 0 => s
  | k + 1 => stp (rnS s f k) (f k)

end Go.Proofs.Ytnomceopmjlbhaa
