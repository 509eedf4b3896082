/-
  What stroke.Test answers, right or wrong.
-/
import Derived.Test.YtihcioghbidblaaStkTst
namespace Go.Proofs.Ytihcioghbidblaa
open Go.RowKit
set_option linter.unusedVariables false

/-- what Test answers, right or wrong: a number, a ram, and the error -/
theorem test_all (x : Tri) (p v : Int) (a : Option Addr) (n c : Nat) (l : Nat → Pt) (hT : TI x) (hp : I32 p) (hl : ∀ j, I32 (l j).w ∧ I32 (l j).d) :
    ∃ N P V : Int, (tsE x p l n = 0 → N = (tsN x (sta0 p v) l n : Nat) ∧ P = (tsR x (sta0 p v) l n).p ∧ V = (tsR x (sta0 p v) l n).v) ∧ (tsE x p l n ≠ 0 → N = 0 ∧ P = 0 ∧ V = 0) ∧
      ∀ w, RowP w a n l → Calls Try.prog 8 #[.agg #[.int .i32 x.g, .int .i64 x.n, .int .i32 x.lo, .int .i32 x.hi, .int .i32 p, .int .i32 v, .int .i32 x.r, .int .i64 x.m, .int .i32 x.P, .int .i32 x.I, .int .i32 x.D, .int .i32 x.a, .int .i32 x.b, .int .i32 x.o, .int .i32 x.l, .bool x.k], .slice a n c] w fun e w' => e = .returned (.tuple #[.int .i64 N, .agg #[.int .i32 P, .int .i32 V], .int .i64 (tsE x p l n)]) ∧ Below w.heap.size w w' := by
  by_cases h : tsE x p l n = 0
  · refine ⟨_, _, _, fun _ => ⟨rfl, rfl, rfl⟩, fun k => absurd h k, fun w hr => ?_⟩
    rw [h]
    exact test_any x p v a n c l w hr hT hp hl h
  · exact ⟨0, 0, 0, fun k => absurd k h, fun _ => ⟨rfl, rfl, rfl⟩, fun w hr => test_bad x p v a n c l w hr _ rfl h⟩

end Go.Proofs.Ytihcioghbidblaa
