/-
  Two boxes at once.
-/
import Derived.Test.YtfbokeekkbdblaaBxs
namespace Go.Proofs.Ytfbokeekkbdblaa
open Go.RowKit

theorem bxs_two (w : World) (a b : Array Value) (t1 t2 : TypeId) : Bxs w [(w.heap.size, a.toList), (w.heap.size + 1, b.toList)] ((w.alloc (.cells a t1)).alloc (.cells b t2)) := by
  have := ((bxs_nil w).push a t1).push b t2
  rw [lay_size] at this
  exact this
/-- two boxes more, one behind the other: the block and the world behind them under letters -/
theorem Bxs.new2 {w : World} {L : List (Nat × List Value)} {W : World} (h : Bxs w L W) (a b : Array Value) (t1 t2 : TypeId) : ∃ N W', (W.alloc (.cells a t1)).alloc (.cells b t2) = W' ∧ W.heap.size = N ∧ Bxs w (L ++ [(N, a.toList)] ++ [(N + 1, b.toList)]) W' ∧ N + 1 < W'.heap.size := by
  refine ⟨_, _, rfl, rfl, ?_, by simp⟩
  have := (h.push a t1).push b t2
  rw [lay_size] at this
  exact this

end Go.Proofs.Ytfbokeekkbdblaa
