/-
  What the laws of counts carry along: the two boxes of what was handed in.
-/
import Derived.Test.YtfdjjhenjkcciaaCountRun
import Derived.Test.YtfdjjhenjkcciaaBoxes
namespace Go.Proofs.Ytfdjjhenjkcciaa
open Go.RowKit

structure Pc (w : World) (u d m n : Int) (s : Bool) (W : World) : Prop where
  bel : Below w.heap.size w W
  p : Cells W w.heap.size [.int .i64 u, .int .i64 d, .int .i64 m]
  c : Cells W (w.heap.size + 1) [.int .i64 n, .bool s]
theorem Pc.step {w : World} {u d m n : Int} {s : Bool} {W W' : World} (h : Pc w u d m n s W) (hb : Below W.heap.size W W') : Pc w u d m n s W' :=
  ⟨h.bel.trans (hb.mono h.bel.size), h.p.step hb, h.c.step hb⟩
theorem Pc.alloc {w : World} {u d m n : Int} {s : Bool} {W : World} (h : Pc w u d m n s W) (x : Obj) : Pc w u d m n s (W.alloc x) := h.step ((Below.refl _ W).alloc (Nat.le_refl _) _)
theorem pc_new (w : World) (u d m n : Int) (s : Bool) (t1 t2 : TypeId) : Pc w u d m n s ((w.alloc (.cells #[.int .i64 u, .int .i64 d, .int .i64 m] t1)).alloc (.cells #[.int .i64 n, .bool s] t2)) :=
  ⟨two_boxes w _ _, (cells_new w #[.int .i64 u, .int .i64 d, .int .i64 m] t1).alloc _, by simpa using cells_new (w.alloc (.cells #[.int .i64 u, .int .i64 d, .int .i64 m] t1)) #[.int .i64 n, .bool s] t2⟩
theorem Pc.facts {w : World} {u d m n : Int} {s : Bool} {W : World} (h : Pc w u d m n s W) :
    w.heap.size < W.heap.size ∧ w.heap.size + 1 < W.heap.size ∧ W.cell? ⟨w.heap.size, 0, none⟩ = some (.int .i64 u) ∧ W.cell? ⟨w.heap.size, 1, none⟩ = some (.int .i64 d) ∧ W.cell? ⟨w.heap.size, 2, none⟩ = some (.int .i64 m) ∧ W.cell? ⟨w.heap.size + 1, 0, none⟩ = some (.int .i64 n) ∧ W.cell? ⟨w.heap.size + 1, 1, none⟩ = some (.bool s) :=
  ⟨h.p.lt, h.c.lt, h.p.cell 0 _ rfl, h.p.cell 1 _ rfl, h.p.cell 2 _ rfl, h.c.cell 0 _ rfl, h.c.cell 1 _ rfl⟩

end Go.Proofs.Ytfdjjhenjkcciaa
