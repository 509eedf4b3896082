/-
  Contract of the document's own FrameText: the same bytes as Pack's.
-/
import Derived.Test.YtiaolelkabbnmaaFrmPack
namespace Go.Proofs.Ytiaolelkabbnmaa
open Go.RowKit
set_option linter.unusedVariables false

theorem pk_more {w wr w3 : World} {bs : List UInt8} {m : Nat} {x : Int} {v v3 : Value} {o : Obj} (h : Pk w bs m v wr) (ho : w3.ownsRow w.heap.size 5 1 v3 (m + 4) (Lib.byteCells bs ++ Lib.byteCells (four x))) (hg : (wr.alloc o).grownBy w3 v.ownBlock) : Pk w (bs ++ four x) (m + 4) v3 w3 := by
  refine ⟨by rw [Lib.byteCells_append]; exact ho, (h.below.alloc h.below.size _).grown hg ?_ (fun k hk => (h.own.lt k hk).1)⟩
  simp
  have := h.below.size
  omega

end Go.Proofs.Ytiaolelkabbnmaa
