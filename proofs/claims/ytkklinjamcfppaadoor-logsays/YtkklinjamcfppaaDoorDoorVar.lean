/-
  What a row's listed variables give a walk: an error of the library lies as some interface value, MaxLen as some number.
-/
import Derived.Test.YtkklinjamcfppaaDoorDoor
import Derived.Test.YtkklinjamcfppaaDoorLogNum
import Derived.Shelf.Vars
namespace Go.Proofs.YtkklinjamcfppaaDoor
open Go.ChangeShapes Go.WideShapes Go.ChangeAt Go.RowKit

theorem iface_laid {P : Program} {n nm : String} {d : DataW Unit} {r : List (String × DataW Unit)} {W : World} {g : Nat} {ti : TypeId} {ms : Array (String × TypeId)}
    (h : laidMet P ((n, .iface nm d) :: r) W) (hg : P.globalNamed n = some g) (ht : (P.globals[g]?).map (·.type) = some ti) (hi : P.underlying ti = some (.interface ms)) :
    ∃ tp p, W.var? P n = some #[.iface tp p] := by
  obtain ⟨ps, ⟨g0, t0, cs0, f0, p0, q0, hg0, ht0, hv0, hd0, _, e0⟩, _, hrows⟩ := h
  obtain rfl := Option.some.inj (hg.symm.trans hg0)
  obtain rfl := Option.some.inj (ht.symm.trans ht0)
  subst e0
  obtain ⟨l0⟩ := cs0
  obtain ⟨f1, u, v, rfl, _, _⟩ := iface_of_trod hi hd0
  exact ⟨u, v, hv0⟩
theorem max_of {W : World} (h : W.ShapedOpen Tryd.prog) : ∃ m, W.cell? ⟨0, 0, none⟩ = some (.int .i64 m) :=
  Go.Proofs.cell_of_shapedOpen_int (t := 3) h (of_decide_eq_true (by kernel_rfl)) (zero := #[.int .i64 0]) (by kernel_rfl) rfl (by kernel_rfl) (by kernel_rfl) Tryd.underlying3
theorem vb_of {rest : List (String × DataW Unit)} {d1 d2 : DataW Unit} {n1 n2 : String} {W : World} {r2 : List (String × DataW Unit)} (hp : P10 W)
    (h1 : laidMet Tryd.prog (("strconv.ErrRange", .iface n1 d1) :: rest) W) (h2 : laidMet Tryd.prog (("strconv.ErrSyntax", .iface n2 d2) :: r2) W) (hs : W.ShapedOpen Tryd.prog) : Vb W :=
  ⟨hp, iface_laid (g := 6) (ti := 50) h2 (by kernel_rfl) (by kernel_rfl) Tryd.underlying50, iface_laid (g := 7) (ti := 50) h1 (by kernel_rfl) (by kernel_rfl) Tryd.underlying50, max_of hs⟩

end Go.Proofs.YtkklinjamcfppaaDoor
