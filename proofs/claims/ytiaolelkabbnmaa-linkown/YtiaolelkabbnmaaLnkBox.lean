/-
  A link in a box, with its words; what a law is handed.
-/
import Derived.Test.YtiaolelkabbnmaaLnkAll
import Derived.Test.YtiaolelkabbnmaaFrmOpen
namespace Go.Proofs.Ytiaolelkabbnmaa
open Go.RowKit
set_option linter.unusedVariables false

/-- a link in a box, with its words -/
structure Kb (W : World) (b : Nat) (K L S : Int) (n : Nat) (l : Nat → Int) (h : Bool) (A B : Int) (a : Option Addr) (c : Nat) : Prop where
  box : Cells W b [.int .i64 K, .int .i64 L, .int .u8 S, .slice a n c, .bool h, .int .i64 A, .int .i64 B]
  wds : Wds W a n l
theorem Kb.step {W W' : World} {b n c : Nat} {K L S A B : Int} {l : Nat → Int} {h : Bool} {a : Option Addr} (k : Kb W b K L S n l h A B a c) (hb : Below W.heap.size W W') : Kb W' b K L S n l h A B a c := ⟨k.box.step hb, k.wds.later hb⟩
theorem kb_new {W : World} {n c : Nat} {K L S A B : Int} {l : Nat → Int} {h : Bool} {a : Option Addr} (hw : Wds W a n l) : Kb (W.alloc (.cells #[.int .i64 K, .int .i64 L, .int .u8 S, .slice a n c, .bool h, .int .i64 A, .int .i64 B] 26)) W.heap.size K L S n l h A B a c := ⟨cells_new W _ _, hw.later ((Below.refl _ W).alloc (Nat.le_refl _) _)⟩
/-- a frame in a box, with its words -/
structure Fb (W : World) (b : Nat) (K L S : Int) (n : Nat) (l : Nat → Int) (a : Option Addr) (c : Nat) : Prop where
  box : Cells W b [.int .i64 K, .int .i64 L, .int .u8 S, .slice a n c]
  wds : Wds W a n l
theorem Fb.step {W W' : World} {b n c : Nat} {K L S : Int} {l : Nat → Int} {a : Option Addr} (k : Fb W b K L S n l a c) (hb : Below W.heap.size W W') : Fb W' b K L S n l a c := ⟨k.box.step hb, k.wds.later hb⟩
theorem fb_new {W : World} {n c : Nat} {K L S : Int} {l : Nat → Int} {a : Option Addr} (hw : Wds W a n l) : Fb (W.alloc (.cells #[.int .i64 K, .int .i64 L, .int .u8 S, .slice a n c] 24)) W.heap.size K L S n l a c := ⟨cells_new W _ _, hw.later ((Below.refl _ W).alloc (Nat.le_refl _) _)⟩
theorem alloc_step (W : World) (x : Obj) : Below W.heap.size W (W.alloc x) := (Below.refl _ W).alloc (Nat.le_refl _) _
theorem step_on {N : Nat} {w W W' : World} (h : Below N w W) (hN : N ≤ W.heap.size) (hb : Below W.heap.size W W') : Below N w W' := h.trans (hb.mono hN)

end Go.Proofs.Ytiaolelkabbnmaa
