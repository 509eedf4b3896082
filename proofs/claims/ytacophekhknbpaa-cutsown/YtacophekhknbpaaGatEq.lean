/-
  Two gates that are the same, and two trees.
-/
import Derived.Test.YtacophekhknbpaaIntEq
import Derived.Test.YtacophekhknbpaaGatCut
import Derived.Deep.RegionHeld3
import Derived.Conc.MuLone
namespace Go.Proofs.Ytacophekhknbpaa
open Go.RowKit
set_option linter.unusedVariables false

/-- the same kind, number and numbers -/
structure SameG (x y : Gt) : Prop where
  k : x.k = y.k
  v : x.v = y.v
  n : x.n = y.n
  of : ∀ j, j < y.n → x.of j = y.of j

set_option maxHeartbeats 2000000 in
set_option maxRecDepth 100000 in
theorem gateEqD_any (x y : Gt) (w : World) (h : SameG x y) (hx : RI w x.a x.n x.of) (hy : RI w y.a y.n y.of) (hn : x.n ≤ 1000) :
    Calls Try.prog 26 #[.agg #[.int .i64 x.k, .int .i64 x.v, .slice x.a x.n x.c], .agg #[.int .i64 y.k, .int .i64 y.v, .slice y.a y.n y.c]] w fun e w' => e = .returned (.bool true) ∧ Below w.heap.size w w' := by
  obtain ⟨e1, e2, e3, e4⟩ := h
  obtain ⟨xk, xv, xa, xn, xc, xf⟩ := x
  obtain ⟨yk, yv, ya, yn, yc, yf⟩ := y
  simp only [] at e1 e2 e3 e4 hx hy hn
  subst e1 e2 e3
  have W0 : Hid (Below w.heap.size w ((w.alloc (.cells #[.int .i64 xk, .int .i64 xv, .slice xa xn xc] 41)).alloc (.cells #[.int .i64 xk, .int .i64 xv, .slice ya xn yc] 41))) := (gbox _ _).alloc (by simp) _
  have C : Hid (∀ W, Below w.heap.size w W → Calls Try.prog 22 #[.slice xa xn xc, .slice ya xn yc] W fun e w' => e = .returned (.bool true) ∧ ∃ d, w' = W.drewN d) := fun W hW => by
    have := equalI_core xa ya xn xc yc xf yf W (by omega) (hx.step hW).x (hy.step hW).x
    rw [(eqX_iff xf yf xn).2 e4] at this
    exact this
  clear hx hy e4 hn
  go_enter Try.func26, Try.ntmps26
  go_wp2_with fail
  refine (C.out _ W0.out).mono ?_
  rintro e w1 ⟨rfl, d, rfl⟩
  go_wp2_with fail
  go_ret
  exact ⟨rfl, gbelow_drew W0.out d⟩

set_option maxHeartbeats 2000000 in
set_option maxRecDepth 100000 in
theorem gateEqO_any (x y : Gt) (w : World) (h : SameG x y) (hx : RI w x.a x.n x.of) (hy : RI w y.a y.n y.of) (hn : x.n ≤ 1000) :
    Calls Try.prog 35 #[.agg #[.int .i64 x.k, .int .i64 x.v, .slice x.a x.n x.c], .agg #[.int .i64 y.k, .int .i64 y.v, .slice y.a y.n y.c]] w fun e w' => e = .returned (.bool true) ∧ Below w.heap.size w w' := by
  obtain ⟨e1, e2, e3, e4⟩ := h
  obtain ⟨xk, xv, xa, xn, xc, xf⟩ := x
  obtain ⟨yk, yv, ya, yn, yc, yf⟩ := y
  simp only [] at e1 e2 e3 e4 hx hy hn
  subst e1 e2 e3
  have W0 : Hid (Below w.heap.size w ((w.alloc (.cells #[.int .i64 xk, .int .i64 xv, .slice xa xn xc] 41)).alloc (.cells #[.int .i64 xk, .int .i64 xv, .slice ya xn yc] 41))) := (gbox _ _).alloc (by simp) _
  have C : Hid (∀ W, Below w.heap.size w W → Calls Try.prog 22 #[.slice xa xn xc, .slice ya xn yc] W fun e w' => e = .returned (.bool true) ∧ ∃ d, w' = W.drewN d) := fun W hW => by
    have := equalI_core xa ya xn xc yc xf yf W (by omega) (hx.step hW).x (hy.step hW).x
    rw [(eqX_iff xf yf xn).2 e4] at this
    exact this
  clear hx hy e4 hn
  go_enter Try.func35, Try.ntmps35
  go_wp2_with fail
  refine (C.out _ W0.out).mono ?_
  rintro e w1 ⟨rfl, d, rfl⟩
  go_wp2_with fail
  go_ret
  exact ⟨rfl, gbelow_drew W0.out d⟩

theorem entF_dual1 : EntF 26 := fun args W => Go.MuLone.run_callFunc_enter Try.func26 (by kernel_rfl) rfl args W
theorem entF_own1 : EntF 35 := fun args W => Go.MuLone.run_callFunc_enter Try.func35 (by kernel_rfl) rfl args W

set_option maxHeartbeats 4000000 in
set_option maxRecDepth 100000 in
theorem equalG_any (FN : Nat) (a1 a2 : Option Addr) (n c1 c2 : Nat) (x y : Nat → Gt) (w : World) (hn : n ≤ 1000) (hx : RowG w a1 n x) (hy : RowG w a2 n y) (hent : EntF FN)
    (C0 : ∀ (j : Nat) (W : World), j < n → Below w.heap.size w W → Calls Try.prog FN #[.agg #[.int .i64 (x j).k, .int .i64 (x j).v, .slice (x j).a (x j).n (x j).c], .agg #[.int .i64 (y j).k, .int .i64 (y j).v, .slice (y j).a (y j).n (y j).c]] W fun e w' => e = .returned (.bool true) ∧ Below W.heap.size W w') :
    Calls Try.prog 25 #[.slice a1 n c1, .slice a2 n c2, .func (.func FN) #[] #[]] w fun e w' => e = .returned (.bool true) ∧ Below w.heap.size w w' := by
  have C : Hid (∀ (j : Nat) (W : World), j < n → Below w.heap.size w W → Calls Try.prog FN #[.agg #[.int .i64 (x j).k, .int .i64 (x j).v, .slice (x j).a (x j).n (x j).c], .agg #[.int .i64 (y j).k, .int .i64 (y j).v, .slice (y j).a (y j).n (y j).c]] W fun e w' => e = .returned (.bool true) ∧ Below W.heap.size W w') := C0
  have HX : Hid (RowG w a1 n x) := hx
  have HY : Hid (RowG w a2 n y) := hy
  have hent : ∀ (args : Array Value) (W : World), (callFunc FN args).run Try.prog W = .ok (.enter FN args) W := hent
  have HN : Hid (n ≤ 1000) := hn
  clear C0 hx hy hn
  go_enter Try.func25, Try.ntmps25
  go_wp2_with fail
  go_loopg [17] (n + 1) (fun g u wr => ∃ q : Nat, u = .int .i64 q ∧ n - q < g ∧ q ≤ n ∧ Hid (Below w.heap.size w wr))
  case atStart => exact ⟨0, rfl, by omega, by omega, Below.refl _ _⟩
  case round =>
    obtain ⟨q, rfl, hg, hq, HB⟩ := hrel
    by_cases hlt : q < n
    · have z1 : (q : Int) < (n : Int) := by omega
      have z2 : (q : Int) < 1000 := by have := HN.out; omega
      obtain ⟨b1, o1, rfl, h1, h2⟩ := (HX.out.step HB.out).row (by omega)
      obtain ⟨b2, o2, rfl, h3, h4⟩ := (HY.out.step HB.out).row (by omega)
      obtain ⟨x0, x1, x2⟩ := h2 q hlt
      obtain ⟨y0, y1, y2⟩ := h4 q hlt
      have W0 : Hid (Below w.heap.size w ((wr.alloc (.cells #[.int .i64 (x q).k, .int .i64 (x q).v, .slice (x q).a (x q).n (x q).c] 41)).alloc (.cells #[.int .i64 (y q).k, .int .i64 (y q).v, .slice (y q).a (y q).n (y q).c] 41))) := (HB.out.alloc HB.out.size _).alloc (by have := HB.out.size; simp; omega) _
      have C1 := C.out q _ hlt W0.out
      clear h2 h4
      generalize x q = X at *
      generalize y q = Y at *
      go_wp2_with fail
      refine C1.mono ?_
      rintro e w2 ⟨rfl, hb2⟩
      have B2 : Hid (Below w.heap.size w w2) := W0.out.trans (hb2.mono W0.out.size)
      clear hb2 C1 W0 x0 x1 x2 y0 y1 y2
      go_wp2_with fail
      go_roundg (n - (q + 1) + 1)
      case measure => omega
      case rel => exact ⟨q + 1, by go_num, by omega, by omega, B2.out⟩
    · have z1 : ¬ (q : Int) < (n : Int) := by omega
      obtain rfl : q = n := by omega
      go_wp2_with fail
      go_ret
      exact ⟨rfl, HB.out⟩

end Go.Proofs.Ytacophekhknbpaa
