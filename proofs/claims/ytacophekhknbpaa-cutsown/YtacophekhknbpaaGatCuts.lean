/-
  Contracts of cuts.Cuts and cuts.Across.
-/
import Derived.Test.YtacophekhknbpaaGatLea
import Derived.Conc.MuLone
import Derived.Test.YtacophekhknbpaaOpen
namespace Go.Proofs.Ytacophekhknbpaa
open Go.RowKit
set_option linter.unusedVariables false

theorem entF_of {FN : Nat} {fn : Func} {c : Code} (hf : Try.prog.funcs[FN]? = some fn) (hn : (fn.name == "runtime.NumGoroutine") = false) (hb : fn.body = some c) : EntF FN := fun args W => Go.MuLone.run_callFunc_enter hf hn hb args W
theorem entF_cuts : EntF 39 := entF_of Try.func39 (by kernel_rfl) rfl
theorem entF_across : EntF 41 := entF_of Try.func41 (by kernel_rfl) rfl

/-- does a set meet the first so many? -/
def mtB (f : Nat → Nat) (s : Nat) : Nat → Bool
  | 0 => true
  | j + 1 => mtB f s j && decide (s &&& f j ≠ 0)
theorem mtB_no {f : Nat → Nat} {s j n : Nat} (hj : j < n) (h : s &&& f j = 0) : mtB f s n = false := by
  induction n with
  | zero => omega
  | succ n ih =>
    show (mtB f s n && decide (s &&& f n ≠ 0)) = false
    rcases (show j < n ∨ j = n by omega) with q | rfl
    · rw [ih q]
      rfl
    · simp [h]
theorem mtB_yes {f : Nat → Nat} {s j : Nat} (h0 : mtB f s j = true) (h : ¬ s &&& f j = 0) : mtB f s (j + 1) = true := by
  show (mtB f s j && decide (s &&& f j ≠ 0)) = true
  simp [h0, h]
/-- is one of the first so many no set of the eight parts? -/
def bigB (f : Nat → Nat) : Nat → Bool
  | 0 => false
  | j + 1 => bigB f j || decide (255 < f j)
theorem bigB_yes {f : Nat → Nat} {j n : Nat} (hj : j < n) (h : 255 < f j) : bigB f n = true := by
  induction n with
  | zero => omega
  | succ n ih =>
    show (bigB f n || decide (255 < f n)) = true
    rcases (show j < n ∨ j = n by omega) with q | rfl
    · rw [ih q]
      rfl
    · simp [h]
theorem bigB_no {f : Nat → Nat} {j : Nat} (h0 : bigB f j = false) (h : ¬ 255 < f j) : bigB f (j + 1) = false := by
  show (bigB f j || decide (255 < f j)) = false
  simp [h0, h]
theorem bigB_all {f : Nat → Nat} {n : Nat} (h : bigB f n = false) {j : Nat} (hj : j < n) : f j ≤ 255 := by
  by_cases q : 255 < f j
  · rw [bigB_yes hj q] at h
    cases h
  · omega

set_option maxHeartbeats 1000000 in
set_option maxRecDepth 100000 in
theorem meetsAll_any (a : Option Addr) (n c s : Nat) (f : Nat → Nat) (w : World) (hn : n ≤ 100) (h : RS w a n f) (hf : ∀ j, j < n → f j < 65536) (hs : s < 65536) :
    Calls Try.prog 42 #[.int .u16 s, .slice a n c] w fun e w' => e = .returned (.bool (mtB f s n)) ∧ Below w.heap.size w w' := by
  have HR : Hid (RS w a n f) := h
  have HF : Hid (∀ j, j < n → bits .and .u16 (s : Int) (f j : Int) = ((s &&& f j : Nat) : Int)) := fun j hj => u16_and_nat s (f j) hs (hf j hj)
  have HN : Hid (n ≤ 100) := hn
  clear h hf hs hn
  go_enter Try.func42, Try.ntmps42
  go_wp2_with fail
  go_loopg [9] (n + 1) (fun g u wr => ∃ q : Nat, u = .int .i64 q ∧ n - q < g ∧ q ≤ n ∧ Hid (mtB f s q = true) ∧ wr = w)
  case atStart => exact ⟨0, rfl, by omega, by omega, rfl, rfl⟩
  case round =>
    obtain ⟨q, rfl, hg, hq, HM, rfl⟩ := hrel
    by_cases hlt : q < n
    · have z1 : (q : Int) < (n : Int) := by omega
      obtain ⟨b, o, rfl, hb, hc⟩ := HR.out (by omega)
      have x0 := hc q hlt
      have z3 : (q : Int) < 100 := by have := HN.out; omega
      have x1 := HF.out q hlt
      have KY : Hid (¬ s &&& f q = 0 → mtB f s (q + 1) = true) := mtB_yes HM.out
      have KN : Hid (s &&& f q = 0 → mtB f s n = false) := mtB_no hlt
      clear hc
      generalize f q = y at *
      generalize s &&& y = z at *
      by_cases hz : z = 0
      · subst hz
        have Q : Hid (mtB f s n = false) := KN.out rfl
        go_wp2_with fail
        go_ret
        exact ⟨by rw [Q.out]; rfl, Below.refl _ _⟩
      · have Q : Hid (mtB f s (q + 1) = true) := KY.out hz
        have z2 : ((z : Int) == 0) = false := by simp only [beq_eq_false_iff_ne, ne_eq, Int.natCast_eq_zero]; exact hz
        clear hz KY KN
        go_wp2_with fail
        go_roundg (n - (q + 1) + 1)
        case measure => omega
        case rel => exact ⟨q + 1, by go_num, by omega, by omega, Q.out, rfl⟩
    · have z1 : ¬ (q : Int) < (n : Int) := by omega
      obtain rfl : q = n := by omega
      go_wp2_with fail
      go_ret
      exact ⟨by rw [HM.out]; rfl, Below.refl _ _⟩

theorem cutsF_any (B : Nat) (a : Option Addr) (n c p : Nat) (t : Nat → Gt) (w : World) (h : RowG w a n t) (hc : chG t n = 0) (hB : w.cell? ⟨B, 0, none⟩ = some (.slice a n c)) (hp : p < 65536) :
    Calls Try.prog 39 #[.int .u16 p, .pointer (some ⟨B, 0, none⟩)] w fun e w' => e = .returned (.bool (faT t n p)) ∧ Below w.heap.size w w' := by
  have C : Hid (Calls Try.prog 37 #[.slice a n c, .int .u16 p] w fun e w' => e = .returned (.bool (faT t n p)) ∧ Below w.heap.size w w') := lastFails_any a n c p t w h hc hp
  have lB := lt_of_cell hB
  clear h hc hp
  go_enter Try.func39, Try.ntmps39
  go_wp2_with fail
  refine C.out.mono ?_
  rintro e w1 ⟨rfl, hb⟩
  go_wp2_with fail
  go_ret
  exact ⟨rfl, hb⟩

theorem acrossF_any (B : Nat) (a : Option Addr) (n c s : Nat) (f : Nat → Nat) (w : World) (hn : n ≤ 100) (h : RS w a n f) (hf : ∀ j, j < n → f j < 65536) (hB : w.cell? ⟨B, 0, none⟩ = some (.slice a n c)) (hs : s < 65536) :
    Calls Try.prog 41 #[.int .u16 s, .pointer (some ⟨B, 0, none⟩)] w fun e w' => e = .returned (.bool (mtB f s n)) ∧ Below w.heap.size w w' := by
  have C : Hid (Calls Try.prog 42 #[.int .u16 s, .slice a n c] w fun e w' => e = .returned (.bool (mtB f s n)) ∧ Below w.heap.size w w') := meetsAll_any a n c s f w hn h hf hs
  have lB := lt_of_cell hB
  clear h hf hs
  go_enter Try.func41, Try.ntmps41
  go_wp2_with fail
  refine C.out.mono ?_
  rintro e w1 ⟨rfl, hb⟩
  go_wp2_with fail
  go_ret
  exact ⟨rfl, hb⟩

theorem RowU.back {w w1 w' : World} {l : List Nat} {v : Value} (h : RowU w1 l v w') (hb : Below w.heap.size w w1) : RowU w l v w' := by
  obtain ⟨a, c, rfl, h1, h2, h3⟩ := h
  exact ⟨a, c, rfl, h1, fun hn => by
    obtain ⟨b, e, h4, h5⟩ := h2 hn
    exact ⟨b, e, Nat.le_trans hb.size h4, h5⟩, hb.trans (h3.mono hb.size)⟩

theorem cuts_bad (a : Option Addr) (n c : Nat) (t : Nat → Gt) (w : World) (h : RowG w a n t) (E : Int) (hE : chG t n = E) (h0 : ¬ E = 0) :
    Calls Try.prog 10 #[.slice a n c] w fun e w' => e = .returned (.tuple #[.slice none 0 0, .int .i64 E]) ∧ Below w.heap.size w w' := by
  have C : Hid (∀ W, Below w.heap.size w W → Calls Try.prog 19 #[.slice a n c] W fun e w' => e = .returned (.int .i64 E) ∧ Below W.heap.size W w') := fun W hW => hE ▸ checkT_any a n c t W (h.step hW)
  have HB0 : Hid (Below w.heap.size w (w.alloc (.cells #[.slice a n c] 22))) := gbox _ _
  have z : (E != 0) = true := by simpa using h0
  clear h hE
  go_enter Try.func10, Try.ntmps10
  go_wp2_with fail
  refine (C.out _ HB0.out).mono ?_
  rintro e w1 ⟨rfl, hb⟩
  have B1 : Hid (Below w.heap.size w w1) := HB0.out.trans (hb.mono HB0.out.size)
  clear hb
  go_wp2_with fail
  go_returns
  exact ⟨rfl, B1.out⟩

set_option maxHeartbeats 1000000 in
theorem cuts_ok (a : Option Addr) (n c : Nat) (t : Nat → Gt) (w : World) (h : RowG w a n t) (hE : chG t n = 0) :
    Calls Try.prog 10 #[.slice a n c] w fun e w' => ∃ v, e = .returned (.tuple #[v, .int .i64 0]) ∧ RowU w (leastL (faT t n)) v w' := by
  have C : Hid (∀ W, Below w.heap.size w W → Calls Try.prog 19 #[.slice a n c] W fun e w' => e = .returned (.int .i64 0) ∧ Below W.heap.size W w') := fun W hW => hE ▸ checkT_any a n c t W (h.step hW)
  have HB0 : Hid (Below w.heap.size w (w.alloc (.cells #[.slice a n c] 22))) := gbox _ _
  have D : Hid (∀ W, Below w.heap.size w W → W.cell? ⟨w.heap.size, 0, none⟩ = some (.slice a n c) → HoldsC 39 ⟨w.heap.size, 0, none⟩ W (faT t n)) := fun W hW hc V s hs hV =>
    cutsF_any w.heap.size a n c s t V ((h.step hW).step hV) hE ((hV.cell (p := ⟨w.heap.size, 0, none⟩) (lt_of_cell hc)).trans hc) (by omega)
  clear h hE
  go_enter Try.func10, Try.ntmps10
  go_wp2_with fail
  refine (C.out _ HB0.out).mono ?_
  rintro e w1 ⟨rfl, hb⟩
  have c1 := (hb.cell (p := ⟨w.heap.size, 0, none⟩) (by simp)).trans (show _ = some (.slice a n c) by go_simp)
  have B1 : Hid (Below w.heap.size w w1) := HB0.out.trans (hb.mono HB0.out.size)
  have D1 := D.out _ B1.out c1
  clear hb D C c1
  go_wp2_with fail
  refine (least_any 39 ⟨w.heap.size, 0, none⟩ (faT t n) _ entF_cuts D1).mono ?_
  rintro e w2 ⟨v, rfl, hv⟩
  have V : Hid (RowU w (leastL (faT t n)) v w2) := hv.back B1.out
  clear hv D1 B1
  go_wp2_with fail
  go_returns
  exact ⟨v, rfl, V.out⟩

theorem across_large (a : Option Addr) (n c : Nat) (w : World) (hn : 100 < n) :
    Calls Try.prog 12 #[.slice a n c] w fun e w' => e = .returned (.tuple #[.slice none 0 0, .int .i64 2]) ∧ Below w.heap.size w w' := by
  have HB0 : Hid (Below w.heap.size w (w.alloc (.cells #[.slice a n c] 24))) := gbox _ _
  have z : (100 : Int) < (n : Int) := by omega
  go_enter Try.func12, Try.ntmps12
  go_wp2_with fail
  go_returns
  exact ⟨rfl, HB0.out⟩

set_option maxHeartbeats 1000000 in
set_option maxRecDepth 100000 in
theorem across_small (a : Option Addr) (n c : Nat) (f : Nat → Nat) (w : World) (hn : ¬ 100 < n) (h : RS w a n f) (hf : ∀ j, j < n → f j < 65536) (E : Bool) (hE : bigB f n = E) :
    Calls Try.prog 12 #[.slice a n c] w fun e w' => (E = true ∧ e = .returned (.tuple #[.slice none 0 0, .int .i64 1]) ∧ Below w.heap.size w w') ∨ (E = false ∧ ∃ v, e = .returned (.tuple #[v, .int .i64 0]) ∧ RowU w (leastL fun s => mtB f s n) v w') := by
  have HB0 : Hid (Below w.heap.size w (w.alloc (.cells #[.slice a n c] 24))) := gbox _ _
  have z : ¬ (100 : Int) < (n : Int) := by omega
  have HR : Hid (RS w a n f) := h
  have KB : Hid (∀ j, j < n → 255 < f j → E = true) := fun j hj hf => hE ▸ bigB_yes hj hf
  have KE : Hid (bigB f n = false → E = false) := fun q => hE ▸ q
  have D : Hid (∀ W, Below w.heap.size w W → W.cell? ⟨w.heap.size, 0, none⟩ = some (.slice a n c) → HoldsC 41 ⟨w.heap.size, 0, none⟩ W (fun s => mtB f s n)) := fun W hW hc V s hs hV =>
    acrossF_any w.heap.size a n c s f V (by omega) ((h.step hW).step hV) hf ((hV.cell (p := ⟨w.heap.size, 0, none⟩) (lt_of_cell hc)).trans hc) (by omega)
  have D1 := D.out _ HB0.out (by go_simp)
  have HN : Hid (n ≤ 100) := by show n ≤ 100; omega
  clear h hf hE D hn
  go_enter Try.func12, Try.ntmps12
  go_wp2_with fail
  go_loopg [11] (n + 1) (fun g u wr => ∃ q : Nat, u = .int .i64 q ∧ n - q < g ∧ q ≤ n ∧ Hid (bigB f q = false) ∧ wr = w.alloc (.cells #[.slice a n c] 24))
  case atStart => exact ⟨0, rfl, by omega, by omega, rfl, rfl⟩
  case round =>
    obtain ⟨q, rfl, hg, hq, HM, rfl⟩ := hrel
    by_cases hlt : q < n
    · have z1 : (q : Int) < (n : Int) := by omega
      have HQ : Hid (RS _ a n f) := HR.out.step HB0.out
      obtain ⟨b, o, rfl, hb, hc⟩ := HQ.out (by omega)
      have x0 := hc q hlt
      have z3 : (q : Int) < 100 := by have := HN.out; omega
      have KY : Hid (¬ 255 < f q → bigB f (q + 1) = false) := bigB_no HM.out
      have KN : Hid (255 < f q → E = true) := KB.out q hlt
      clear hc
      generalize f q = y at *
      by_cases hz : 255 < y
      · have Q : Hid (E = true) := KN.out hz
        have z4 : (256 : Int) ≤ (y : Int) := by omega
        go_wp2_with fail
        go_returns
        exact Or.inl ⟨Q.out, rfl, HB0.out⟩
      · have Q : Hid (bigB f (q + 1) = false) := KY.out hz
        have z4 : ¬ (256 : Int) ≤ (y : Int) := by omega
        clear hz KY KN
        go_wp2_with fail
        go_roundg (n - (q + 1) + 1)
        case measure => omega
        case rel => exact ⟨q + 1, by go_num, by omega, by omega, Q.out, rfl⟩
    · have z1 : ¬ (q : Int) < (n : Int) := by omega
      obtain rfl : q = n := by omega
      have Q : Hid (E = false) := KE.out HM.out
      go_wp2_with fail
      refine (least_any 41 ⟨w.heap.size, 0, none⟩ (fun s => mtB f s q) _ entF_across D1).mono ?_
      rintro e w2 ⟨v, rfl, hv⟩
      have V : Hid (RowU w (leastL fun s => mtB f s q) v w2) := hv.back HB0.out
      clear hv D1
      go_wp2_with fail
      go_returns
      exact Or.inr ⟨Q.out, v, rfl, V.out⟩

end Go.Proofs.Ytacophekhknbpaa
