/-
  A row of entries; contract of log.Check.
-/
import Derived.Test.YtkklinjamcfppaaDoorEnt
import Derived.Deep.LoopGhost
import Derived.Deep.DeepCutAuto
namespace Go.Proofs.YtkklinjamcfppaaDoor
open Go.RowKit
set_option linter.unusedVariables false

/-- an entry lies there -/
structure EAt (w : World) (b o : Nat) (x : En) : Prop where
  f : w.cell? ⟨b, o, none⟩ = some (.int .i64 x.f)
  l : w.cell? ⟨b, o + 1, none⟩ = some (.int .i64 x.l)
  c : w.cell? ⟨b, o + 2, none⟩ = some (.int .i64 x.c)
  m : w.cell? ⟨b, o + 3, none⟩ = some (.int .i64 x.m)
theorem EAt.step {w w' : World} {b o : Nat} {x : En} (h : EAt w b o x) (hb : Below w.heap.size w w') (hl : b < w.heap.size) : EAt w' b o x :=
  ⟨(hb.cell (p := ⟨b, o, none⟩) hl).trans h.f, (hb.cell (p := ⟨b, o + 1, none⟩) hl).trans h.l, (hb.cell (p := ⟨b, o + 2, none⟩) hl).trans h.c, (hb.cell (p := ⟨b, o + 3, none⟩) hl).trans h.m⟩
/-- n entries that lie one behind another in memory that is there; or none -/
def RowE (w : World) (a : Option Addr) (n : Nat) (l : Nat → En) : Prop := 0 < n → ∃ b o, a = some ⟨b, o, none⟩ ∧ b < w.heap.size ∧ ∀ j, j < n → EAt w b (o + j * 4) (l j)
theorem RowE.step {w w' : World} {a : Option Addr} {n : Nat} {l : Nat → En} (h : RowE w a n l) (hb : Below w.heap.size w w') : RowE w' a n l := fun hn => by
  obtain ⟨b, o, rfl, h1, h2⟩ := h hn
  exact ⟨b, o, rfl, Nat.lt_of_lt_of_le h1 hb.size, fun j hj => (h2 j hj).step hb h1⟩
theorem below_dN {N : Nat} {w w' : World} (h : Below N w w') (d : Nat) : Below N w (w'.drewN d) := h.trans ⟨rfl, rfl, rfl, Nat.le_refl _, fun _ _ => rfl⟩
theorem below_then {N M : Nat} {w w1 w2 : World} (h : Below N w w1) (h2 : Below M w1 w2) (hM : N ≤ M) : Below N w w2 := h.trans (h2.mono hM)

set_option maxHeartbeats 1000000 in
theorem check_large (a : Option Addr) (n c : Nat) (h : 32 < n) (w : World) : Calls Tryd.prog 13 #[.slice a n c] w fun e w' => e = .returned (.int .i64 2) ∧ Below w.heap.size w w' := by
  have z2 : (32 : Int) < (n : Int) := by omega
  go_enter Tryd.func13, Tryd.ntmps13
  go_wp2_with fail
  go_ret
  exact ⟨rfl, Below.refl _ _⟩

set_option maxHeartbeats 8000000 in
set_option maxRecDepth 100000 in
theorem check_small (a : Option Addr) (n c : Nat) (l : Nat → En) (w : World) (hn : n ≤ 32) (h : RowE w a n l) :
    Calls Tryd.prog 13 #[.slice a n c] w fun e w' => e = .returned (.int .i64 (fsE l n)) ∧ Below w.heap.size w w' := by
  have HR : Hid (RowE w a n l) := h
  clear h
  have C1 : Hid (_) := isRight_any
  have C2 : Hid (_) := mayFollow_any
  have z2 : ¬ (32 : Int) < (n : Int) := by omega
  go_enter Tryd.func13, Tryd.ntmps13
  go_wp2_with fail
  go_loopg [10] (n + 1) (fun g s wr => ∃ q : Nat, s = .int .i64 q ∧ n - q < g ∧ q ≤ n ∧ fsE l q = 0 ∧ Hid (Below w.heap.size w wr))
  case atStart => exact ⟨0, rfl, by omega, by omega, rfl, Below.refl _ _⟩
  case round =>
    obtain ⟨q, rfl, hg, hq, hf, hB⟩ := hrel
    have HF : Hid (fsE l q = 0) := hf
    clear hf
    by_cases hlt : q < n
    · have z1 : (q : Int) < (n : Int) := by omega
      have HQ : Hid (RowE wr a n l) := HR.out.step hB.out
      obtain ⟨b, o, rfl, hb, hc⟩ := HQ.out (by omega)
      obtain ⟨x0, x1, x2, x3⟩ := hc q hlt
      have BX : Hid (Cells (wr.alloc (.cells #[.int .i64 (l q).f, .int .i64 (l q).l, .int .i64 (l q).c, .int .i64 (l q).m] 33)) wr.heap.size [.int .i64 (l q).f, .int .i64 (l q).l, .int .i64 (l q).c, .int .i64 (l q).m]) := cells_new _ _ _
      have BA : Hid (Below wr.heap.size wr (wr.alloc (.cells #[.int .i64 (l q).f, .int .i64 (l q).l, .int .i64 (l q).c, .int .i64 (l q).m] 33))) := (Below.refl _ wr).alloc (Nat.le_refl _) _
      go_wp2_with fail
      refine (C1.out _ _).mono ?_
      rintro e w1 ⟨rfl, hb1⟩
      have BX1 : Hid (_) := BX.out.step hb1
      have B1 : Hid (Below w.heap.size w w1) := below_then (below_then hB.out BA.out hB.out.size) hb1 (by have := hB.out.size; simp; omega)
      have y0 := BX1.out.cell 0 _ rfl
      have y1 := BX1.out.cell 1 _ rfl
      have y2 := BX1.out.cell 2 _ rfl
      have y3 := BX1.out.cell 3 _ rfl
      rcases twoB (okE (l q)) with h1 | h1
      · have Q : Hid (fsE l n = 1) := (fsE_first HF.out (by rw [wrE_arg h1]; decide) hlt).trans (wrE_arg h1)
        go_wp2_with fail
        go_ret
        exact ⟨by rw [Q.out]; rfl, B1.out⟩
      · have H1 : Hid (okE (l q) = true) := h1
        by_cases e0 : q = 0
        · subst e0
          have g0 : decide ((0 : Int) < 0) = false := by decide
          have HN : Hid (fsE l (0 + 1) = 0) := fsE_next HF.out (wrE_ok h1 (fun k => absurd k (by omega)))
          clear x0 x1 x2 x3 hc
          go_wp2_with fail
          go_quiet (fail)
          go_wp2_with fail
          go_roundg (n - (0 + 1) + 1)
          case measure => omega
          case rel => exact ⟨0 + 1, by go_num, by omega, by omega, HN.out, below_dN B1.out _⟩
        · obtain ⟨k, rfl⟩ : ∃ k, q = k + 1 := ⟨q - 1, by omega⟩
          have H2 : Hid (Cells w1 wr.heap.size [.int .i64 (l (k + 1)).f, .int .i64 (l (k + 1)).l, .int .i64 (l (k + 1)).c, .int .i64 (l (k + 1)).m]) := BX1.out
          have PA : Hid (EAt w1 b (o + k * 4) (l k) ∧ b < w1.heap.size) := ⟨((hc k (by omega)).step BA.out hb).step hb1 (by simp; omega), by have := hb1.size; simp at this; omega⟩
          obtain ⟨p0, p1, p2, p3⟩ := PA.out.1
          have C3 : Hid (∀ W, Calls Tryd.prog 33 #[.agg #[.int .i64 (l (k + 1)).f, .int .i64 (l (k + 1)).l, .int .i64 (l (k + 1)).c, .int .i64 (l (k + 1)).m], .agg #[.int .i64 (l k).f, .int .i64 (l k).l, .int .i64 (l k).c, .int .i64 (l k).m]] W fun e w' => e = .returned (.bool (mayB (l (k + 1)) (l k))) ∧ Below W.heap.size W w') := fun W => mayFollow_any _ _ W
          have D1 : Hid (Below wr.heap.size wr w1) := below_then BA.out hb1 (by simp)
          clear x0 x1 x2 x3 hc BX BX1 hb1
          have z4 : (k : Int) < (n : Int) := by omega
          go_wp2_with fail
          have z5 : IntKind.i64.wrap (k : Int) = (k : Int) := by rw [IntKind.wrap_i64]; omega
          have z6 : (0 : Int) ≤ (k : Int) := by omega
          go_region_held3 (fun w' => (w'.cell? ⟨wr.heap.size, 0, none⟩ = some (.int .i64 (l (k + 1)).f) ∧ w'.cell? ⟨wr.heap.size, 1, none⟩ = some (.int .i64 (l (k + 1)).l) ∧ w'.cell? ⟨wr.heap.size, 2, none⟩ = some (.int .i64 (l (k + 1)).c) ∧ w'.cell? ⟨wr.heap.size, 3, none⟩ = some (.int .i64 (l (k + 1)).m)) ∧ (w'.cell? ⟨b, o + k * 4, none⟩ = some (.int .i64 (l k).f) ∧ w'.cell? ⟨b, o + k * 4 + 1, none⟩ = some (.int .i64 (l k).l) ∧ w'.cell? ⟨b, o + k * 4 + 2, none⟩ = some (.int .i64 (l k).c) ∧ w'.cell? ⟨b, o + k * 4 + 3, none⟩ = some (.int .i64 (l k).m))) (go_keep) (first | (go_at_call 33; refine (C3.out _).mono ?_; rintro e w2 ⟨rfl, hb2⟩; have B2 : Hid (Below w.heap.size w w2) := below_then B1.out ((Below.refl _ _).drew.trans hb2) B1.out.size; obtain ⟨r0, r1, r2, r3⟩ := PA.out.1.step ((Below.refl _ _).drew.trans hb2) PA.out.2; have S2 := H2.out.step ((Below.refl _ _).drew.trans hb2); have s0 := S2.cell 0 _ rfl; have s1 := S2.cell 1 _ rfl; have s2 := S2.cell 2 _ rfl; have s3 := S2.cell 3 _ rfl; clear hb2 S2))
          clear y0 y1 y2 y3 p0 p1 p2 p3 r0 r1 r2 r3 s0 s1 s2 s3 z5 z6
          rcases twoB (mayB (l (k + 1)) (l k)) with h2 | h2
          · have Q : Hid (fsE l n = 4) := (fsE_first HF.out (by rw [wrE_form H1.out (by omega) h2]; decide) hlt).trans (wrE_form H1.out (by omega) h2)
            rw [h2]
            clear h2
            go_wp2_with fail
            go_ret
            exact ⟨by rw [Q.out]; rfl, B2.out⟩
          · have HN : Hid (fsE l (k + 1 + 1) = 0) := fsE_next HF.out (wrE_ok H1.out (fun _ => h2))
            rw [h2]
            clear h2
            go_wp2_with fail
            go_roundg (n - (k + 1 + 1) + 1)
            case measure => omega
            case rel => exact ⟨k + 1 + 1, by go_num, by omega, by omega, HN.out, B2.out⟩
    · have z1 : ¬ (q : Int) < (n : Int) := by omega
      obtain rfl : q = n := by omega
      go_wp2_with fail
      go_ret
      exact ⟨by rw [HF.out]; rfl, hB.out⟩

theorem check_any (a : Option Addr) (n c : Nat) (l : Nat → En) (w : World) (h : RowE w a n l) :
    Calls Tryd.prog 13 #[.slice a n c] w fun e w' => e = .returned (.int .i64 (chE l n)) ∧ Below w.heap.size w w' := by
  unfold chE
  split
  · exact check_large a n c (by omega) w
  · exact check_small a n c l w (by omega) h

end Go.Proofs.YtkklinjamcfppaaDoor
