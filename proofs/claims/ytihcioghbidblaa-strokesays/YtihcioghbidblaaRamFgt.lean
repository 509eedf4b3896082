/-
  Contracts of ram.Push, ram.share and ram.Fight (and of sat.Sum at four numbers): whatever is handed in.
-/
import Derived.Test.YtihcioghbidblaaRamStep
import Derived.Deep.LoopGhost
namespace Go.Proofs.Ytihcioghbidblaa
open Go.RowKit
set_option linter.unusedVariables false

/-- what each Active lane would push if all pushed alike: s all of them, saturated, k how many -/
def shrI (k s : Int) : Int := if k = 0 then 0 else s.tdiv k
theorem shrI_I {k s : Int} (hk : 0 ≤ k) (hs : I32 s) : I32 (shrI k s) := by
  unfold shrI
  split
  · exact ⟨by decide, by decide⟩
  · have := tdiv_bd (n := s) (b := k) (P := 2147483648) hs.1 (by have := hs.2; omega)
    refine ⟨this.1, ?_⟩
    rcases Int.lt_or_le s 0 with q | q
    · have e : s.tdiv k = -((-s).tdiv k) := by rw [Int.neg_tdiv, Int.neg_neg]
      have : 0 ≤ (-s).tdiv k := Int.tdiv_nonneg (by omega) hk
      omega
    · have := tdiv_bd (n := s) (b := k) (P := 2147483647) (by omega) hs.2
      omega

/-- four numbers by their place -/
def q4 (a b c d : Int) (j : Nat) : Int := if j = 0 then a else if j = 1 then b else if j = 2 then c else d
/-- the first j of them, and nothing behind -/
def upJ (f : Nat → Int) (j i : Nat) : Int := if i < j then f i else 0
/-- the boxes of what two lists of four came in as, the answer's (nothing in it yet) and a third list's, which holds the first j of f -/
structure Fx (w : World) (p0 p1 p2 p3 a b c d : Int) (f : Nat → Int) (j : Nat) (W : World) : Prop where
  bel : Below w.heap.size w W
  hp : Cells W w.heap.size [.int .i32 p0, .int .i32 p1, .int .i32 p2, .int .i32 p3]
  hm : Cells W (w.heap.size + 1) [.int .i64 a, .int .i64 b, .int .i64 c, .int .i64 d]
  hx : Cells W (w.heap.size + 1 + 1) [.int .i32 0, .int .i32 0, .int .i32 0, .int .i32 0]
  hf : Cells W (w.heap.size + 1 + 1 + 1) [.int .i32 (upJ f j 0), .int .i32 (upJ f j 1), .int .i32 (upJ f j 2), .int .i32 (upJ f j 3)]
theorem Fx.step {w : World} {p0 p1 p2 p3 a b c d : Int} {f : Nat → Int} {j : Nat} {W W' : World} (h : Fx w p0 p1 p2 p3 a b c d f j W) (hb : Below W.heap.size W W') : Fx w p0 p1 p2 p3 a b c d f j W' :=
  ⟨h.bel.trans (hb.mono h.bel.size), h.hp.step hb, h.hm.step hb, h.hx.step hb, h.hf.step hb⟩
theorem upJ_same {f : Nat → Int} {j : Nat} (h : f j = 0) : upJ f (j + 1) = upJ f j := by
  funext i
  unfold upJ
  by_cases e : i = j
  · subst e
    rw [if_pos (by omega), if_neg (by omega), h]
  · by_cases q : i < j
    · rw [if_pos (by omega), if_pos q]
    · rw [if_neg (by omega), if_neg q]
theorem Fx.same {w : World} {p0 p1 p2 p3 a b c d : Int} {f : Nat → Int} {j : Nat} {W : World} (h : Fx w p0 p1 p2 p3 a b c d f j W) (e : f j = 0) : Fx w p0 p1 p2 p3 a b c d f (j + 1) W :=
  ⟨h.bel, h.hp, h.hm, h.hx, by rw [upJ_same e]; exact h.hf⟩
theorem Fx.store {w : World} {p0 p1 p2 p3 a b c d : Int} {f : Nat → Int} {j : Nat} {W : World} (h : Fx w p0 p1 p2 p3 a b c d f j W) (hj : j < 4) : Fx w p0 p1 p2 p3 a b c d f (j + 1) (W.setCell ⟨w.heap.size + 1 + 1 + 1, j, none⟩ (.int .i32 (f j))) := by
  refine ⟨h.bel.setCell (p := ⟨w.heap.size + 1 + 1 + 1, j, none⟩) (by simp; omega) _, h.hp.other (by omega) _, h.hm.other (by omega) _, h.hx.other (by omega) _, ?_⟩
  have := h.hf.set (j := j) (by simpa using hj) (.int .i32 (f j))
  have e : j = 0 ∨ j = 1 ∨ j = 2 ∨ j = 3 := by omega
  obtain rfl | rfl | rfl | rfl := e <;> exact this
theorem fx_new (w : World) (p0 p1 p2 p3 a b c d : Int) (f : Nat → Int) (t1 t2 t3 t4 : TypeId) : Fx w p0 p1 p2 p3 a b c d f 0 ((((w.alloc (.cells #[.int .i32 p0, .int .i32 p1, .int .i32 p2, .int .i32 p3] t1)).alloc (.cells #[.int .i64 a, .int .i64 b, .int .i64 c, .int .i64 d] t2)).alloc (.cells #[.int .i32 0, .int .i32 0, .int .i32 0, .int .i32 0] t3)).alloc (.cells #[.int .i32 0, .int .i32 0, .int .i32 0, .int .i32 0] t4)) := by
  have h1 := cells_new w #[.int .i32 p0, .int .i32 p1, .int .i32 p2, .int .i32 p3] t1
  have h2 := cells_new (w.alloc (.cells #[.int .i32 p0, .int .i32 p1, .int .i32 p2, .int .i32 p3] t1)) #[.int .i64 a, .int .i64 b, .int .i64 c, .int .i64 d] t2
  have h3 := cells_new ((w.alloc (.cells #[.int .i32 p0, .int .i32 p1, .int .i32 p2, .int .i32 p3] t1)).alloc (.cells #[.int .i64 a, .int .i64 b, .int .i64 c, .int .i64 d] t2)) #[.int .i32 0, .int .i32 0, .int .i32 0, .int .i32 0] t3
  have h4 := cells_new (((w.alloc (.cells #[.int .i32 p0, .int .i32 p1, .int .i32 p2, .int .i32 p3] t1)).alloc (.cells #[.int .i64 a, .int .i64 b, .int .i64 c, .int .i64 d] t2)).alloc (.cells #[.int .i32 0, .int .i32 0, .int .i32 0, .int .i32 0] t3)) #[.int .i32 0, .int .i32 0, .int .i32 0, .int .i32 0] t4
  simp only [World.size_alloc] at h2 h3 h4
  exact ⟨((((Below.refl _ w).alloc (Nat.le_refl _) _).alloc (by simp) _).alloc (by simp; omega) _).alloc (by simp; omega) _, ((h1.alloc _).alloc _).alloc _, (h2.alloc _).alloc _, h3.alloc _, h4⟩
/-- the answer laid down -/
theorem Fx.put {w : World} {p0 p1 p2 p3 a b c d : Int} {f : Nat → Int} {j : Nat} {W : World} (h : Fx w p0 p1 p2 p3 a b c d f j W) (x0 x1 x2 x3 : Int) :
    ∃ w3, (((W.setCell ⟨w.heap.size + 1 + 1, 0, none⟩ (.int .i32 x0)).setCell ⟨w.heap.size + 1 + 1, 1, none⟩ (.int .i32 x1)).setCell ⟨w.heap.size + 1 + 1, 2, none⟩ (.int .i32 x2)).setCell ⟨w.heap.size + 1 + 1, 3, none⟩ (.int .i32 x3) = w3 ∧ w3.cell? ⟨w.heap.size + 1 + 1, 0, none⟩ = some (.int .i32 x0) ∧ w3.cell? ⟨w.heap.size + 1 + 1, 1, none⟩ = some (.int .i32 x1) ∧ w3.cell? ⟨w.heap.size + 1 + 1, 2, none⟩ = some (.int .i32 x2) ∧ w3.cell? ⟨w.heap.size + 1 + 1, 3, none⟩ = some (.int .i32 x3) ∧ Below w.heap.size w w3 := by
  have c := (((h.hx.set (j := 0) (by simp) (.int .i32 x0)).set (j := 1) (by simp) (.int .i32 x1)).set (j := 2) (by simp) (.int .i32 x2)).set (j := 3) (by simp) (.int .i32 x3)
  exact ⟨_, rfl, c.cell 0 _ rfl, c.cell 1 _ rfl, c.cell 2 _ rfl, c.cell 3 _ rfl, (((h.bel.setCell (p := ⟨w.heap.size + 1 + 1, 0, none⟩) (by simp; omega) _).setCell (p := ⟨w.heap.size + 1 + 1, 1, none⟩) (by simp; omega) _).setCell (p := ⟨w.heap.size + 1 + 1, 2, none⟩) (by simp; omega) _).setCell (p := ⟨w.heap.size + 1 + 1, 3, none⟩) (by simp; omega) _⟩
theorem Fx.facts {w : World} {p0 p1 p2 p3 a b c d : Int} {f : Nat → Int} {j : Nat} {W : World} (h : Fx w p0 p1 p2 p3 a b c d f j W) :
    (W.cell? ⟨w.heap.size, 0, none⟩ = some (.int .i32 p0) ∧ W.cell? ⟨w.heap.size, 1, none⟩ = some (.int .i32 p1) ∧ W.cell? ⟨w.heap.size, 2, none⟩ = some (.int .i32 p2) ∧ W.cell? ⟨w.heap.size, 3, none⟩ = some (.int .i32 p3) ∧ w.heap.size < W.heap.size) ∧ (W.cell? ⟨w.heap.size + 1, 0, none⟩ = some (.int .i64 a) ∧ W.cell? ⟨w.heap.size + 1, 1, none⟩ = some (.int .i64 b) ∧ W.cell? ⟨w.heap.size + 1, 2, none⟩ = some (.int .i64 c) ∧ W.cell? ⟨w.heap.size + 1, 3, none⟩ = some (.int .i64 d) ∧ w.heap.size + 1 < W.heap.size) ∧ (W.cell? ⟨w.heap.size + 1 + 1 + 1, 0, none⟩ = some (.int .i32 (upJ f j 0)) ∧ W.cell? ⟨w.heap.size + 1 + 1 + 1, 1, none⟩ = some (.int .i32 (upJ f j 1)) ∧ W.cell? ⟨w.heap.size + 1 + 1 + 1, 2, none⟩ = some (.int .i32 (upJ f j 2)) ∧ W.cell? ⟨w.heap.size + 1 + 1 + 1, 3, none⟩ = some (.int .i32 (upJ f j 3)) ∧ w.heap.size + 1 + 1 + 1 < W.heap.size) :=
  ⟨⟨h.hp.cell 0 _ rfl, h.hp.cell 1 _ rfl, h.hp.cell 2 _ rfl, h.hp.cell 3 _ rfl, h.hp.lt⟩, ⟨h.hm.cell 0 _ rfl, h.hm.cell 1 _ rfl, h.hm.cell 2 _ rfl, h.hm.cell 3 _ rfl, h.hm.lt⟩, ⟨h.hf.cell 0 _ rfl, h.hf.cell 1 _ rfl, h.hf.cell 2 _ rfl, h.hf.cell 3 _ rfl, h.hf.lt⟩⟩
theorem Fx.free {w : World} {p0 p1 p2 p3 a b c d : Int} {f : Nat → Int} {j : Nat} {W : World} (h : Fx w p0 p1 p2 p3 a b c d f j W) :
    (W.frozen? ⟨w.heap.size + 1 + 1 + 1, 0, none⟩ = false ∧ W.frozen? ⟨w.heap.size + 1 + 1 + 1, 1, none⟩ = false ∧ W.frozen? ⟨w.heap.size + 1 + 1 + 1, 2, none⟩ = false ∧ W.frozen? ⟨w.heap.size + 1 + 1 + 1, 3, none⟩ = false) ∧ (W.cell? ⟨w.heap.size + 1 + 1, 0, none⟩ = some (.int .i32 0) ∧ W.cell? ⟨w.heap.size + 1 + 1, 1, none⟩ = some (.int .i32 0) ∧ W.cell? ⟨w.heap.size + 1 + 1, 2, none⟩ = some (.int .i32 0) ∧ W.cell? ⟨w.heap.size + 1 + 1, 3, none⟩ = some (.int .i32 0) ∧ w.heap.size + 1 + 1 < W.heap.size) ∧ (W.frozen? ⟨w.heap.size + 1 + 1, 0, none⟩ = false ∧ W.frozen? ⟨w.heap.size + 1 + 1, 1, none⟩ = false ∧ W.frozen? ⟨w.heap.size + 1 + 1, 2, none⟩ = false ∧ W.frozen? ⟨w.heap.size + 1 + 1, 3, none⟩ = false) :=
  ⟨⟨h.hf.froz 0 _ rfl, h.hf.froz 1 _ rfl, h.hf.froz 2 _ rfl, h.hf.froz 3 _ rfl⟩, ⟨h.hx.cell 0 _ rfl, h.hx.cell 1 _ rfl, h.hx.cell 2 _ rfl, h.hx.cell 3 _ rfl, h.hx.lt⟩, ⟨h.hx.froz 0 _ rfl, h.hx.froz 1 _ rfl, h.hx.froz 2 _ rfl, h.hx.froz 3 _ rfl⟩⟩

/-- what one lane fights: its push less each one's share -/
def fgI (m p e : Int) : Int := if m = 1 then s32 (p - e) else 0
theorem fgI_yes (p e : Int) : fgI 1 p e = s32 (p - e) := if_pos rfl
theorem fgI_no {m : Int} (h : ¬ m = 1) (p e : Int) : fgI m p e = 0 := if_neg h
theorem fgI_I (m p e : Int) : I32 (fgI m p e) := by
  unfold fgI
  split
  · exact s32_I _
  · exact ⟨by decide, by decide⟩
theorem cases4 {j : Nat} (h : j < 4) : j = 0 ∨ j = 1 ∨ j = 2 ∨ j = 3 := by omega

end Go.Proofs.Ytihcioghbidblaa
