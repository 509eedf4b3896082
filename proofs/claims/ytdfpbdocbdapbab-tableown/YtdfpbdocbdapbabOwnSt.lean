/-
  What TableOwn carries through its walk: the table that came in, boxed; its copy with memory to spare; rows that stay where other blocks turn.
-/
import Derived.Test.YtdfpbdocbdapbabOwnTab
import Derived.Test.YtdfpbdocbdapbabOpenZ
import Derived.Deep.Onto
namespace Go.Proofs.Ytdfpbdocbdapbab
open Go.RowKit
set_option linter.unusedVariables false

theorem RowK.below {k : IntKind} {w W : World} {a : Option Addr} {n c : Nat} {l : Nat → Int} (h : RowK k w a n c l) (hb : Below w.heap.size w W) : RowK k W a n c l := by
  obtain ⟨h1, h2, h3, h4⟩ := h
  refine ⟨h1, h2, h3, fun q => ?_⟩
  obtain ⟨b, off, e, h5, h6⟩ := h4 q
  exact ⟨b, off, e, Nat.lt_of_lt_of_le h5 hb.size, fun j hj => (hb.cell (p := ⟨b, off + j, none⟩) h5).trans (h6 j hj)⟩
theorem RowZ.below {k : IntKind} {by1 : Nat} {w W : World} {a : Option Addr} {n c : Nat} {l : Nat → Int} (h : RowZ k by1 w a n c l) (hb : Below w.heap.size w W) : RowZ k by1 W a n c l := ⟨RowK.below h.1 hb, h.2⟩
theorem good1 {w : World} {b1 b2 : Nat} (c0 : w.cell? ⟨b1, 0, none⟩ = some (.int .i32 0)) (d0 : w.cell? ⟨b2, 0, none⟩ = some (.int .i32 3)) : Good w b1 0 b2 0 1 (fun _ => 0) (fun _ => 3) where
  most := by omega
  pos := by omega
  iX := fun j => (by omega : -2147483648 ≤ (0 : Int) ∧ (0 : Int) ≤ 2147483647)
  iY := fun j => (by omega : -2147483648 ≤ (3 : Int) ∧ (3 : Int) ≤ 2147483647)
  lX := lt_of_cell c0
  lY := lt_of_cell d0
  hX := fun j hj => by
    obtain rfl : j = 0 := by omega
    exact c0
  hY := fun j hj => by
    obtain rfl : j = 0 := by omega
    exact d0
  rises := by
    rw [risesB_iff]
    intro k hk
    omega

/-- behind w nothing has turned that was there; the table that came in lies boxed in block w.heap.size -/
structure St0 (w : World) (vX vY : Value) (W : World) : Prop where
  bel : Below w.heap.size w W
  b0 : W.cell? ⟨w.heap.size, 0, none⟩ = some vX
  b1 : W.cell? ⟨w.heap.size, 1, none⟩ = some vY
  lt : w.heap.size < W.heap.size
theorem St0.step {w : World} {vX vY : Value} {W W' : World} (h : St0 w vX vY W) (hb : Below W.heap.size W W') : St0 w vX vY W' :=
  ⟨h.bel.trans (hb.mono h.bel.size), (hb.cell (p := ⟨w.heap.size, 0, none⟩) h.lt).trans h.b0, (hb.cell (p := ⟨w.heap.size, 1, none⟩) h.lt).trans h.b1, Nat.lt_of_lt_of_le h.lt hb.size⟩
theorem St0.drew {w : World} {vX vY : Value} {W : World} (h : St0 w vX vY W) : St0 w vX vY W.drew := ⟨h.bel.drew, h.b0, h.b1, h.lt⟩
theorem St0.alloc {w : World} {vX vY : Value} {W : World} (h : St0 w vX vY W) (o : Obj) : St0 w vX vY (W.alloc o) := h.step ((Below.refl _ W).alloc (Nat.le_refl _) o)

/-- a table's own box, still empty -/
structure PB (W : World) (p : Nat) : Prop where
  c0 : W.cell? ⟨p, 0, none⟩ = some (.slice none 0 0)
  c1 : W.cell? ⟨p, 1, none⟩ = some (.slice none 0 0)
  f0 : W.frozen? ⟨p, 0, none⟩ = false
  f1 : W.frozen? ⟨p, 1, none⟩ = false
  lt : p < W.heap.size
theorem PB.new (W : World) : PB (W.alloc (.cells #[.slice none 0 0, .slice none 0 0] 24)) W.heap.size := ⟨by go_simp, by go_simp, by go_simp, by go_simp, by simp⟩
theorem PB.drew {W : World} {p : Nat} (h : PB W p) : PB W.drew p := ⟨h.c0, h.c1, h.f0, h.f1, h.lt⟩
theorem PB.below {W W' : World} {p : Nat} (h : PB W p) (hb : Below W.heap.size W W') : PB W' p :=
  ⟨(hb.cell (p := ⟨p, 0, none⟩) h.lt).trans h.c0, (hb.cell (p := ⟨p, 1, none⟩) h.lt).trans h.c1, (hb.frozen (p := ⟨p, 0, none⟩) h.lt).trans h.f0, (hb.frozen (p := ⟨p, 1, none⟩) h.lt).trans h.f1, Nat.lt_of_lt_of_le h.lt hb.size⟩
theorem St0.store {w : World} {vX vY : Value} {W : World} (h : St0 w vX vY W) {p : Nat} (hp : w.heap.size < p) (u v : Value) : St0 w vX vY ((W.setCell ⟨p, 0, none⟩ u).setCell ⟨p, 1, none⟩ v) :=
  ⟨(h.bel.setCell (p := ⟨p, 0, none⟩) (by simp; omega) u).setCell (p := ⟨p, 1, none⟩) (by simp; omega) v,
    by rw [cell_set_other (by simp; omega), cell_set_other (by simp; omega)]; exact h.b0, by rw [cell_set_other (by simp; omega), cell_set_other (by simp; omega)]; exact h.b1, by simp [World.setCell]; exact h.lt⟩

theorem bel_of {w W w' : World} {a : Option Addr} {n c g cap : Nat} (h : Hid (∃ l, RowZ .i32 4 w a n c l ∧ Ample W.heap.size w' g cap n l 77 ∧ Below W.heap.size W w')) : Below W.heap.size W w' := by
  obtain ⟨_, _, _, q⟩ := h.out
  exact q

/-- n numbers that lie one behind another, or none at all -/
def RowC (w : World) (a : Option Addr) (n c : Nat) (l : Nat → Int) : Prop := n ≤ c ∧ c ≤ maxLen ∧ (0 < n → ∃ b off, a = some ⟨b, off, none⟩ ∧ b < w.heap.size ∧ ∀ j : Nat, j < n → w.cell? ⟨b, off + j, none⟩ = some (.int .i32 (l j)))
theorem RowC.of {w : World} {a : Option Addr} {n c : Nat} {l : Nat → Int} (h : RowK .i32 w a n c l) : RowC w a n c l := ⟨h.1, h.2.1, h.2.2.2⟩
theorem RowC.step {W W' : World} {a : Option Addr} {n c : Nat} {l : Nat → Int} (h : RowC W a n c l) (hb : Below W.heap.size W W') : RowC W' a n c l := by
  obtain ⟨h1, h2, h4⟩ := h
  refine ⟨h1, h2, fun q => ?_⟩
  obtain ⟨b, off, e, h5, h6⟩ := h4 q
  exact ⟨b, off, e, Nat.lt_of_lt_of_le h5 hb.size, fun j hj => (hb.cell (p := ⟨b, off + j, none⟩) h5).trans (h6 j hj)⟩
theorem RowC.only {g : Nat} {W W' : World} {a : Option Addr} {n c : Nat} {l : Nat → Int} (h : RowC W a n c l) (hO : Only g W W') (hne : ∀ b off, a = some ⟨b, off, none⟩ → b ≠ g) : RowC W' a n c l := by
  obtain ⟨h1, h2, h4⟩ := h
  refine ⟨h1, h2, fun q => ?_⟩
  obtain ⟨b, off, e, h5, h6⟩ := h4 q
  exact ⟨b, off, e, by rw [hO.size]; exact h5, fun j hj => (World.cell?_of_block (a := ⟨b, off + j, none⟩) (hO.block b (hne b off e))).trans (h6 j hj)⟩
theorem ample_rowK {N g cap n : Nat} {W : World} {l : Nat → Int} {f : Int} (h : Ample N W g cap n l f) (hw : ∀ j : Nat, (Lit.int .i32 (l j)).wf = true) : RowK .i32 W (some ⟨g, 0, none⟩) n cap l := by
  obtain ⟨q1, q2, q3, q4, _⟩ := cap_of h (by omega)
  refine ⟨by omega, q2, hw, fun _ => ⟨g, 0, rfl, q4, fun t ht => ?_⟩⟩
  have := h.cellAt t (by omega)
  rw [List.getElem?_append_left (by rw [vals_length]; exact ht), vals_get ht, Nat.zero_add] at this
  rw [Nat.zero_add]
  exact this
theorem ample_full {N g cap n : Nat} {W : World} {l : Nat → Int} {f : Int} (h : Ample N W g cap n l f) : Full W g cap ∧ n ≤ cap ∧ cap ≤ 9223372036854775807 := by
  obtain ⟨q1, q2, q3, q4, cur, q5, q6⟩ := cap_of h (by omega)
  have q7 := q2
  unfold maxLen at q7
  exact ⟨full_of q5 q6 q2, by omega, by omega⟩
theorem ample_block {N M g cap n : Nat} {W W' : World} {l : Nat → Int} {f : Int} (h : Ample N W g cap n l f) (hb : W'.heap[g]? = W.heap[g]?) (hM : M ≤ N) : Ample M W' g cap n l f := World.ownsRow.mono (owns_block h hb) hM
theorem equal_same {W : World} {a a' : Option Addr} {n c c' : Nat} {l : Nat → Int} (hn : n ≤ 70368744177664) (h : RowC W a n c l) (h' : RowC W a' n c' l) :
    Calls Try.prog 11 #[.slice a n c, .slice a' n c'] W fun e w' => e = .returned (.bool true) ∧ ∃ d, w' = W.drewN d := by
  rcases Nat.eq_zero_or_pos n with k | k
  · subst k
    exact equal_none _ _ _ _ W
  · obtain ⟨_, _, h4⟩ := h
    obtain ⟨_, _, h4'⟩ := h'
    obtain ⟨b, off, rfl, _, hc⟩ := h4 k
    obtain ⟨b', off', rfl, _, hc'⟩ := h4' k
    have := equal_any b off b' off' n c c' l l W hn hc hc'
    rw [(eqB_iff l l n).2 (fun _ _ => rfl)] at this
    exact this
theorem clone_row {W : World} {a : Option Addr} {n c : Nat} {l : Nat → Int} (hm : n ≤ 1048576) (h : RowC W a n c l) :
    Calls Try.prog 9 #[.slice a n c] W fun e w' => ∃ a' c', e = .returned (.slice a' n c') ∧ RowC w' a' n c' l ∧ (∀ b off, a' = some ⟨b, off, none⟩ → W.heap.size ≤ b) ∧ Below W.heap.size W w' := by
  obtain ⟨h1, h2, h4⟩ := h
  rcases Nat.eq_zero_or_pos n with q | q
  · subst q
    cases a with
    | none =>
      refine (clone_nil 0 c W).mono ?_
      rintro e w' ⟨rfl, rfl⟩
      exact ⟨none, 0, rfl, ⟨by omega, by unfold maxLen; omega, fun k => absurd k (by omega)⟩, (fun b off e => by cases e), Below.refl _ _⟩
    | some ad =>
      refine (clone_some ad 0 c l W (by omega) (fun j u hu => absurd (vals_at hu).1 (by omega)) (fun k => absurd k (by omega))).mono ?_
      rintro e w' ⟨v, rfl, ho, hb⟩
      rcases ho.2 with ⟨rfl, _⟩ | ⟨g, cap, cur, rfl, hg, _, k1, k2, _⟩
      · exact ⟨none, 0, rfl, ⟨by omega, by unfold maxLen; omega, fun k => absurd k (by omega)⟩, (fun b off e => by cases e), hb⟩
      · exact ⟨_, cap, rfl, ⟨k1, k2, fun k => absurd k (by omega)⟩, (fun b off e => by cases e; exact hg), hb⟩
  · obtain ⟨b, off, rfl, hb, hc⟩ := h4 q
    refine (clone_some ⟨b, off, none⟩ n c l W hm (fun j u hu => by
      obtain ⟨k1, rfl⟩ := vals_at hu
      rw [Nat.zero_add, Addr.add_lit]
      exact hc j k1) (fun _ => hb)).mono ?_
    rintro e w' ⟨v, rfl, ho, hbe⟩
    obtain ⟨g, cap, rfl, g1, g2⟩ := ho.form q
    obtain ⟨k1, k2, _⟩ := cap_of ho q
    refine ⟨_, cap, rfl, ⟨k1, k2, fun _ => ⟨g, 0, rfl, g2, fun t ht => ?_⟩⟩, (fun b off e => by cases e; exact g1), hbe⟩
    have := ho.cellAt t (by omega)
    rw [vals_get ht, Nat.zero_add] at this
    rw [Nat.zero_add]
    exact this

/-- the copies of the table that came in, with memory to spare, and their box p -/
structure Ins (w : World) (vX vY : Value) (p gX gY cX cY nX nY : Nat) (lX lY : Nat → Int) (W : World) : Prop where
  st : St0 w vX vY W
  p0 : W.cell? ⟨p, 0, none⟩ = some (.slice (some ⟨gX, 0, none⟩) nX cX)
  p1 : W.cell? ⟨p, 1, none⟩ = some (.slice (some ⟨gY, 0, none⟩) nY cY)
  pl : p < W.heap.size
  pw : w.heap.size < p
  aX : Ample (w.heap.size + 1) W gX cX nX lX 77
  aY : Ample (w.heap.size + 1) W gY cY nY lY 77
  n1 : gX ≠ gY
  n2 : gX ≠ p
  n3 : gY ≠ p
theorem Ins.step {w : World} {vX vY : Value} {p gX gY cX cY nX nY : Nat} {lX lY : Nat → Int} {W W' : World} (h : Ins w vX vY p gX gY cX cY nX nY lX lY W) (hb : Below W.heap.size W W') : Ins w vX vY p gX gY cX cY nX nY lX lY W' := by
  obtain ⟨_, _, _, kX, _⟩ := cap_of h.aX (by omega)
  obtain ⟨_, _, _, kY, _⟩ := cap_of h.aY (by omega)
  exact ⟨h.st.step hb, (hb.cell (p := ⟨p, 0, none⟩) h.pl).trans h.p0, (hb.cell (p := ⟨p, 1, none⟩) h.pl).trans h.p1, Nat.lt_of_lt_of_le h.pl hb.size, h.pw, ample_block h.aX (hb.block _ kX) (Nat.le_refl _), ample_block h.aY (hb.block _ kY) (Nat.le_refl _), h.n1, h.n2, h.n3⟩
/-- the box laid last, with both in it -/
theorem ins_last {w wA wB : World} {vX vY : Value} {gX gY cX cY nX nY : Nat} {lX lY : Nat → Int} {N : Nat} (hN : w.heap.size + 1 ≤ N) (hS : St0 w vX vY wB) (aX : Ample N wA gX cX nX lX 77) (aY : Ample wA.heap.size wB gY cY nY lY 77) (hA : w.heap.size < wA.heap.size) (hb : Below wA.heap.size wA wB) :
    Ins w vX vY wB.heap.size gX gY cX cY nX nY lX lY (wB.alloc (.cells #[.slice (some ⟨gX, 0, none⟩) nX cX, .slice (some ⟨gY, 0, none⟩) nY cY] 24)) := by
  obtain ⟨_, _, _, kX, _⟩ := cap_of aX (by omega)
  obtain ⟨_, _, mY, kY, _⟩ := cap_of aY (by omega)
  have hs := hb.size
  refine ⟨hS.alloc _, by go_simp, by go_simp, by simp, by omega, ample_block aX ((Below.heap_alloc wB _ gX (by omega)).trans (hb.block gX kX)) hN, ample_block aY (Below.heap_alloc wB _ gY kY) (by omega), by omega, by omega, by omega⟩
/-- the box laid ahead of one or both of them, filled at the end -/
theorem ins_store {w wA wB : World} {vX vY : Value} {p gX gY cX cY nX nY : Nat} {lX lY : Nat → Int} {N M : Nat} (hN : w.heap.size + 1 ≤ N) (hM : w.heap.size + 1 ≤ M) (hS : St0 w vX vY wB) (aX : Ample N wA gX cX nX lX 77) (aY : Ample M wB gY cY nY lY 77) (hX : wB.heap[gX]? = wA.heap[gX]?) (hP : PB wB p) (hp : w.heap.size < p) (n1 : gX ≠ gY) (n2 : gX ≠ p) (n3 : gY ≠ p) :
    Ins w vX vY p gX gY cX cY nX nY lX lY ((wB.setCell ⟨p, 0, none⟩ (.slice (some ⟨gX, 0, none⟩) nX cX)).setCell ⟨p, 1, none⟩ (.slice (some ⟨gY, 0, none⟩) nY cY)) := by
  have o : ∀ k, k ≠ p → ((wB.setCell ⟨p, 0, none⟩ (.slice (some ⟨gX, 0, none⟩) nX cX)).setCell ⟨p, 1, none⟩ (.slice (some ⟨gY, 0, none⟩) nY cY)).heap[k]? = wB.heap[k]? := fun k hk => (Below.heap_setCell _ ⟨p, 1, none⟩ _ k hk).trans (Below.heap_setCell _ ⟨p, 0, none⟩ _ k hk)
  refine ⟨hS.store hp _ _, ?_, ?_, by simp [World.setCell]; exact hP.lt, hp, ample_block aX ((o gX n2).trans hX) hN, ample_block aY (o gY n3) hM, n1, n2, n3⟩
  · rw [World.cell?_setCell_other _ _ _ _ (by simp)]
    exact World.cell?_setCell_same _ _ _ hP.c0
  · exact World.cell?_setCell_same _ _ _ ((World.cell?_setCell_other _ _ _ _ (by simp)).trans hP.c1)

/-- what Turn handed back, boxed in ub: no rows, or two that nobody else has -/
structure St3 (w : World) (vX vY : Value) (p gX gY cX cY nX nY : Nat) (lX lY : Nat → Int) (ub : Nat) (a1 a2 : Option Addr) (n : Nat) (l1 l2 : Nat → Int) (W : World) : Prop where
  ins : Ins w vX vY p gX gY cX cY nX nY lX lY W
  u0 : W.cell? ⟨ub, 0, none⟩ = some (.slice a1 n n)
  u1 : W.cell? ⟨ub, 1, none⟩ = some (.slice a2 n n)
  ul : ub < W.heap.size
  n64 : n ≤ 64
  rX : RowC W a1 n n l1
  rY : RowC W a2 n n l2
  m1 : gX ≠ ub
  m2 : gY ≠ ub
  fu : a1 = none ∧ a2 = none ∧ n = 0 ∨ ∃ g1 g2, a1 = some ⟨g1, 0, none⟩ ∧ a2 = some ⟨g2, 0, none⟩ ∧ g1 ≠ g2 ∧ g1 ≠ ub ∧ gX ≠ g1 ∧ gX ≠ g2 ∧ gY ≠ g1 ∧ gY ≠ g2 ∧ w.heap.size ≤ g1 ∧ g1 < W.heap.size ∧ Full W g1 n
theorem full_block {W W' : World} {g cap : Nat} (h : Full W g cap) (hb : W'.heap[g]? = W.heap[g]?) : Full W' g cap := by
  obtain ⟨xs, hx⟩ := h
  exact ⟨xs, owns_block hx hb⟩
theorem St3.step {w : World} {vX vY : Value} {p gX gY cX cY nX nY : Nat} {lX lY : Nat → Int} {ub : Nat} {a1 a2 : Option Addr} {n : Nat} {l1 l2 : Nat → Int} {W W' : World} (h : St3 w vX vY p gX gY cX cY nX nY lX lY ub a1 a2 n l1 l2 W) (hb : Below W.heap.size W W') : St3 w vX vY p gX gY cX cY nX nY lX lY ub a1 a2 n l1 l2 W' := by
  refine ⟨h.ins.step hb, (hb.cell (p := ⟨ub, 0, none⟩) h.ul).trans h.u0, (hb.cell (p := ⟨ub, 1, none⟩) h.ul).trans h.u1, Nat.lt_of_lt_of_le h.ul hb.size, h.n64, h.rX.step hb, h.rY.step hb, h.m1, h.m2, ?_⟩
  rcases h.fu with q | ⟨g1, g2, e1, e2, k1, k2, k3, k4, k5, k6, k7, k8, k9⟩
  · exact Or.inl q
  · exact Or.inr ⟨g1, g2, e1, e2, k1, k2, k3, k4, k5, k6, k7, Nat.lt_of_lt_of_le k8 hb.size, full_block k9 (hb.block g1 k8)⟩
/-- right behind Turn, its answer laid into a box -/
theorem st3_of {w : World} {vX vY : Value} {p gX gY cX cY nX nY : Nat} {lX lY : Nat → Int} {W W2 : World} {uX uY : Value} (h : Ins w vX vY p gX gY cX cY nX nY lX lY W) (hb : Below W.heap.size W W2) (hT : Turned W.heap.size W2 uX uY) :
    ∃ a1 a2 n l1 l2, uX = .slice a1 n n ∧ uY = .slice a2 n n ∧ St3 w vX vY p gX gY cX cY nX nY lX lY W2.heap.size a1 a2 n l1 l2 (W2.alloc (.cells #[uX, uY] 24)) := by
  have hA : Below W2.heap.size W2 (W2.alloc (.cells #[uX, uY] 24)) := (Below.refl _ W2).alloc (Nat.le_refl _) _
  have hI := (h.step hb).step hA
  obtain ⟨_, _, _, kX, _⟩ := cap_of h.aX (by omega)
  obtain ⟨_, _, _, kY, _⟩ := cap_of h.aY (by omega)
  have hs := hb.size
  have hw := h.st.bel.size
  rcases hT with ⟨rfl, rfl⟩ | ⟨g1, g2, n, l1, l2, rfl, rfl, hne, ⟨q1, q2, q3, q4⟩, ⟨r1, r2, r3, r4⟩⟩
  · exact ⟨none, none, 0, fun _ => 0, fun _ => 0, rfl, rfl, hI, by go_simp, by go_simp, by simp, by omega, ⟨by omega, by unfold maxLen; omega, fun k => absurd k (by omega)⟩, ⟨by omega, by unfold maxLen; omega, fun k => absurd k (by omega)⟩, by omega, by omega, Or.inl ⟨rfl, rfl, rfl⟩⟩
  · have lt1 : g1 < W2.heap.size := by
      obtain ⟨cs, hc, _⟩ := q4
      rcases Nat.lt_or_ge g1 W2.heap.size with k | k
      · exact k
      · rw [Array.getElem?_eq_none k] at hc; cases hc
    have lt2 : g2 < W2.heap.size := by
      obtain ⟨cs, hc, _⟩ := r4
      rcases Nat.lt_or_ge g2 W2.heap.size with k | k
      · exact k
      · rw [Array.getElem?_eq_none k] at hc; cases hc
    have c1 : RowC W2 (some ⟨g1, 0, none⟩) n n l1 := ⟨Nat.le_refl _, by unfold maxLen; omega, fun _ => ⟨g1, 0, rfl, lt1, fun j hj => by rw [Nat.zero_add]; exact q4.cell hj⟩⟩
    have c2 : RowC W2 (some ⟨g2, 0, none⟩) n n l2 := ⟨Nat.le_refl _, by unfold maxLen; omega, fun _ => ⟨g2, 0, rfl, lt2, fun j hj => by rw [Nat.zero_add]; exact r4.cell hj⟩⟩
    have fF : Full W2 g1 n := by
      obtain ⟨cs, hc, hcs, _⟩ := q4
      exact full_of hc hcs (by unfold maxLen; omega)
    exact ⟨_, _, n, l1, l2, rfl, rfl, hI, by go_simp, by go_simp, by simp, q3, c1.step hA, c2.step hA, by omega, by omega, Or.inr ⟨g1, g2, rfl, rfl, hne, by omega, by omega, by omega, by omega, by omega, by omega, by simp; omega, full_block fF (hA.block g1 lt1)⟩⟩

/-- two rows of the same numbers -/
def Pair (W : World) (a a' : Option Addr) (n c c' : Nat) : Prop := ∃ l, RowC W a n c l ∧ RowC W a' n c' l
theorem Pair.step {W W' : World} {a a' : Option Addr} {n c c' : Nat} (h : Pair W a a' n c c') (hb : Below W.heap.size W W') : Pair W' a a' n c c' := by
  obtain ⟨l, h1, h2⟩ := h
  exact ⟨l, h1.step hb, h2.step hb⟩
/-- not in block g -/
def Off (a : Option Addr) (g : Nat) : Prop := ∀ b off, a = some ⟨b, off, none⟩ → b ≠ g
theorem Pair.only {g : Nat} {W W' : World} {a a' : Option Addr} {n c c' : Nat} (h : Pair W a a' n c c') (hO : Only g W W') (h1 : Off a g) (h2 : Off a' g) : Pair W' a a' n c c' := by
  obtain ⟨l, k1, k2⟩ := h
  exact ⟨l, k1.only hO h1, k2.only hO h2⟩
theorem Pair.equal {W : World} {a a' : Option Addr} {n c c' : Nat} (h : Pair W a a' n c c') (hn : n ≤ 64) :
    Calls Try.prog 11 #[.slice a n c, .slice a' n c'] W fun e w' => e = .returned (.bool true) ∧ Below W.heap.size W w' := by
  obtain ⟨l, k1, k2⟩ := h
  refine (equal_same (by omega) k1 k2).mono ?_
  rintro e w' ⟨h1, d, rfl⟩
  exact ⟨h1, below_drewN _ _⟩
/-- what is left to look at once the copies are spoilt: Turn's answer, and the copies of it -/
structure St5 (w : World) (ub : Nat) (a1 a2 a3 a4 : Option Addr) (n c3 c4 : Nat) (W : World) : Prop where
  bel : Below w.heap.size w W
  u0 : W.cell? ⟨ub, 0, none⟩ = some (.slice a1 n n)
  u1 : W.cell? ⟨ub, 1, none⟩ = some (.slice a2 n n)
  ul : ub < W.heap.size
  pX : Pair W a1 a3 n n c3
  pY : Pair W a2 a4 n n c4
theorem St5.step {w : World} {ub : Nat} {a1 a2 a3 a4 : Option Addr} {n c3 c4 : Nat} {W W' : World} (h : St5 w ub a1 a2 a3 a4 n c3 c4 W) (hb : Below W.heap.size W W') : St5 w ub a1 a2 a3 a4 n c3 c4 W' :=
  ⟨h.bel.trans (hb.mono h.bel.size), (hb.cell (p := ⟨ub, 0, none⟩) h.ul).trans h.u0, (hb.cell (p := ⟨ub, 1, none⟩) h.ul).trans h.u1, Nat.lt_of_lt_of_le h.ul hb.size, h.pX.step hb, h.pY.step hb⟩
theorem St5.only {w : World} {ub : Nat} {a1 a2 a3 a4 : Option Addr} {n c3 c4 g : Nat} {W W' : World} (h : St5 w ub a1 a2 a3 a4 n c3 c4 W) (hO : Only g W W') (hg : w.heap.size ≤ g) (hu : ub ≠ g) (h1 : Off a1 g) (h2 : Off a2 g) (h3 : Off a3 g) (h4 : Off a4 g) : St5 w ub a1 a2 a3 a4 n c3 c4 W' :=
  ⟨h.bel.trans (hO.below hg), (World.cell?_of_block (a := ⟨ub, 0, none⟩) (hO.block ub hu)).trans h.u0, (World.cell?_of_block (a := ⟨ub, 1, none⟩) (hO.block ub hu)).trans h.u1, by rw [hO.size]; exact h.ul, h.pX.only hO h1 h3, h.pY.only hO h2 h4⟩

end Go.Proofs.Ytdfpbdocbdapbab
