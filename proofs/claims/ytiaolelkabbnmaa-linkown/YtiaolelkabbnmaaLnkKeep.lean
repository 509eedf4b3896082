/-
  What LinkOwn carries through its walk: what came in, boxed; copies with memory to spare, boxed; rows that stay where other blocks turn.
-/
import Derived.Test.YtiaolelkabbnmaaOwn
import Derived.Test.YtiaolelkabbnmaaLnkBox
import Derived.Deep.Onto
namespace Go.Proofs.Ytiaolelkabbnmaa
open Go.RowKit
set_option linter.unusedVariables false

theorem RowK.below {k : IntKind} {w W : World} {a : Option Addr} {n c : Nat} {l : Nat → Int} (h : RowK k w a n c l) (hb : Below w.heap.size w W) : RowK k W a n c l := by
  obtain ⟨h1, h2, h3, h4⟩ := h
  refine ⟨h1, h2, h3, fun q => ?_⟩
  obtain ⟨b, off, e, h5, h6⟩ := h4 q
  exact ⟨b, off, e, Nat.lt_of_lt_of_le h5 hb.size, fun j hj => (hb.cell (p := ⟨b, off + j, none⟩) h5).trans (h6 j hj)⟩
theorem RowZ.below {k : IntKind} {by1 : Nat} {w W : World} {a : Option Addr} {n c : Nat} {l : Nat → Int} (h : RowZ k by1 w a n c l) (hb : Below w.heap.size w W) : RowZ k by1 W a n c l := ⟨RowK.below h.1 hb, h.2⟩
/-- what lies in a block stays owned, as long as the block is not turned -/
theorem owns_block {W W' : World} {N g n cap : Nat} {xs : List Value} (h : W.ownsRow N 21 1 (.slice (some ⟨g, 0, none⟩) n cap) n xs) (hb : W'.heap[g]? = W.heap[g]?) : W'.ownsRow N 21 1 (.slice (some ⟨g, 0, none⟩) n cap) n xs := by
  obtain ⟨h1, h2⟩ := h
  refine ⟨h1, ?_⟩
  rcases h2 with h2 | ⟨g', cap', cur, hv, hx, hg, h3⟩
  · exact .inl h2
  · simp only [Value.slice.injEq, Option.some.injEq, Addr.mk.injEq] at hv
    obtain ⟨⟨rfl, _⟩, _, rfl⟩ := hv
    exact .inr ⟨g, cap, cur, rfl, hx, hb.trans hg, h3⟩
theorem ample_block {N M g cap n : Nat} {W W' : World} {l : Nat → Int} {f : Int} (h : Ample N W g cap n l f) (hb : W'.heap[g]? = W.heap[g]?) (hM : M ≤ N) : Ample M W' g cap n l f := World.ownsRow.mono (owns_block h hb) hM
theorem ample_wds {N g cap n : Nat} {W : World} {l : Nat → Int} {f : Int} (h : Ample N W g cap n l f) : Wds W (some ⟨g, 0, none⟩) n l := fun _ => by
  obtain ⟨q1, q2, q3, q4, _⟩ := cap_of h (by omega)
  refine ⟨g, 0, rfl, q4, fun t ht => ?_⟩
  have := h.cellAt t (by omega)
  rw [List.getElem?_append_left (by rw [vals_length]; exact ht), vals_get ht, Nat.zero_add] at this
  rw [Nat.zero_add]
  exact this
theorem ample_full {N g cap n : Nat} {W : World} {l : Nat → Int} {f : Int} (h : Ample N W g cap n l f) : Full W g cap ∧ n ≤ cap ∧ cap ≤ 9223372036854775807 := by
  obtain ⟨q1, q2, q3, q4, cur, q5, q6⟩ := cap_of h (by omega)
  have q7 := q2
  unfold maxLen at q7
  exact ⟨full_of q5 q6 q2, by omega, by omega⟩
theorem ample_lt {N g cap n : Nat} {W : World} {l : Nat → Int} {f : Int} (h : Ample N W g cap n l f) : N ≤ g ∧ g < W.heap.size := by
  obtain ⟨_, _, q3, q4, _⟩ := cap_of h (by omega)
  exact ⟨q3, q4⟩
/-- not in block g -/
def Off (a : Option Addr) (g : Nat) : Prop := ∀ x, a = some x → x.block ≠ g
theorem off_new {a : Option Addr} {N g : Nat} (h : ∀ x, a = some x → N ≤ x.block) (hg : g < N) : Off a g := fun x e => by
  have := h x e
  omega
theorem Wds.only {g n : Nat} {W W' : World} {a : Option Addr} {l : Nat → Int} (h : Wds W a n l) (hO : Only g W W') (hne : Off a g) : Wds W' a n l := fun q => by
  obtain ⟨b, off, e, h5, h6⟩ := h q
  exact ⟨b, off, e, by rw [hO.size]; exact h5, fun j hj => (World.cell?_of_block (a := ⟨b, off + j, none⟩) (hO.block b (hne _ e))).trans (h6 j hj)⟩
theorem Cells.only {g b : Nat} {W W' : World} {vs : List Value} (h : Cells W b vs) (hO : Only g W W') (hne : b ≠ g) : Cells W' b vs :=
  ⟨by rw [hO.size]; exact h.lt, fun j v hj => (World.cell?_of_block (a := ⟨b, j, none⟩) (hO.block b hne)).trans (h.cell j v hj), fun j v hj => (World.frozen?_of_block (a := ⟨b, j, none⟩) (hO.block b hne)).trans (h.froz j v hj)⟩

theorem clone_wds (a : Option Addr) (n c : Nat) (l : Nat → Int) (W : World) (hm : n ≤ 1048576) (h : Wds W a n l) :
    Calls Try.prog 24 #[.slice a n c] W fun e w' => ∃ a' c', e = .returned (.slice a' n c') ∧ Wds w' a' n l ∧ (∀ x, a' = some x → W.heap.size ≤ x.block) ∧ Below W.heap.size W w' := by
  rcases Nat.eq_zero_or_pos n with q | q
  · subst q
    cases a with
    | none =>
      refine (clone_nil 0 c W).mono ?_
      rintro e w' ⟨rfl, rfl⟩
      exact ⟨none, 0, rfl, wds_zero _ _ _, (fun x e => by cases e), Below.refl _ _⟩
    | some ad =>
      refine (clone_some ad 0 c l W (by omega) (fun j u hu => absurd (vals_at hu).1 (by omega)) (fun k => absurd k (by omega))).mono ?_
      rintro e w' ⟨v, rfl, ho, hb⟩
      rcases ho.2 with ⟨rfl, _⟩ | ⟨g, cap, cur, rfl, hg, _, k1, k2, _⟩
      · exact ⟨none, 0, rfl, wds_zero _ _ _, (fun x e => by cases e), hb⟩
      · exact ⟨_, cap, rfl, wds_zero _ _ _, (fun x e => by cases e; exact hg), hb⟩
  · obtain ⟨b, off, rfl, hb, hc⟩ := h q
    refine (clone_some ⟨b, off, none⟩ n c l W hm (fun j u hu => by
      obtain ⟨k1, rfl⟩ := vals_at hu
      rw [Nat.zero_add, Addr.add_lit]
      exact hc j k1) (fun _ => hb)).mono ?_
    rintro e w' ⟨v, rfl, ho, hbe⟩
    obtain ⟨g, cap, rfl, g1, g2⟩ := ho.form q
    refine ⟨_, cap, rfl, fun _ => ⟨g, 0, rfl, g2, fun t ht => ?_⟩, (fun x e => by cases e; exact g1), hbe⟩
    have := ho.cellAt t (by omega)
    rw [vals_get ht, Nat.zero_add] at this
    rw [Nat.zero_add]
    exact this
theorem equal_one (a a' : Option Addr) (n c c' : Nat) (l : Nat → Int) (W : World) (hn : n ≤ 1048576) (h : Wds W a n l) (h' : Wds W a' n l) :
    Calls Try.prog 15 #[.slice a n c, .slice a' n c'] W fun e w' => e = .returned (.bool true) ∧ Below W.heap.size W w' := by
  refine (equal_wds a a' n c n c' l l W (by omega) h h').mono ?_
  rintro e w' ⟨rfl, d, rfl⟩
  exact ⟨by rw [(eqB_iff _ _ n).2 (fun _ _ => rfl), decide_eq_true rfl]; rfl, below_drewN (Below.refl _ _) d⟩

theorem hr_n8 (x : Lk) (s : ByteArray) : (hrL x s).F.n ≤ 1048576 := by
  by_cases h : lkErr x = 0
  · by_cases h2 : hrE x s = 0
    · rw [hrL_new h h2]
      have := (rdF_S s).2.2
      show (rdF s).n ≤ _
      omega
    · rw [hrL_spoilt h h2]
      have := (lkE_zero h).2.2.2.2.1
      show x.F.n ≤ _
      omega
  · rw [hrL_bad h]
    show 0 ≤ _
    omega
theorem tk_n8 (x : Lk) : (tkL x).F.n ≤ 1048576 := by
  unfold tkL
  by_cases h : lkErr x = 0
  · rw [if_neg (by omega)]
    have := (lkE_zero h).2.2.2.2.1
    split
    · show x.F.n ≤ _
      omega
    · omega
  · rw [if_pos h]
    show 0 ≤ _
    omega
theorem wd_n8 (x : Lk) (m : Int) : wdN x m ≤ 1048576 := by
  unfold wdN
  split
  · rename_i h
    have hE : lkErr x = 0 := by
      by_cases q : lkErr x = 0
      · exact q
      · rw [wdE_bad q] at h
        exact h
    have := (lkE_zero hE).2.2.2.2.1
    omega
  · omega

/-- what came in, boxed: a frame, then a link -/
structure O1 (w : World) (VX VL : List Value) (W : World) : Prop where
  bel : Below w.heap.size w W
  bx : Cells W w.heap.size VX
  bl : Cells W (w.heap.size + 1) VL
theorem O1.step {w W W' : World} {VX VL : List Value} (h : O1 w VX VL W) (hb : Below W.heap.size W W') : O1 w VX VL W' := ⟨h.bel.trans (hb.mono h.bel.size), h.bx.step hb, h.bl.step hb⟩
theorem o1_new (w : World) (vx vl : Array Value) (t1 t2 : TypeId) : O1 w vx.toList vl.toList ((w.alloc (.cells vx t1)).alloc (.cells vl t2)) := by
  refine ⟨((Below.refl _ w).alloc (Nat.le_refl _) _).alloc (by simp) _, (cells_new w vx t1).alloc _, ?_⟩
  have := cells_new (w.alloc (.cells vx t1)) vl t2
  rw [show (w.alloc (.cells vx t1)).heap.size = w.heap.size + 1 by simp] at this
  exact this
/-- and copies of them, boxed: a link in p, a frame in q -/
structure O2 (w : World) (VX VL : List Value) (p q : Nat) (UL UX : List Value) (W : World) : Prop where
  o1 : O1 w VX VL W
  bp : Cells W p UL
  bq : Cells W q UX
  ne : p ≠ q
  gp : w.heap.size + 2 ≤ p
  gq : w.heap.size + 2 ≤ q
theorem O2.step {w W W' : World} {VX VL UL UX : List Value} {p q : Nat} (h : O2 w VX VL p q UL UX W) (hb : Below W.heap.size W W') : O2 w VX VL p q UL UX W' := ⟨h.o1.step hb, h.bp.step hb, h.bq.step hb, h.ne, h.gp, h.gq⟩
theorem o2_lx {w W : World} {VX VL : List Value} {ul ux : Array Value} {t1 t2 : TypeId} (h : O1 w VX VL W) : O2 w VX VL W.heap.size (W.heap.size + 1) ul.toList ux.toList ((W.alloc (.cells ul t1)).alloc (.cells ux t2)) := by
  have h2 := (h.step (alloc_step W (.cells ul t1))).step (alloc_step _ (.cells ux t2))
  have h3 := cells_new (W.alloc (.cells ul t1)) ux t2
  rw [show (W.alloc (.cells ul t1)).heap.size = W.heap.size + 1 by simp] at h3
  have := h.bl.lt
  exact ⟨h2, (cells_new W ul t1).alloc _, h3, by omega, by omega, by omega⟩
theorem o2_xl {w W : World} {VX VL : List Value} {ul ux : Array Value} {t1 t2 : TypeId} (h : O1 w VX VL W) : O2 w VX VL (W.heap.size + 1) W.heap.size ul.toList ux.toList ((W.alloc (.cells ux t1)).alloc (.cells ul t2)) := by
  have h2 := (h.step (alloc_step W (.cells ux t1))).step (alloc_step _ (.cells ul t2))
  have h3 := cells_new (W.alloc (.cells ux t1)) ul t2
  rw [show (W.alloc (.cells ux t1)).heap.size = W.heap.size + 1 by simp] at h3
  have := h.bl.lt
  exact ⟨h2, h3, (cells_new W ux t1).alloc _, by omega, by omega, by omega⟩
theorem O1.store {w W : World} {VX VL : List Value} (h : O1 w VX VL W) {p j : Nat} (hp : w.heap.size + 2 ≤ p) (v : Value) : O1 w VX VL (W.setCell ⟨p, j, none⟩ v) :=
  ⟨h.bel.setCell (p := ⟨p, j, none⟩) (by simp; omega) v, h.bx.other (by omega) v, h.bl.other (by omega) v⟩
theorem O2.setp {w W : World} {VX VL UL UX : List Value} {p q : Nat} (h : O2 w VX VL p q UL UX W) {j : Nat} (hj : j < UL.length) (v : Value) : O2 w VX VL p q (UL.set j v) UX (W.setCell ⟨p, j, none⟩ v) :=
  ⟨h.o1.store h.gp v, h.bp.set hj v, h.bq.other h.ne v, h.ne, h.gp, h.gq⟩
theorem O2.setq {w W : World} {VX VL UL UX : List Value} {p q : Nat} (h : O2 w VX VL p q UL UX W) {j : Nat} (hj : j < UX.length) (v : Value) : O2 w VX VL p q UL (UX.set j v) (W.setCell ⟨q, j, none⟩ v) :=
  ⟨h.o1.store h.gq v, h.bp.other h.ne.symm v, h.bq.set hj v, h.ne, h.gp, h.gq⟩

/-- the copies have words of their own, with memory to spare -/
structure O3 (w : World) (VX VL : List Value) (p q : Nat) (UL UX : List Value) (gL cL nL gX cX nX : Nat) (lL lX : Nat → Int) (W : World) : Prop where
  o2 : O2 w VX VL p q UL UX W
  aL : Ample (w.heap.size + 2) W gL cL nL lL 77
  aX : Ample (w.heap.size + 2) W gX cX nX lX 77
  n1 : gL ≠ gX
  n2 : gL ≠ p
  n3 : gL ≠ q
theorem O3.step {w W W' : World} {VX VL UL UX : List Value} {p q gL cL nL gX cX nX : Nat} {lL lX : Nat → Int} (h : O3 w VX VL p q UL UX gL cL nL gX cX nX lL lX W) (hb : Below W.heap.size W W') : O3 w VX VL p q UL UX gL cL nL gX cX nX lL lX W' :=
  ⟨h.o2.step hb, ample_block h.aL (hb.block _ (ample_lt h.aL).2) (Nat.le_refl _), ample_block h.aX (hb.block _ (ample_lt h.aX).2) (Nat.le_refl _), h.n1, h.n2, h.n3⟩
theorem o3_of {w W wA wB : World} {VX VL UL UX : List Value} {p q gL cL nL gX cX nX : Nat} {lL lX : Nat → Int} (h : O2 w VX VL p q UL UX W) (aL : Ample W.heap.size wA gL cL nL lL 77) (hA : Below W.heap.size W wA) (aX : Ample wA.heap.size wB gX cX nX lX 77) (hB : Below wA.heap.size wA wB) (h1 : 3 < UL.length) (h2 : 3 < UX.length) (v u : Value) :
    O3 w VX VL p q (UL.set 3 v) (UX.set 3 u) gL cL nL gX cX nX lL lX ((wB.setCell ⟨p, 3, none⟩ v).setCell ⟨q, 3, none⟩ u) := by
  have hp := h.bp.lt
  have hq := h.bq.lt
  have hs := hA.size
  obtain ⟨k1, k2⟩ := ample_lt aL
  obtain ⟨k3, k4⟩ := ample_lt aX
  have hl := h.o1.bl.lt
  have o : ∀ k, k ≠ p → k ≠ q → ((wB.setCell ⟨p, 3, none⟩ v).setCell ⟨q, 3, none⟩ u).heap[k]? = wB.heap[k]? := fun k e1 e2 => (Below.heap_setCell _ ⟨q, 3, none⟩ _ k e2).trans (Below.heap_setCell _ ⟨p, 3, none⟩ _ k e1)
  exact ⟨(((h.step hA).step hB).setp h1 v).setq h2 u, ample_block aL ((o gL (by omega) (by omega)).trans (hB.block gL k2)) (by omega), ample_block aX (o gX (by omega) (by omega)) (by omega), by omega, by omega, by omega⟩

/-- what is looked at once all was asked: the boxes of the answers, the copy that will be spoilt, three rows -/
structure O5 (w : World) (b1 b2 p : Nat) (V1 V2 UL : List Value) (gL cL nL : Nat) (lL : Nat → Int) (ya ta da : Option Addr) (yn tn dn : Nat) (yl tl dl : Nat → Int) (W : World) : Prop where
  bel : Below w.heap.size w W
  x1 : Cells W b1 V1
  x2 : Cells W b2 V2
  bp : Cells W p UL
  aL : Ample (w.heap.size + 2) W gL cL nL lL 77
  r1 : Wds W ya yn yl
  r2 : Wds W ta tn tl
  r3 : Wds W da dn dl
theorem O5.step {w : World} {b1 b2 p : Nat} {V1 V2 UL : List Value} {gL cL nL : Nat} {lL : Nat → Int} {ya ta da : Option Addr} {yn tn dn : Nat} {yl tl dl : Nat → Int} {W W' : World} (h : O5 w b1 b2 p V1 V2 UL gL cL nL lL ya ta da yn tn dn yl tl dl W) (hb : Below W.heap.size W W') : O5 w b1 b2 p V1 V2 UL gL cL nL lL ya ta da yn tn dn yl tl dl W' :=
  ⟨h.bel.trans (hb.mono h.bel.size), h.x1.step hb, h.x2.step hb, h.bp.step hb, ample_block h.aL (hb.block _ (ample_lt h.aL).2) (Nat.le_refl _), h.r1.later hb, h.r2.later hb, h.r3.later hb⟩
/-- what is left once the copy is spoilt: three pairs of rows -/
structure O6 (w : World) (b1 b2 : Nat) (V1 V2 : List Value) (ya ta da ya' ta' da' : Option Addr) (yn tn dn : Nat) (yl tl dl : Nat → Int) (W : World) : Prop where
  bel : Below w.heap.size w W
  x1 : Cells W b1 V1
  x2 : Cells W b2 V2
  r1 : Wds W ya yn yl
  r2 : Wds W ta tn tl
  r3 : Wds W da dn dl
  q1 : Wds W ya' yn yl
  q2 : Wds W ta' tn tl
  q3 : Wds W da' dn dl
theorem O6.step {w : World} {b1 b2 : Nat} {V1 V2 : List Value} {ya ta da ya' ta' da' : Option Addr} {yn tn dn : Nat} {yl tl dl : Nat → Int} {W W' : World} (h : O6 w b1 b2 V1 V2 ya ta da ya' ta' da' yn tn dn yl tl dl W) (hb : Below W.heap.size W W') : O6 w b1 b2 V1 V2 ya ta da ya' ta' da' yn tn dn yl tl dl W' :=
  ⟨h.bel.trans (hb.mono h.bel.size), h.x1.step hb, h.x2.step hb, h.r1.later hb, h.r2.later hb, h.r3.later hb, h.q1.later hb, h.q2.later hb, h.q3.later hb⟩
theorem O6.only {w : World} {b1 b2 g : Nat} {V1 V2 : List Value} {ya ta da ya' ta' da' : Option Addr} {yn tn dn : Nat} {yl tl dl : Nat → Int} {W W' : World} (h : O6 w b1 b2 V1 V2 ya ta da ya' ta' da' yn tn dn yl tl dl W) (hO : Only g W W') (hg : w.heap.size ≤ g) (n1 : b1 ≠ g) (n2 : b2 ≠ g) (f1 : Off ya g) (f2 : Off ta g) (f3 : Off da g) (f4 : Off ya' g) (f5 : Off ta' g) (f6 : Off da' g) : O6 w b1 b2 V1 V2 ya ta da ya' ta' da' yn tn dn yl tl dl W' :=
  ⟨h.bel.trans (hO.below hg), h.x1.only hO n1, h.x2.only hO n2, h.r1.only hO f1, h.r2.only hO f2, h.r3.only hO f3, h.q1.only hO f4, h.q2.only hO f5, h.q3.only hO f6⟩

end Go.Proofs.Ytiaolelkabbnmaa
