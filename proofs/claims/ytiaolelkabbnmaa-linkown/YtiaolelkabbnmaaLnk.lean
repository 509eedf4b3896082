/-
  Contracts of package link's small functions: isBlank, Check, copied, own, spoilt, isStale; and of the document's LinkErr and SameLink.
-/
import Derived.Test.YtiaolelkabbnmaaFrmSame
import Derived.Test.YtiaolelkabbnmaaFrmNew
import Derived.Laws.CopyOwn
namespace Go.Proofs.Ytiaolelkabbnmaa
open Go.RowKit
set_option linter.unusedVariables false
set_option linter.unusedSimpArgs false

/-- is a frame nothing at all -/
def blankB (K L S : Int) (n : Nat) : Bool := decide (K = 0) && decide (L = 0) && decide (S = 0) && decide (n = 0)
/-- what Check has against a link -/
def lkE (K L S : Int) (n : Nat) (h : Bool) (A B : Int) : Int := if A < 0 ∨ 100 < A ∨ B < 0 ∨ 10000 < B then 1 else if h = true then frE K L n else if blankB K L S n = true then 0 else 4
theorem lkE_arg {K L S : Int} {n : Nat} {h : Bool} {A B : Int} (q : A < 0 ∨ 100 < A ∨ B < 0 ∨ 10000 < B) : lkE K L S n h A B = 1 := by unfold lkE; rw [if_pos q]
theorem lkE_heard {K L S : Int} {n : Nat} {A B : Int} (a0 : 0 ≤ A) (a1 : A ≤ 100) (b0 : 0 ≤ B) (b1 : B ≤ 10000) : lkE K L S n true A B = frE K L n := by unfold lkE; rw [if_neg (by omega), if_pos rfl]
theorem lkE_blank {K L S : Int} {n : Nat} {A B : Int} (a0 : 0 ≤ A) (a1 : A ≤ 100) (b0 : 0 ≤ B) (b1 : B ≤ 10000) (q : blankB K L S n = true) : lkE K L S n false A B = 0 := by unfold lkE; rw [if_neg (by omega), if_neg (by decide), if_pos q]
theorem lkE_form {K L S : Int} {n : Nat} {A B : Int} (a0 : 0 ≤ A) (a1 : A ≤ 100) (b0 : 0 ≤ B) (b1 : B ≤ 10000) (q : blankB K L S n = false) : lkE K L S n false A B = 4 := by unfold lkE; rw [if_neg (by omega), if_neg (by decide), if_neg (by rw [q]; decide)]
theorem blankB_true {K L S : Int} {n : Nat} (h : blankB K L S n = true) : K = 0 ∧ L = 0 ∧ S = 0 ∧ n = 0 := by
  unfold blankB at h
  simp only [Bool.and_eq_true, decide_eq_true_eq] at h
  exact ⟨h.1.1.1, h.1.1.2, h.1.2, h.2⟩
/-- a right link -/
theorem lkE_zero {K L S : Int} {n : Nat} {h : Bool} {A B : Int} (q : lkE K L S n h A B = 0) : 0 ≤ A ∧ A ≤ 100 ∧ 0 ≤ B ∧ B ≤ 10000 ∧ n ≤ 8 ∧ (h = true → frE K L n = 0) ∧ (h = false → K = 0 ∧ L = 0 ∧ S = 0 ∧ n = 0) := by
  by_cases g : A < 0 ∨ 100 < A ∨ B < 0 ∨ 10000 < B
  · rw [lkE_arg g] at q; omega
  · have a0 : 0 ≤ A := by omega
    have a1 : A ≤ 100 := by omega
    have b0 : 0 ≤ B := by omega
    have b1 : B ≤ 10000 := by omega
    cases h with
    | true =>
      rw [lkE_heard a0 a1 b0 b1] at q
      exact ⟨a0, a1, b0, b1, (frE_zero q).2, fun _ => q, (fun h => by cases h)⟩
    | false =>
      by_cases e : blankB K L S n = true
      · obtain ⟨h1, h2, h3, h4⟩ := blankB_true e
        exact ⟨a0, a1, b0, b1, by omega, (fun h => by cases h), fun _ => ⟨h1, h2, h3, h4⟩⟩
      · rw [lkE_form a0 a1 b0 b1 (by simpa using e)] at q; omega

/-- a link's box -/
theorem link_cells {w : World} {b : Nat} {v0 v1 v2 v3 v4 v5 v6 : Value} (h : Cells w b [v0, v1, v2, v3, v4, v5, v6]) : b < w.heap.size ∧ w.cell? ⟨b, 0, none⟩ = some v0 ∧ w.cell? ⟨b, 1, none⟩ = some v1 ∧ w.cell? ⟨b, 2, none⟩ = some v2 ∧ w.cell? ⟨b, 3, none⟩ = some v3 ∧ w.cell? ⟨b, 4, none⟩ = some v4 ∧ w.cell? ⟨b, 5, none⟩ = some v5 ∧ w.cell? ⟨b, 6, none⟩ = some v6 :=
  ⟨h.lt, h.cell 0 _ rfl, h.cell 1 _ rfl, h.cell 2 _ rfl, h.cell 3 _ rfl, h.cell 4 _ rfl, h.cell 5 _ rfl, h.cell 6 _ rfl⟩
theorem link_froz {w : World} {b : Nat} {v0 v1 v2 v3 v4 v5 v6 : Value} (h : Cells w b [v0, v1, v2, v3, v4, v5, v6]) : w.frozen? ⟨b, 0, none⟩ = false ∧ w.frozen? ⟨b, 1, none⟩ = false ∧ w.frozen? ⟨b, 2, none⟩ = false ∧ w.frozen? ⟨b, 3, none⟩ = false ∧ w.frozen? ⟨b, 4, none⟩ = false ∧ w.frozen? ⟨b, 5, none⟩ = false ∧ w.frozen? ⟨b, 6, none⟩ = false :=
  ⟨h.froz 0 _ rfl, h.froz 1 _ rfl, h.froz 2 _ rfl, h.froz 3 _ rfl, h.froz 4 _ rfl, h.froz 5 _ rfl, h.froz 6 _ rfl⟩
/-- a link's box is written -/
theorem link_put {N R : Nat} {w W : World} {c0 c1 c2 c3 c4 c5 c6 : Value} (h : Cells W R [c0, c1, c2, c3, c4, c5, c6]) (hb : Below N w W) (hR : N ≤ R) (v0 v1 v2 v3 v4 v5 v6 : Value) :
    ∃ w3, ((((((W.setCell ⟨R, 0, none⟩ v0).setCell ⟨R, 1, none⟩ v1).setCell ⟨R, 2, none⟩ v2).setCell ⟨R, 3, none⟩ v3).setCell ⟨R, 4, none⟩ v4).setCell ⟨R, 5, none⟩ v5).setCell ⟨R, 6, none⟩ v6 = w3 ∧ Cells w3 R [v0, v1, v2, v3, v4, v5, v6] ∧ Below N w w3 ∧ w3.heap.size = W.heap.size ∧ (∀ k, k ≠ R → w3.heap[k]? = W.heap[k]?) ∧ ∀ (k j : Nat), k ≠ R → w3.cell? ⟨k, j, none⟩ = W.cell? ⟨k, j, none⟩ := by
  have h1 := ((((((h.set (j := 0) (by simp) v0).set (j := 1) (by simp) v1).set (j := 2) (by simp) v2).set (j := 3) (by simp) v3).set (j := 4) (by simp) v4).set (j := 5) (by simp) v5).set (j := 6) (by simp) v6
  refine ⟨_, rfl, h1, ((((((hb.setCell (p := ⟨R, 0, none⟩) hR _).setCell (p := ⟨R, 1, none⟩) hR _).setCell (p := ⟨R, 2, none⟩) hR _).setCell (p := ⟨R, 3, none⟩) hR _).setCell (p := ⟨R, 4, none⟩) hR _).setCell (p := ⟨R, 5, none⟩) hR _).setCell (p := ⟨R, 6, none⟩) hR _, by simp [World.setCell], fun k hk => ?_, fun k j hk => ?_⟩
  · rw [Below.heap_setCell _ _ _ _ hk, Below.heap_setCell _ _ _ _ hk, Below.heap_setCell _ _ _ _ hk, Below.heap_setCell _ _ _ _ hk, Below.heap_setCell _ _ _ _ hk, Below.heap_setCell _ _ _ _ hk, Below.heap_setCell _ _ _ _ hk]
  · rw [World.cell?_setCell_other _ _ _ _ (by simp <;> omega), World.cell?_setCell_other _ _ _ _ (by simp <;> omega), World.cell?_setCell_other _ _ _ _ (by simp <;> omega), World.cell?_setCell_other _ _ _ _ (by simp <;> omega), World.cell?_setCell_other _ _ _ _ (by simp <;> omega), World.cell?_setCell_other _ _ _ _ (by simp <;> omega), World.cell?_setCell_other _ _ _ _ (by simp <;> omega)]

set_option maxHeartbeats 1000000 in
set_option maxRecDepth 100000 in
theorem blank_any (K L S : Int) (a : Option Addr) (n c : Nat) (w : World) :
    Calls Try.prog 32 #[.agg #[.int .i64 K, .int .i64 L, .int .u8 S, .slice a n c]] w fun e w' => e = .returned (.bool (blankB K L S n)) ∧ Below w.heap.size w w' := by
  unfold blankB
  have B0 : Hid (Below w.heap.size w (w.alloc (.cells #[.int .i64 K, .int .i64 L, .int .u8 S, .slice a n c] 24))) := (Below.refl _ w).alloc (Nat.le_refl _) _
  go_enter Try.func32, Try.ntmps32
  by_cases e1 : K = 0
  · have d1 : (K == 0) = true := by simpa using e1
    by_cases e2 : L = 0
    · have d2 : (L == 0) = true := by simpa using e2
      by_cases e3 : S = 0
      · have d3 : (S == 0) = true := by simpa using e3
        by_cases e4 : n = 0
        · have d4 : ((n : Int) == 0) = true := by simpa using e4
          rw [decide_eq_true e1, decide_eq_true e2, decide_eq_true e3, decide_eq_true e4]
          clear e1 e2 e3 e4
          go_wp2_with fail
          go_ret
          exact ⟨rfl, B0.out⟩
        · have d4 : ((n : Int) == 0) = false := by simpa using e4
          rw [decide_eq_false e4]
          simp only [Bool.and_false, Bool.false_and]
          clear e1 e2 e3 e4
          go_wp2_with fail
          go_ret
          exact ⟨rfl, B0.out⟩
      · have d3 : (S == 0) = false := by simpa using e3
        rw [decide_eq_false e3]
        simp only [Bool.and_false, Bool.false_and]
        clear e1 e2 e3
        go_wp2_with fail
        go_ret
        exact ⟨rfl, B0.out⟩
    · have d2 : (L == 0) = false := by simpa using e2
      rw [decide_eq_false e2]
      simp only [Bool.and_false, Bool.false_and]
      clear e1 e2
      go_wp2_with fail
      go_ret
      exact ⟨rfl, B0.out⟩
  · have d1 : (K == 0) = false := by simpa using e1
    rw [decide_eq_false e1]
    simp only [Bool.and_false, Bool.false_and]
    clear e1
    go_wp2_with fail
    go_ret
    exact ⟨rfl, B0.out⟩

theorem lt_of_heap {w : World} {g : Nat} {x : Obj} (h : w.heap[g]? = some x) : g < w.heap.size := by
  rcases Nat.lt_or_ge g w.heap.size with q | q
  · exact q
  · rw [Array.getElem?_eq_none q] at h
    cases h
/-- copy of n words into a new row of n -/
theorem copy_run (a : Option Addr) (n c g N : Nat) (l : Nat → Int) (w W : World) (z : List Value) (hz : z.length = n) (hg : W.heap[g]? = some (.cells z.toArray 21 (0, 0))) (hN : N ≤ g) (hb : Below N w W) (hr : Wds W a n l) :
    ∃ w2, (Builtin.copy_ #[22, 22] 3 #[.slice (some ⟨g, 0, none⟩) n n, .slice a n c]).run Try.prog W = .ok (.int .i64 n) w2 ∧ Wds w2 (some ⟨g, 0, none⟩) n l ∧ g < w2.heap.size ∧ Below N w w2 := by
  have hsz : (Try.prog.info? 21).map (fun i => i.size) = some 1 := by kernel_rfl
  rcases Nat.eq_zero_or_pos n with h0 | h0
  · subst h0
    exact ⟨W, run_copy_none W _ _ _ _ _ _ _ _ _ _ Try.underlying22 hsz (by simp), wds_zero _ _ _, lt_of_heap hg, hb⟩
  · obtain ⟨b, o, rfl, hlt, hrow⟩ := hr h0
    obtain ⟨cs, hcs⟩ : ∃ cs : List Value, cs = (List.range n).map fun t => .int .i32 (l t) := ⟨_, rfl⟩
    have cl : cs.length = n := by rw [hcs]; simp
    have ca : ∀ (j : Nat) (v : Value), cs[j]? = some v → j < n ∧ v = .int .i32 (l j) := fun j v hj => by
      rw [hcs, List.getElem?_map] at hj
      rcases Nat.lt_or_ge j n with q | q
      · rw [List.getElem?_range q] at hj
        exact ⟨q, by simpa using hj.symm⟩
      · rw [List.getElem?_eq_none (by simpa using q)] at hj
        simp at hj
    have cb : ∀ j, j < n → cs[j]? = some (.int .i32 (l j)) := fun j hj => by
      rw [hcs, List.getElem?_map, List.getElem?_range hj]
      rfl
    have hrun := run_copy_row (P := Try.prog) W 22 22 3 21 g 0 n n ⟨b, o, none⟩ n c z.toArray 21 cs Try.underlying22 hsz hg (by rw [cl]; exact (Nat.min_self n).symm) (fun j v hj => by
      obtain ⟨hj1, rfl⟩ := ca j v hj
      rw [Addr.add_lit]
      exact hrow j hj1) (by simp [cl, hz]) (fun v hv => by
      obtain ⟨j, hj⟩ := List.getElem?_of_mem hv
      obtain ⟨_, rfl⟩ := ca j v hj
      rfl)
    have e : z.toArray.toList.take 0 ++ cs ++ z.toArray.toList.drop (0 + cs.length) = cs := by
      rw [Nat.zero_add, cl, List.drop_eq_nil_of_le (by simp [hz])]
      simp
    rw [e, cl] at hrun
    have hg2 := setRow_heap W g z.toArray cs.toArray 21 _ hg
    refine ⟨_, hrun, fun _ => ⟨g, 0, rfl, lt_of_heap hg2, fun j hj => ?_⟩, lt_of_heap hg2, below_setRow hb hN _⟩
    rw [Nat.zero_add]
    unfold World.cell?
    simp only [hg2]
    simp [cb j hj]

set_option maxHeartbeats 1000000 in
set_option maxRecDepth 100000 in
theorem copied_any (a : Option Addr) (n c : Nat) (l : Nat → Int) (w : World) (hn : n ≤ 1048576) (hr : Wds w a n l) :
    Calls Try.prog 30 #[.slice a n c] w fun e w' => ∃ g, e = .returned (.slice (some ⟨g, 0, none⟩) n n) ∧ Wds w' (some ⟨g, 0, none⟩) n l ∧ w.heap.size ≤ g ∧ g < w'.heap.size ∧ Below w.heap.size w w' := by
  have one : (Try.prog.info? 21).map (fun i => (i.zero, i.size, i.bytes)) = some (some (.int .i32 0), 1, 4) := by kernel_rfl
  have mk := run_make_row' (P := Try.prog) 22 21 (.int .i32 0) 4 Try.underlying22 one rfl .i64 .i64 n (by omega) (by omega) w
  have HB := (Below.refl _ w).alloc (Nat.le_refl _) (.cells (madeCells #[.int .i32 0] n) 21)
  obtain ⟨w2, hrun, h1, h2, h3⟩ := copy_run a n c w.heap.size w.heap.size l w (w.alloc (.cells (madeCells #[.int .i32 0] n) 21)) (madeCells #[.int .i32 0] n).toList (by simp [madeCells]) (by rw [heap_alloc_new]) (Nat.le_refl _) HB (hr.later HB)
  have HX : Hid (Wds w2 (some ⟨w.heap.size, 0, none⟩) n l ∧ w.heap.size < w2.heap.size ∧ Below w.heap.size w w2) := ⟨h1, h2, h3⟩
  generalize w.alloc (.cells (madeCells #[.int .i32 0] n) 21) = w0 at mk hrun
  clear one HB h1 h2 h3 hn hr
  go_enter Try.func30, Try.ntmps30
  go_wp2_with fail
  go_ret
  exact ⟨w.heap.size, rfl, HX.out.1, Nat.le_refl _, HX.out.2.1, HX.out.2.2⟩

end Go.Proofs.Ytiaolelkabbnmaa
