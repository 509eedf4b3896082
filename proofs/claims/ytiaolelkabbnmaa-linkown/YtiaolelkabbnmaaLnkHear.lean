/-
  Contracts of link.spoilt, isStale, Hear.
-/
import Derived.Test.YtiaolelkabbnmaaLnkOwn
import Derived.Test.YtiaolelkabbnmaaFrmBack
namespace Go.Proofs.Ytiaolelkabbnmaa
open Go.RowKit
set_option linter.unusedVariables false
set_option linter.unusedSimpArgs false

/-- one more, at most 10000 -/
def upB (B : Int) : Int := if B < 10000 then B + 1 else 10000
theorem upB_lt {B : Int} (h : B < 10000) : upB B = B + 1 := by unfold upB; rw [if_pos h]
theorem upB_top : upB 10000 = 10000 := by decide

/-- a link's own box is written -/
theorem Lb.write {w W : World} {c0 c1 c2 c3 c4 c5 c6 : Value} (h : Lb w [c0, c1, c2, c3, c4, c5, c6] W) (v0 v1 v2 v3 v4 v5 v6 : Value) :
    ∃ w3, ((((((W.setCell ⟨w.heap.size, 0, none⟩ v0).setCell ⟨w.heap.size, 1, none⟩ v1).setCell ⟨w.heap.size, 2, none⟩ v2).setCell ⟨w.heap.size, 3, none⟩ v3).setCell ⟨w.heap.size, 4, none⟩ v4).setCell ⟨w.heap.size, 5, none⟩ v5).setCell ⟨w.heap.size, 6, none⟩ v6 = w3 ∧ Lb w [v0, v1, v2, v3, v4, v5, v6] w3 ∧ w3.heap.size = W.heap.size ∧ (∀ k, k ≠ w.heap.size → w3.heap[k]? = W.heap[k]?) := by
  have h1 := ((((((h.set (j := 0) (by simp) v0).set (j := 1) (by simp) v1).set (j := 2) (by simp) v2).set (j := 3) (by simp) v3).set (j := 4) (by simp) v4).set (j := 5) (by simp) v5).set (j := 6) (by simp) v6
  refine ⟨_, rfl, h1, by simp [World.setCell], fun k hk => ?_⟩
  rw [Below.heap_setCell _ _ _ _ hk, Below.heap_setCell _ _ _ _ hk, Below.heap_setCell _ _ _ _ hk, Below.heap_setCell _ _ _ _ hk, Below.heap_setCell _ _ _ _ hk, Below.heap_setCell _ _ _ _ hk, Below.heap_setCell _ _ _ _ hk]

set_option maxHeartbeats 2000000 in
set_option maxRecDepth 100000 in
theorem spoilt_any (K L S : Int) (a : Option Addr) (n c : Nat) (l : Nat → Int) (h : Bool) (A B : Int) (w : World) (hn : n ≤ 1048576) (b0 : 0 ≤ B) (b1 : B ≤ 10000) (hr : Wds w a n l) :
    Calls Try.prog 27 #[.agg #[.int .i64 K, .int .i64 L, .int .u8 S, .slice a n c, .bool h, .int .i64 A, .int .i64 B]] w fun e w' => ∃ g, e = .returned (.agg #[.int .i64 K, .int .i64 L, .int .u8 S, .slice (some ⟨g, 0, none⟩) n n, .bool h, .int .i64 A, .int .i64 (upB B)]) ∧ Wds w' (some ⟨g, 0, none⟩) n l ∧ w.heap.size ≤ g ∧ g < w'.heap.size ∧ Below w.heap.size w w' := by
  have B0 : Hid (Lb w [.int .i64 K, .int .i64 L, .int .u8 S, .slice a n c, .bool h, .int .i64 A, .int .i64 B] _) := lb_new w (.int .i64 K) (.int .i64 L) (.int .u8 S) (.slice a n c) (.bool h) (.int .i64 A) (.int .i64 B) 26
  have HR : Hid (Wds w a n l) := hr
  clear hr
  have mn : ∀ W : World, (Builtin.min_ #[3, 3] 3 #[.int .i64 (B + 1), .int .i64 10000]).run Try.prog W = .ok (.int .i64 (upB B)) W := fun W => by
    rw [run_min_int2]
    unfold upB
    by_cases q : B < 10000
    · rw [if_neg (by omega), if_pos q]
    · rw [if_pos (by omega), if_neg q]
  generalize upB B = m at mn
  go_enter Try.func27, Try.ntmps27
  go_wp2_with fail
  refine (own_any K L S a n c l h A B _ hn (HR.out.later B0.out.bel)).mono ?_
  rintro e w1 ⟨g, rfl, hw, hg, hlt, hb⟩
  have hg2 : w.heap.size + 2 ≤ g := by simp at hg; omega
  have X1 : Hid (Lb w [.int .i64 K, .int .i64 L, .int .u8 S, .slice a n c, .bool h, .int .i64 A, .int .i64 B] w1) := B0.out.step hb
  have HG : Hid (w.heap.size + 2 ≤ g ∧ g < w1.heap.size ∧ Wds w1 (some ⟨g, 0, none⟩) n l) := ⟨hg2, hlt, hw⟩
  clear B0 hb hw hg hlt hg2 HR
  obtain ⟨lx, x0, x1, x2, x3, x4, x5, x6⟩ := link_cells X1.out.box
  obtain ⟨f0, f1, f2, f3, f4, f5, f6⟩ := link_froz X1.out.box
  go_upto_region 2 with fail
  clear lx x0 x1 x2 x3 x4 x5 x6 f0 f1 f2 f3 f4 f5 f6
  obtain ⟨w2, hw2, X2', s2, o2⟩ := X1.out.write (.int .i64 K) (.int .i64 L) (.int .u8 S) (.slice (some ⟨g, 0, none⟩) n n) (.bool h) (.int .i64 A) (.int .i64 B)
  rw [hw2]
  have X2 : Hid (Lb w [.int .i64 K, .int .i64 L, .int .u8 S, .slice (some ⟨g, 0, none⟩) n n, .bool h, .int .i64 A, .int .i64 B] w2) := X2'
  have HG2 : Hid (w.heap.size + 2 ≤ g ∧ g < w2.heap.size ∧ Wds w2 (some ⟨g, 0, none⟩) n l) := ⟨HG.out.1, by rw [s2]; exact HG.out.2.1, HG.out.2.2.block (by rw [s2]; exact Nat.le_refl _) (o2 g (by have := HG.out.1; omega))⟩
  clear hw2 X2' s2 o2 X1 HG
  obtain ⟨lx, x0, x1, x2, x3, x4, x5, x6⟩ := link_cells X2.out.box
  obtain ⟨f0, f1, f2, f3, f4, f5, f6⟩ := link_froz X2.out.box
  obtain ⟨ly, y0, y1, y2, y3, y4, y5, y6⟩ := link_cells X2.out.out
  obtain ⟨k0, k1, k2, k3, k4, k5, k6⟩ := link_froz X2.out.out
  go_wp2_with fail
  clear lx x0 x1 x2 x3 x4 x5 x6 f0 f1 f2 f3 f4 f5 f6 ly y0 y1 y2 y3 y4 y5 y6 k0 k1 k2 k3 k4 k5 k6
  obtain ⟨w3, hw3, C3, b3, s3, o3⟩ := (X2.out.set (j := 6) (by simp) (.int .i64 m)).put (.int .i64 K) (.int .i64 L) (.int .u8 S) (.slice (some ⟨g, 0, none⟩) n n) (.bool h) (.int .i64 A) (.int .i64 m)
  rw [hw3]
  obtain ⟨ly, y0, y1, y2, y3, y4, y5, y6⟩ := link_cells C3
  refine bodyPost_ret (by simp [results, Try.results27, go_sem, y0, y1, y2, y3, y4, y5, y6]; try rfl) rfl ?_
  have hs : w3.heap.size = w2.heap.size := by rw [s3]; simp [World.setCell]
  refine ⟨g, rfl, HG2.out.2.2.block (by omega) ?_, by have := HG2.out.1; omega, by have := HG2.out.2.1; omega, b3⟩
  rw [o3 g (by have := HG2.out.1; omega), Below.heap_setCell _ _ _ _ (by have := HG2.out.1; simp; omega)]

set_option maxHeartbeats 1000000 in
set_option maxRecDepth 100000 in
theorem stale_any (K L S : Int) (a : Option Addr) (n c : Nat) (h : Bool) (A B K' L' S' : Int) (a' : Option Addr) (n' c' : Nat) (w : World) :
    Calls Try.prog 28 #[.agg #[.int .i64 K, .int .i64 L, .int .u8 S, .slice a n c, .bool h, .int .i64 A, .int .i64 B], .agg #[.int .i64 K', .int .i64 L', .int .u8 S', .slice a' n' c']] w fun e w' => e = .returned (.bool (h && decide (A < 100) && !newB S' S)) ∧ Below w.heap.size w w' := by
  have B0 : Hid (Below w.heap.size w ((w.alloc (.cells #[.int .i64 K, .int .i64 L, .int .u8 S, .slice a n c, .bool h, .int .i64 A, .int .i64 B] 26)).alloc (.cells #[.int .i64 K', .int .i64 L', .int .u8 S', .slice a' n' c'] 24))) := ((Below.refl _ w).alloc (Nat.le_refl _) _).alloc (by simp) _
  have HN : Hid (∀ W, Calls Try.prog 21 #[.int .u8 S', .int .u8 S] W fun e w' => e = .returned (.bool (newB S' S)) ∧ w' = W) := fun W => newer_any S' S W
  generalize newB S' S = b at HN ⊢
  go_enter Try.func28, Try.ntmps28
  cases h with
  | false =>
    go_wp2_with fail
    go_ret
    exact ⟨rfl, B0.out⟩
  | true =>
    by_cases q : A < 100
    · rw [decide_eq_true q]
      go_wp2_with fail
      refine (HN.out _).mono ?_
      rintro e w1 ⟨rfl, rfl⟩
      cases b with
      | true =>
        go_wp2_with fail
        go_ret
        exact ⟨rfl, B0.out⟩
      | false =>
        go_wp2_with fail
        go_ret
        exact ⟨rfl, B0.out⟩
    · rw [decide_eq_false q]
      go_wp2_with fail
      go_ret
      exact ⟨rfl, B0.out⟩

end Go.Proofs.Ytiaolelkabbnmaa
