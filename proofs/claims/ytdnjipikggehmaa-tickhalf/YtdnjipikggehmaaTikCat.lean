/-
  slices.Concat of any two rows of numbers of 64 bits, however long, as long as memory may bear them: a new row that holds the one and, behind it, the other.
-/
import Derived.Test.YtdnjipikggehmaaTikRot
import Derived.ArgAppend
namespace Go.Proofs.Ytdnjipikggehmaa
open Go.RowKit
set_option linter.unusedVariables false

/-- since w0 nothing has turned below block N; block b, which is not below N, has G cells that may be written; the first k hold f -/
structure Gr (N : Nat) (w0 : World) (b G k : Nat) (f : Nat → Int) (w : World) : Prop where
  low : N ≤ b
  lt : b < w.heap.size
  any : ∀ t, t < G → (w.cell? ⟨b, 0 + t, none⟩).isSome = true
  cell : ∀ t, t < k → w.cell? ⟨b, 0 + t, none⟩ = some (.int .i64 (f t))
  froz : ∀ t, t < G → w.frozen? ⟨b, 0 + t, none⟩ = false
  bel : Below N w0 w
/-- f as far as k, then s -/
def cat (f : Nat → Int) (k : Nat) (s : Nat → Int) : Nat → Int := fun t => if t < k then f t else s (t - k)

theorem cell_out (b : Nat) : ∀ (vs : List Value) (o : Nat) (w : World) (t : Nat), t < o ∨ o + vs.length ≤ t → (w.setCells b o vs).cell? ⟨b, t, none⟩ = w.cell? ⟨b, t, none⟩
  | [], _, _, _, _ => rfl
  | v :: r, o, w, t, h => by
    rw [World.setCells, cell_out b r (o + 1) _ t (by simp at h; omega)]
    exact World.cell?_setCell_other _ _ _ _ (by simp at h; simp <;> omega)

theorem Gr.app {N : Nat} {w0 : World} {b G k n : Nat} {f s : Nat → Int} {w : World} (h : Gr N w0 b G k f w) (hn : k + n ≤ G) : Gr N w0 b G (k + n) (cat f k s) (w.setCells b (0 + k * 1) (vals s 0 n)) := by
  have e0 : 0 + k * 1 = k := by omega
  rw [e0]
  have th : w.there b k (vals s 0 n).length := fun j hj => by
    rw [vals_length] at hj
    have h1 := h.any (k + j) (by omega)
    have h2 := h.froz (k + j) (by omega)
    rw [Nat.zero_add] at h1 h2
    exact ⟨h1, h2⟩
  have inn : ∀ j, j < n → (w.setCells b k (vals s 0 n)).cell? ⟨b, k + j, none⟩ = some (.int .i64 (s j)) := fun j hj => World.rangeAt_setCells_same w b k (vals s 0 n) th j _ (by rw [vals_get hj, Nat.zero_add])
  refine ⟨h.low, by rw [size_cells]; exact h.lt, fun t ht => ?_, fun t ht => ?_, fun t ht => by rw [World.frozen?_setCells]; exact h.froz t ht, below_cells h.low _ _ _ h.bel⟩
  · rw [Nat.zero_add]
    have h1 := h.any t ht
    rw [Nat.zero_add] at h1
    by_cases q : t < k
    · rw [cell_out b _ _ _ _ (Or.inl q)]; exact h1
    · by_cases q2 : t < k + n
      · have := inn (t - k) (by omega)
        rw [show k + (t - k) = t by omega] at this
        rw [this]; rfl
      · rw [cell_out b _ _ _ _ (Or.inr (by rw [vals_length]; omega))]; exact h1
  · rw [Nat.zero_add]
    unfold cat
    by_cases q : t < k
    · have h1 := h.cell t q
      rw [Nat.zero_add] at h1
      rw [if_pos q, cell_out b _ _ _ _ (Or.inl q)]; exact h1
    · have := inn (t - k) (by omega)
      rw [show k + (t - k) = t by omega] at this
      rw [if_neg q]; exact this
theorem Gr.row {N : Nat} {w0 : World} {b G k : Nat} {f : Nat → Int} {w : World} (h : Gr N w0 b G k f w) : R64 w (some ⟨b, 0, none⟩) k f := fun _ => ⟨b, 0, rfl, h.lt, h.cell⟩

/-- append where there is room: of any row that lies elsewhere -/
theorem run_app {N : Nat} {w0 : World} {b G k : Nat} {f : Nat → Int} {W : World} (h : Gr N w0 b G k f W) (a : Option Addr) (n c : Nat) (s : Nat → Int) (hr : R64 W a n s) (hn : k + n ≤ G) (ty : TypeId) :
    (Builtin.append_ #[22, 22] ty #[.slice (some ⟨b, 0, none⟩) k G, .slice a n c]).run Try.prog W = .ok (.slice (some ⟨b, 0, none⟩) (k + n) G) (W.setCells b (0 + k * 1) (vals s 0 n)) := by
  obtain ⟨i, i1, i2, i3, i4⟩ := info32
  have go : ∀ ad : Addr, (∀ j u, (vals s 0 n)[j]? = some u → W.cell? (ad.add j) = some u) → (Builtin.append_ #[22, 22] ty #[.slice (some ⟨b, 0, none⟩) k G, .slice (some ad) n c]).run Try.prog W = .ok (.slice (some ⟨b, 0, none⟩) (k + n) G) (W.setCells b (0 + k * 1) (vals s 0 n)) := fun ad hc => by
    have q := run_append_room_cells (P := Try.prog) W 22 ty 3 i Try.underlying22 i1 b 0 k G ad n c (vals s 0 n) (by rw [vals_length, i3]; omega) hc (fun u hu => vals_one hu) hn
      (fun j hj => by rw [vals_length] at hj; rw [i3]; have := h.any (k + j) (by omega); rw [show 0 + k * 1 + j = 0 + (k + j) by omega]; exact this)
      (fun j hj => by rw [vals_length] at hj; rw [i3]; have := h.froz (k + j) (by omega); rw [show 0 + k * 1 + j = 0 + (k + j) by omega]; exact this)
    rw [i3] at q
    exact q
  rcases Nat.eq_zero_or_pos n with q | q
  · subst q
    cases a with
    | some ad => exact go ad (fun j u hu => absurd (vals_at hu).1 (by omega))
    | none =>
      have e : vals s 0 0 = [] := rfl
      rw [e]
      simp [Builtin.append_, run_underlying Try.underlying22, sizeOf, typeInfo, i1, Builtin.lenOf, show k ≤ G by omega, run_firstCells_none, World.setCells, storeCells]
  · obtain ⟨bb, off, rfl, h1, h2⟩ := hr q
    exact go ⟨bb, off, none⟩ (fun j u hu => by
      obtain ⟨hj, rfl⟩ := vals_at hu
      rw [Nat.zero_add, Addr.add_lit]
      exact h2 j hj)

theorem zero_get {z : Value} (h : z.cells.size = 1) {n t : Nat} (ht : t < n) : ((Builtin.zeroCells z.cells n)[t]?).isSome = true := by
  rw [Array.getElem?_eq_getElem (by rw [zero_size z h]; exact ht)]
  rfl

set_option maxHeartbeats 1000000 in
theorem grow_room (n : Nat) (hn : 0 < n) (hm : n ≤ 35184372088832) (w : World) (f : Nat → Int) :
    Calls Try.prog 24 #[.slice none 0 0, .int .i64 n] w fun e w' => ∃ g G, e = .returned (.slice (some ⟨g, 0, none⟩) 0 G) ∧ n ≤ G ∧ Gr w.heap.size w g G 0 f w' := by
  obtain ⟨i, i1, i2, i3, i4⟩ := info32
  have hr := fun ty => Lib.run_append_nil_zeros (P := Try.prog) w 22 3 ty 3 i (.int .i64 0) .i64 .i64 Try.underlying22 Try.underlying3 i1 i2 n hn (by omega) (by omega) (by rw [i4]; omega)
  have g1 := grownCap_ge w n 0 3
  have g2 := grownCap_le_maxLen w n 0 3 (by unfold maxLen; omega)
  generalize grownCap w n 0 3 = G at hr g1 g2
  have hA : (Builtin.zeroCells (Value.int .i64 0).cells n ++ Builtin.zeroCells (Value.int .i64 0).cells (G - n)).size = G := by
    rw [Array.size_append, zero_size _ rfl, zero_size _ rfl]; omega
  generalize Builtin.zeroCells (Value.int .i64 0).cells n ++ Builtin.zeroCells (Value.int .i64 0).cells (G - n) = A at hr hA
  have HB : Below w.heap.size w (w.drew.alloc (.cells A 3)) := ((Below.refl _ w).drew).alloc (Nat.le_refl _) _
  have HG : Hid (Gr w.heap.size w w.heap.size G 0 f (w.drew.alloc (.cells A 3))) := by
    have hh : (w.drew.alloc (.cells A 3)).heap[w.heap.size]? = some (.cells A 3) := heap_alloc_new w.drew _
    refine ⟨Nat.le_refl _, by simp, fun t ht => ?_, fun t ht => absurd ht (by omega), fun t ht => ?_, HB⟩
    · unfold World.cell?
      rw [hh]
      simp [show t < A.size by omega]
    · unfold World.frozen?
      rw [hh]
      simp
  have z1 : ¬ (n : Int) < 0 := by omega
  have z2 : (0 : Int) < (n : Int) := by omega
  unfold maxLen at g2
  clear hA i1 i2 i3 i4 HB
  go_enter Try.func24, Try.ntmps24
  go_wp2_with (at_builtin; refine Lib.wpList_append_run _ rfl _ _ _ _ rfl _ _ rfl rfl _ _ (hr _) ?_)
  go_ret
  exact ⟨_, G, rfl, g1, HG.out⟩

set_option maxHeartbeats 1000000 in
theorem grow_none (w : World) : Calls Try.prog 24 #[.slice none 0 0, .int .i64 0] w fun e w' => e = .returned (.slice none 0 0) ∧ w' = w := by
  go_enter Try.func24, Try.ntmps24
  go_wp2_with fail
  go_ret
  exact ⟨rfl, rfl⟩

theorem R64.at {N : Nat} {w0 : World} {b G k : Nat} {f : Nat → Int} {w : World} {a : Option Addr} {n : Nat} {l : Nat → Int} (hr : R64 w0 a n l) (h : Gr w0.heap.size w0 b G k f w) : R64 w a n l := hr.step h.bel

set_option maxHeartbeats 4000000 in
set_option maxRecDepth 100000 in
theorem concat_two (sb : Nat) (a1 a2 : Option Addr) (n1 n2 c1 c2 : Nat) (f1 f2 : Nat → Int) (w : World) (hsb : sb < w.heap.size) (s0 : w.cell? ⟨sb, 0, none⟩ = some (.slice a1 n1 c1)) (s1 : w.cell? ⟨sb, 1, none⟩ = some (.slice a2 n2 c2))
    (hn : 0 < n1 + n2) (hm : n1 + n2 ≤ 35184372088832) (hr1 : R64 w a1 n1 f1) (hr2 : R64 w a2 n2 f2) :
    Calls Try.prog 13 #[.slice (some ⟨sb, 0, none⟩) 2 2] w fun e w' => ∃ g G, e = .returned (.slice (some ⟨g, 0, none⟩) (n1 + n2) G) ∧ R64 w' (some ⟨g, 0, none⟩) (n1 + n2) (cat f1 n1 f2) ∧ Below w.heap.size w w' := by
  have H1 : Hid (R64 w a1 n1 f1) := hr1
  have H2 : Hid (R64 w a2 n2 f2) := hr2
  clear hr1 hr2
  have z1 : ¬ (n1 : Int) < 0 := by omega
  have z2 : ¬ (n1 : Int) + (n2 : Int) < 0 := by omega
  have hg := grow_room (n1 + n2) hn hm w (fun _ => 0)
  rw [show ((n1 + n2 : Nat) : Int) = (n1 : Int) + (n2 : Int) by omega] at hg
  go_enter Try.func13, Try.ntmps13
  go_wp2_with fail
  refine wp_loop_rounds 3 ?_
  rw [rounds_succ]
  go_wp2_with fail
  rw [rounds_succ]
  go_wp2_with fail
  rw [rounds_succ]
  go_wp2_with fail
  refine hg.mono ?_
  rintro e w1 ⟨g, G, rfl, hG, hgr⟩
  have HG1 : Hid (Gr w.heap.size w g G 0 (fun _ => 0) w1) := hgr
  have HGn : Hid (n1 + n2 ≤ G) := hG
  have t0 := (hgr.bel.cell (p := ⟨sb, 0, none⟩) hsb).trans s0
  have t1 := (hgr.bel.cell (p := ⟨sb, 1, none⟩) hsb).trans s1
  have hr := run_app HG1.out a1 n1 c1 f1 (H1.out.step HG1.out.bel) (by have := HGn.out; omega)
  have hgr2 : Gr w.heap.size w g G (0 + n1) (cat (fun _ => 0) 0 f1) (w1.setCells g (0 + 0 * 1) (vals f1 0 n1)) := HG1.out.app (by have := HGn.out; omega)
  rw [show 0 + 0 * 1 = 0 by rfl, Nat.zero_add] at hr hgr2
  obtain ⟨w2, hw2⟩ : ∃ w2, w2 = w1.setCells g 0 (vals f1 0 n1) := ⟨_, rfl⟩
  rw [← hw2] at hr hgr2
  have HG2 : Hid (Gr w.heap.size w g G n1 (cat (fun _ => 0) 0 f1) w2) := hgr2
  have u1 : w2.cell? ⟨sb, 1, none⟩ = some (.slice a2 n2 c2) := (hgr2.bel.cell (p := ⟨sb, 1, none⟩) hsb).trans s1
  have HE : Hid (n1 + n2 ≤ G) := HGn.out
  have hr3 := run_app HG2.out a2 n2 c2 f2 (H2.out.step HG2.out.bel) HE.out
  have hgr3 : Gr w.heap.size w g G (n1 + n2) (cat (cat (fun _ => 0) 0 f1) n1 f2) (w2.setCells g (0 + n1 * 1) (vals f2 0 n2)) := HG2.out.app HE.out
  obtain ⟨w3, hw3⟩ : ∃ w3, w3 = w2.setCells g (0 + n1 * 1) (vals f2 0 n2) := ⟨_, rfl⟩
  rw [← hw3] at hr3 hgr3
  have e3 : cat (cat (fun _ => 0) 0 f1) n1 f2 = cat f1 n1 f2 := by
    funext t
    unfold cat
    simp
  rw [e3] at hgr3
  have HG3 : Hid (R64 w3 (some ⟨g, 0, none⟩) (n1 + n2) (cat f1 n1 f2) ∧ Below w.heap.size w w3) := ⟨hgr3.row, hgr3.bel⟩
  clear hgr hG hg s0 s1 hgr2 hw2 hgr3 hw3 e3 HGn HG1 HG2 HE
  go_wp2_with fail
  refine wp_loop_rounds 3 ?_
  rw [rounds_succ]
  go_wp2_with (at_builtin; refine Lib.wpList_append_run _ rfl _ _ _ _ rfl _ _ rfl rfl _ _ (hr _) ?_)
  clear hr t0 t1
  rw [rounds_succ]
  go_wp2_with (at_builtin; refine Lib.wpList_append_run _ rfl _ _ _ _ rfl _ _ rfl rfl _ _ (hr3 _) ?_)
  clear hr3 u1
  rw [rounds_succ]
  go_wp2_with fail
  go_ret
  exact ⟨g, G, rfl, HG3.out.1, HG3.out.2⟩

set_option maxHeartbeats 4000000 in
set_option maxRecDepth 100000 in
theorem concat_zero (sb : Nat) (a1 a2 : Option Addr) (c1 c2 : Nat) (w : World) (s0 : w.cell? ⟨sb, 0, none⟩ = some (.slice a1 0 c1)) (s1 : w.cell? ⟨sb, 1, none⟩ = some (.slice a2 0 c2)) :
    Calls Try.prog 13 #[.slice (some ⟨sb, 0, none⟩) 2 2] w fun e w' => e = .returned (.slice none 0 0) ∧ w' = w := by
  have hr : ∀ (a : Option Addr) (c : Nat) (ty : TypeId) (W : World), (Builtin.append_ #[22, 22] ty #[.slice none 0 0, .slice a 0 c]).run Try.prog W = .ok (.slice none 0 0) W := fun a c ty W => by
    obtain ⟨i, i1, i2, i3, i4⟩ := info32
    cases a with
    | none => simp [Builtin.append_, run_underlying Try.underlying22, sizeOf, typeInfo, i1, Builtin.lenOf, run_firstCells_none]
    | some ad =>
      have q := run_firstCells_some (P := Try.prog) W i.size 0 ad 0 c [] (by simp) (fun j v h => by simp at h)
      simp [Builtin.append_, run_underlying Try.underlying22, sizeOf, typeInfo, i1, Builtin.lenOf, q]
  go_enter Try.func13, Try.ntmps13
  go_wp2_with fail
  refine wp_loop_rounds 3 ?_
  rw [rounds_succ]
  go_wp2_with fail
  rw [rounds_succ]
  go_wp2_with fail
  rw [rounds_succ]
  go_wp2_with fail
  refine (grow_none w).mono ?_
  rintro e w1 ⟨rfl, rfl⟩
  go_wp2_with fail
  refine wp_loop_rounds 3 ?_
  rw [rounds_succ]
  go_wp2_with (at_builtin; refine Lib.wpList_append_run _ rfl _ _ _ _ rfl _ _ rfl rfl _ _ (hr _ _ _ _) ?_)
  rw [rounds_succ]
  go_wp2_with (at_builtin; refine Lib.wpList_append_run _ rfl _ _ _ _ rfl _ _ rfl rfl _ _ (hr _ _ _ _) ?_)
  rw [rounds_succ]
  go_wp2_with fail
  go_ret
  exact ⟨rfl, rfl⟩

/-- whatever the two are -/
theorem concat_all (sb : Nat) (a1 a2 : Option Addr) (n1 n2 c1 c2 : Nat) (f1 f2 : Nat → Int) (w : World) (hsb : sb < w.heap.size) (s0 : w.cell? ⟨sb, 0, none⟩ = some (.slice a1 n1 c1)) (s1 : w.cell? ⟨sb, 1, none⟩ = some (.slice a2 n2 c2))
    (hm : n1 + n2 ≤ 35184372088832) (hr1 : R64 w a1 n1 f1) (hr2 : R64 w a2 n2 f2) :
    Calls Try.prog 13 #[.slice (some ⟨sb, 0, none⟩) 2 2] w fun e w' => ∃ a c, e = .returned (.slice a (n1 + n2) c) ∧ R64 w' a (n1 + n2) (cat f1 n1 f2) ∧ Below w.heap.size w w' := by
  rcases Nat.eq_zero_or_pos (n1 + n2) with q | q
  · obtain ⟨rfl, rfl⟩ : n1 = 0 ∧ n2 = 0 := by omega
    refine (concat_zero sb a1 a2 c1 c2 w s0 s1).mono ?_
    rintro e w' ⟨rfl, rfl⟩
    exact ⟨none, 0, rfl, fun h => absurd h (by omega), Below.refl _ _⟩
  · refine (concat_two sb a1 a2 n1 n2 c1 c2 f1 f2 w hsb s0 s1 q hm hr1 hr2).mono ?_
    rintro e w' ⟨g, G, rfl, h1, h2⟩
    exact ⟨_, _, rfl, h1, h2⟩

end Go.Proofs.Ytdnjipikggehmaa
